import Derived.Test.YtddbpnplbcjpgaaGreatDoorLp17
import Derived.RegionTactic
namespace Go.Proofs.YtddbpnplbcjpgaaGreatDoor
open Go.RowKit
theorem clone_nilW (w:World) :
   Calls Tryz.prog 72 #[.slice none 0 0] w fun e w'=>e=.returned (.slice none 0 0)∧w=w':=by
 have heq:∀ w:World,(binOp BinOp.eql 28 (.slice none 0 0) (.slice none 0 0)).run Tryz.prog w=.ok (.bool true) w:=fun w=>Go.Lib.run_eql_slice_nil w _ _ none 0 0 0 0 Tryz.underlying28
 go_enter Tryz.func72,Tryz.ntmps72
 go_wp2
 go_ret
 exact ⟨rfl,rfl⟩
theorem clone_ws (v:Value) (l:List Wr) (w:World) (ho:ownsW w 0 v l) (hz:l=[]→v=.slice none 0 0) (h6:l.length≤1000000) :
   Calls Tryz.prog 72 #[v] w fun e w'=>∃ v',e=.returned v'∧ownsW w' w.heap.size v' l∧(l=[]→v'=.slice none 0 0)∧Below w.heap.size w w':=by
 by_cases h:l=[]
 · subst h
   rw [hz rfl]
   exact (clone_nilW w).mono fun e w' ⟨h1,h2⟩=>⟨_,h1,ownsW_nil _ _,fun _=>rfl,by rw [h2];exact Below.refl _ _⟩
 · exact (clone_wrs v l w ho.is (List.length_pos_iff.2 h) h6).mono fun e w' ⟨v',h1,h2,h3⟩=>⟨v',h1,h2,fun e=>absurd e h,h3⟩
def TogIs (w:World) (ws b:List Wr) (e:Ending) (w':World):Prop :=
 (togE ws b=(0,-1)∧∃ u,e=.returned (.tuple #[u,.nilIface])∧ownsW w' w.heap.size u (accW ws b)∧(accW ws b=[]→u=.slice none 0 0)∧Below w.heap.size w w') ∨
 ((togE ws b).1≠0∧∃ err,e=.returned (.tuple #[.slice none 0 0,err])∧anyErr w' err (togE ws b)∧Below w.heap.size w w')
theorem togE_twice {ws b:List Wr} {k:Nat} {x:Wr} (hn:∀ y∈b.take k,¬ clash ws y) (hx:b[k]? = some x) (hc:clash ws x):togE ws b=(9,(k:Int)):=by
 unfold togE
 rw [twA_some b k 0 x hn hx hc]
 simp
theorem togE_none {ws b:List Wr} (hn:∀ y∈b,¬ clash ws y):togE ws b=if 300 < (accW ws b).length then (12,-1) else (0,-1):=by
 unfold togE
 rw [(twA_none b 0).2 hn,accW_len]
theorem take_all {b:List Wr} {n:Nat} (h:n=b.length):b.take n=b:=List.take_of_length_le (by rw [h];exact Nat.le_refl _)
structure TG (w:World) (ws b:List Wr) (k:Nat) (av:Value) (wr:World):Prop where
 own:ownsW wr w.heap.size av (accW ws (b.take k))
 nil:accW ws (b.take k)=[]→av=.slice none 0 0
 none:∀ y∈b.take k,¬ clash ws y
 bel:Below w.heap.size w wr
theorem TG.there {w wr w':World} {ws b:List Wr} {k:Nat} {av:Value} {x y:Wr} (h:TG w ws b k av wr) (hw:ws.Pairwise late) (hb:b.Pairwise late) (hx:b[k]? = some x) (hy:y∈ws) (e:y=x) (hbel:Below wr.heap.size wr w'):TG w ws b (k + 1) av w':=by
 have h1:=accW_there hw hb hx hy (by rw [e])
 refine ⟨by rw [h1];exact h.own.below hbel,by rw [h1];exact h.nil,fun z hz=>?_,h.bel.trans (hbel.mono h.bel.size)⟩
 rw [take_one hx] at hz
 rcases List.mem_append.1 hz with hz | hz
 · exact h.none z hz
 · obtain rfl:=List.mem_singleton.1 hz
   rintro ⟨v,hv,e1,e2⟩
   exact e2 ((late_ids hw hv hy (e1.trans (by rw [e]))).trans e)
theorem TG.put {w wr w':World} {ws b:List Wr} {k p:Nat} {av u:Value} {x:Wr} (h:TG w ws b k av wr) (hw:ws.Pairwise late) (hb:b.Pairwise late) (hx:b[k]? = some x) (hp:p≤(accW ws (b.take k)).length)
   (h1:∀ i,i < p→0 < cAt (accW ws (b.take k)) (wid x) i) (h2:∀ i,p≤i→i < (accW ws (b.take k)).length→cAt (accW ws (b.take k)) (wid x) i≤0) (hn:¬ (p < (accW ws (b.take k)).length∧cAt (accW ws (b.take k)) (wid x) p=0))
   (ho:ownsW w' w.heap.size u ((accW ws (b.take k)).take p ++ x :: (accW ws (b.take k)).drop p)) (hbel:Below w.heap.size w w'):TG w ws b (k + 1) u w':=by
 have hl:(accW ws (b.take k)).Pairwise late:=accW_late hw (take_late hb k)
 have g1:∀ i y,i < p→(accW ws (b.take k))[i]? = some y→late y x:=fun i y hi hy=>(cAt_yes hy).1 (h1 i hi)
 have g2:∀ i y,p≤i→(accW ws (b.take k))[i]? = some y→late x y:=fun i y hi hy=>by
   have hil:=(List.getElem?_eq_some_iff.1 hy).1
   have hne:wid y≠wid x:=fun e=>by
     by_cases hip:i=p
     · subst hip;exact hn ⟨hil,(cAt_eq hy).2 e⟩
     · obtain ⟨z,hz⟩:∃ z,(accW ws (b.take k))[p]? = some z:=⟨_,List.getElem?_eq_getElem (by omega)⟩
       have hpz:=h2 p (Nat.le_refl _) (by omega)
       have hzy:late z y:=by
         have:=List.pairwise_iff_getElem.1 hl p i (by omega) hil (by omega)
         rwa [(List.getElem?_eq_some_iff.1 hz).2,(List.getElem?_eq_some_iff.1 hy).2] at this
       have hzx:late z x:=by
         rw [late_lt] at hzy ⊢
         unfold wid at e
         simp only [Prod.mk.injEq] at e
         omega
       have:=(cAt_yes (x:=x) hz).2 hzx
       omega
   rcases late_total hne with e | e
   · have:=(cAt_yes (x:=x) hy).2 e
     have:=h2 i hi hil
     omega
   · exact e
 have e:=accW_ins hw hb hx hp g1 g2
 refine ⟨by rw [e];exact ho,fun e2=>?_,fun z hz=>?_,hbel⟩
 · rw [e] at e2;simp at e2
 · rw [take_one hx] at hz
   rcases List.mem_append.1 hz with hz | hz
   · exact h.none z hz
   · obtain rfl:=List.mem_singleton.1 hz
     rintro ⟨v,hv,e1,_⟩
     have hvA:v∈accW ws (b.take k):=accW_mem.2 (.inl hv)
     obtain ⟨i,hi,e3⟩:=List.getElem_of_mem hvA
     have hv2:(accW ws (b.take k))[i]? = some v:=by rw [List.getElem?_eq_getElem hi,e3]
     by_cases hip:i < p
     · exact late_ne (g1 i v hip hv2) e1
     · exact late_ne (g2 i v (by omega) hv2) e1.symm
set_option maxRecDepth 100000 in
set_option maxHeartbeats 8000000 in
theorem together_any (P:Nat) (F:Nat→Prop) (s:LogS) (v:Value) (b:List Wr) (w:World) (h:LogAt w P F s) (ok:LogOk s) (hv:IsWrs w v b) (hb:b.Pairwise late) (hbl:b.length≤60) (hok:∀ x∈b,x.key.size≤140737488351232∧x.value.size≤140737488351232) :
   Calls Tryz.prog 38 #[.pointer (some ⟨P,0,none⟩),v] w (TogIs w s.ws b):=by
 obtain ⟨vh,vw,h⟩:=h
 have p2:=h.c2
 obtain ⟨ws,hws⟩:∃ ws,ws=s.ws:=⟨_,rfl⟩
 have HO:=Lib.hid h.ows
 have HZ:=Lib.hid h.nil
 have HS:=Lib.hid ok.srt
 have hln:=ok.len
 rw [←hws] at HO HZ HS hln ⊢
 obtain ⟨a,c,rfl,hf⟩:=hv.form
 have HF:=Lib.hid hf
 have HBL:=Lib.hid hb
 have HOK:=Lib.hid hok
 have HLN:=Lib.hid hln
 obtain ⟨n,hn⟩:∃ n,n=b.length:=⟨_,rfl⟩
 rw [←hn] at hbl ⊢
 have HN:=Lib.hid hn
 clear h ok hws hv hb hok hf hn hln
 go_enter Tryz.func38,Tryz.ntmps38
 go_wp2_with (go_at_call 72;refine (clone_ws vw ws _ HO.out HZ.out (by have:=HLN.out;omega)).mono ?_;rintro r w1 ⟨u,rfl,ho,hz,hb1⟩;have HT0:Hid (TG w ws b 0 u w1):=Lib.hid ⟨by rw [List.take_zero,accW_nil HS.out];exact ho,by rw [List.take_zero,accW_nil HS.out];exact hz,fun y hy=>(by simp at hy),hb1⟩;clear ho hz hb1)
 go_loopw [6,18] (fun av i wr=>∃ k:Nat,k≤n∧i=.int .i64 k∧TG w ws b k av wr) (fun _ i _=>n - (intOf i).toNat)
 case atStart=>exact ⟨0,by omega,rfl,HT0.out⟩
 case round =>
   obtain ⟨k,hk,rfl,ht⟩:=hrel
   have HT:=Lib.hid ht
   have HSR:=Lib.hid ht.bel.size
   clear ht HT0
   by_cases hlt:k < n
   · have b1:decide ((k:Int) < (n:Int))=true:=by simpa using hlt
     obtain ⟨x, hx⟩ : ∃ x, b[k]? = some x := ⟨b[k]'(by rw [← HN.out]; exact hlt), List.getElem?_eq_getElem _⟩
     obtain ⟨bb,off,rfl,hbl2,c0,c1,c2,c3,c4,c5⟩:=HF.out k x hx
     have hsz:=HOK.out x (List.mem_of_getElem? hx)
     have HX:=Lib.hid hx
     obtain ⟨T,Re,K,key,val,N⟩:=x
     simp only at c0 c1 c2 c3 c4 c5 hsz
     obtain ⟨hks,hvs⟩:=hsz
     have d:∀ j u,w.cell? ⟨bb,j,none⟩=some u→wr.cell? ⟨bb,j,none⟩=some u:=fun j u hu=>(HT.out.bel.cell (p:=⟨bb,j,none⟩) hbl2).trans hu
     have e0:=d _ _ c0
     have e1:=d _ _ c1
     have e2:=d _ _ c2
     have e3:=d _ _ c3
     have e4:=d _ _ c4
     have e5:=d _ _ c5
     have HKS:=Lib.hid hks
     have HVS:=Lib.hid hvs
     obtain ⟨A,hA⟩:∃ A,A=accW ws (b.take k):=⟨_,rfl⟩
     have HA:=Lib.hid hA
     have hAl:A.length≤400:=by
       rw [hA,accW_len]
       have h1:=HLN.out
       have h2:(freshW ws (b.take k)).length≤(b.take k).length:=List.length_filter_le _ _
       rw [List.length_take] at h2
       omega
     have HAL:=Lib.hid hAl
     have HOA:Hid (ownsW wr w.heap.size u6 A):=Lib.hid (by rw [hA];exact HT.out.own)
     have HAS:Hid (A.Pairwise late):=Lib.hid (by rw [hA];exact accW_late HS.out (take_late HBL.out k))
     clear hx c0 c1 c2 c3 c4 c5 d hbl2 hks hvs hA hAl
     go_wp2_with fail
     obtain ⟨wB,hwB⟩:∃ wB,wB=wr.alloc (.cells #[.int .i64 T,.int .i64 Re,.int .i64 K,.string key,.string val,.int .i64 N] 26):=⟨_,rfl⟩
     have hrow:wB.heap[wr.heap.size]? = some (.cells #[.int .i64 T,.int .i64 Re,.int .i64 K,.string key,.string val,.int .i64 N] 26 (0,0)):=by rw [hwB];exact heap_alloc_new _ _
     have HROW:=Lib.hid hrow
     have HBB:Hid (Below wr.heap.size wr wB):=Lib.hid (by rw [hwB];exact (Below.refl _ _).alloc (Nat.le_refl _) _)
     have HSB:Hid (wr.heap.size < wB.heap.size):=Lib.hid (by rw [hwB];simp)
     rw [←hwB]
     clear hwB hrow e0 e1 e2 e3 e4 e5
     refine (lplace_any u6 A T Re wB (HOA.out.below HBB.out).is (by have:=HAL.out;omega) HAS.out).mono ?_
     rintro r w2 ⟨p,hp,h1,h2,rfl,hb2⟩
     have HPP:Hid (p≤A.length∧(∀ k,k < p→0 < cAt A (T,Re) k)∧(∀ k,p≤k→k < A.length→cAt A (T,Re) k≤0)):=Lib.hid ⟨hp,h1,h2⟩
     have HB2:Hid (Below wr.heap.size wr w2):=Lib.hid (HBB.out.trans (hb2.mono HBB.out.size))
     have hrow2:w2.heap[wr.heap.size]? = some (.cells #[.int .i64 T,.int .i64 Re,.int .i64 K,.string key,.string val,.int .i64 N] 26 (0,0)):=(hb2.block _ HSB.out).trans HROW.out
     have HROW2:=Lib.hid hrow2
     have g0:=cell_of_row _ _ 0 _ _ _ hrow2
     have g1:=cell_of_row _ _ 1 _ _ _ hrow2
     have g2:=cell_of_row _ _ 2 _ _ _ hrow2
     have g3:=cell_of_row _ _ 3 _ _ _ hrow2
     have g4:=cell_of_row _ _ 4 _ _ _ hrow2
     have g5:=cell_of_row _ _ 5 _ _ _ hrow2
     simp only [List.getElem?_toArray,List.getElem?_cons_zero,List.getElem?_cons_succ] at g0 g1 g2 g3 g4 g5
     have hpA:p≤400:=Nat.le_trans hp HAL.out
     clear hp h1 h2 hb2 hrow2
     by_cases hth:p < A.length∧cAt A (T,Re) p=0
     · rw [decide_eq_true hth]
       obtain ⟨y, hy⟩ : ∃ y, A[p]? = some y := ⟨A[p]'hth.1, List.getElem?_eq_getElem _⟩
       have hyw:wid y=wid ⟨T,Re,K,key,val,N⟩:=(cAt_eq hy).1 hth.2
       have hys:y∈ws:=accW_own HBL.out HX.out (by rw [←HA.out];exact List.mem_of_getElem? hy) hyw
       have hpl:p < A.length:=hth.1
       obtain ⟨av,ac,rfl,hfa⟩:=(HOA.out.below HB2.out).is.form
       obtain ⟨m,hm⟩:∃ m,m=A.length:=⟨_,rfl⟩
       rw [←hm] at hpl HOA HT ⊢
       have hplI:(p:Int) < (m:Int):=by omega
       have hm4:m≤400:=by rw [hm];exact HAL.out
       obtain ⟨ab,aoff,rfl,_,f0,f1,f2,f3,f4,f5⟩:=hfa p y hy
       have HYS:=Lib.hid hys
       obtain ⟨T',Re',K',key',val',N'⟩:=y
       simp only at f0 f1 f2 f3 f4 f5
       simp only [wid,Prod.mk.injEq] at hyw
       obtain ⟨rfl,rfl⟩:=hyw
       clear hy hys hfa hth hm
       by_cases he:K'=K
       · subst he
         by_cases he:key'=key
         · subst he
           by_cases he:val'=val
           · subst he
             by_cases he:N'=N
             · subst he
               go_wp2
               go_quiet (fail)
               go_wp2
               go_roundw
               · exact ⟨k + 1,by omega,by simp,HT.out.there HS.out HBL.out HX.out HYS.out rfl (below_drewN HB2.out _)⟩
               · simp [intOf];omega
             · have HTE:Hid (togE ws b=(9,(k:Int))):=Lib.hid (togE_twice HT.out.none HX.out ⟨_,HYS.out,rfl,fun e=>by simp only [Wr.mk.injEq] at e;exact he e.2.2.2.2.2⟩)
               have x1:(N' == N)=false:=by simpa using he
               have x2:(N' != N)=true:=by simpa using he
               clear he
               go_wp2
               go_quiet (fail)
               go_wp2
               go_ret2
               exact .inr (by rw [HTE.out];exact ⟨by simp,_,rfl,.inl (atIs.new _ 9 _ (by simp)),(below_drewN (HT.out.bel.trans (HB2.out.mono HSR.out)) _).alloc (Nat.le_trans HSR.out (below_drewN HB2.out _).size) _⟩)
           · have HTE:Hid (togE ws b=(9,(k:Int))):=Lib.hid (togE_twice HT.out.none HX.out ⟨_,HYS.out,rfl,fun e=>by simp only [Wr.mk.injEq] at e;exact he e.2.2.2.2.1⟩)
             have x1:(val'.toList == val.toList)=false:=by rw [ByteArray.toList_eq,ByteArray.toList_eq,beq_eq_false_iff_ne];intro e9;exact he (bytes_ext e9)
             have x2:(val'.toList != val.toList)=true:=by rw [bne,x1];rfl
             clear he
             go_wp2
             go_quiet (fail)
             go_wp2
             go_ret2
             exact .inr (by rw [HTE.out];exact ⟨by simp,_,rfl,.inl (atIs.new _ 9 _ (by simp)),(below_drewN (HT.out.bel.trans (HB2.out.mono HSR.out)) _).alloc (Nat.le_trans HSR.out (below_drewN HB2.out _).size) _⟩)
         · have HTE:Hid (togE ws b=(9,(k:Int))):=Lib.hid (togE_twice HT.out.none HX.out ⟨_,HYS.out,rfl,fun e=>by simp only [Wr.mk.injEq] at e;exact he e.2.2.2.1⟩)
           have x1:(key'.toList == key.toList)=false:=by rw [ByteArray.toList_eq,ByteArray.toList_eq,beq_eq_false_iff_ne];intro e9;exact he (bytes_ext e9)
           have x2:(key'.toList != key.toList)=true:=by rw [bne,x1];rfl
           clear he
           go_wp2
           go_quiet (fail)
           go_wp2
           go_ret2
           exact .inr (by rw [HTE.out];exact ⟨by simp,_,rfl,.inl (atIs.new _ 9 _ (by simp)),(below_drewN (HT.out.bel.trans (HB2.out.mono HSR.out)) _).alloc (Nat.le_trans HSR.out (below_drewN HB2.out _).size) _⟩)
       · have HTE:Hid (togE ws b=(9,(k:Int))):=Lib.hid (togE_twice HT.out.none HX.out ⟨_,HYS.out,rfl,fun e=>by simp only [Wr.mk.injEq] at e;exact he e.2.2.1⟩)
         have x1:(K' == K)=false:=by simpa using he
         have x2:(K' != K)=true:=by simpa using he
         clear he
         go_wp2
         go_quiet (fail)
         go_wp2
         go_ret2
         exact .inr (by rw [HTE.out];exact ⟨by simp,_,rfl,.inl (atIs.new _ 9 _ (by simp)),(below_drewN (HT.out.bel.trans (HB2.out.mono HSR.out)) _).alloc (Nat.le_trans HSR.out (below_drewN HB2.out _).size) _⟩)
     · rw [decide_eq_false hth]
       have HTH:=Lib.hid hth
       have hne:∀ (W:World),w2.heap.size≤W.heap.size→u6.ownBlock≠some W.heap.size:=fun W hW e=>by
         have h1:=(HOA.out.lt _ e).2
         have h2:=HB2.out.size
         omega
       have HNE:=Lib.hid hne
       clear hth hne
       go_wp2_with fail
       refine (lapart_any T Re K key val N _ HKS.out HVS.out).mono ?_
       rintro r w3 ⟨rfl,hb3⟩
       have HB3:Hid (Below wr.heap.size wr w3):=Lib.hid (HB2.out.trans (hb3.mono HB2.out.size))
       have HS3:=Lib.hid hb3.size
       clear hb3
       go_wp2_with fail
       refine (lins_any u6 p A.length w3.heap.size A ⟨T,Re,K,key,val,N⟩ _ w.heap.size ((HOA.out.below HB3.out).alloc _) rfl HPP.out.1 (by have:=HAL.out;omega) (heap_alloc_new _ _) (HNE.out w3 HS3.out) (by have:=HSR.out;have:=HB3.out.size;simp;omega)).mono ?_
       rintro r w4 ⟨u,rfl,ho4,hb4⟩
       have HO4:=Lib.hid ho4
       have HB4:Hid (Below w.heap.size w w4):=Lib.hid (((HT.out.bel.trans (HB3.out.mono HSR.out)).alloc (Nat.le_trans HSR.out HB3.out.size) _).trans hb4)
       clear ho4 hb4
       go_wp2
       go_roundw
       · refine ⟨k + 1,by omega,by simp,?_⟩
         have h1:=HPP.out
         have h2:=HTH.out
         have h3:=HO4.out
         rw [HA.out] at h1 h2 h3
         exact HT.out.put HS.out HBL.out HX.out h1.1 h1.2.1 h1.2.2 h2 h3 HB4.out
       · simp [intOf];omega
   · have b1:decide ((k:Int) < (n:Int))=false:=by simp;omega
     obtain rfl:k=n:=by omega
     have HNO:Hid (∀ y∈b,¬ clash ws y):=Lib.hid (by have:=HT.out.none;rwa [take_all HN.out] at this)
     have HOB:Hid (ownsW wr w.heap.size u6 (accW ws b)∧(accW ws b=[]→u6=.slice none 0 0)):=Lib.hid (by have h1:=HT.out.own;have h2:=HT.out.nil;rw [take_all HN.out] at h1 h2;exact ⟨h1,h2⟩)
     have HTB:=Lib.hid HT.out.bel
     clear HT
     obtain ⟨av,ac,rfl,_⟩:=HOB.out.1.is.form
     obtain ⟨m,hm⟩:∃ m,m=(accW ws b).length:=⟨_,rfl⟩
     rw [←hm] at HOB ⊢
     have HM:=Lib.hid hm
     clear hm
     by_cases hf:300 < m
     · have b2:decide ((300:Int) < (m:Int))=true:=by simp;omega
       have HTE:Hid (togE ws b=(12,-1)):=Lib.hid (by rw [togE_none HNO.out,←HM.out,if_pos hf])
       clear hf
       go_wp2
       go_ret2
       exact .inr (by rw [HTE.out];exact ⟨by simp,_,rfl,.inr ⟨by simp,rfl,rfl⟩,HTB.out⟩)
     · have b2:decide ((300:Int) < (m:Int))=false:=by simp;omega
       have HTE:Hid (togE ws b=(0,-1)):=Lib.hid (by rw [togE_none HNO.out,←HM.out,if_neg hf])
       clear hf
       go_wp2
       go_ret2
       exact .inl ⟨HTE.out,_,rfl,HOB.out.1,HOB.out.2,HTB.out⟩
end Go.Proofs.YtddbpnplbcjpgaaGreatDoor
namespace Go.Proofs.YtddbpnplbcjpgaaGreatDoor
open Go.RowKit
theorem ofF_drop {l:List Ent} {k:Nat} {t:Ent} (h:l[k]? = some t) (x:Int):ofF (l.drop k) x=if t.rep=x then t.time else ofF (l.drop (k + 1)) x:=by
 obtain ⟨hk,ht⟩:=List.getElem?_eq_some_iff.1 h
 rw [List.drop_eq_getElem_cons hk,ht];rfl
set_option maxRecDepth 100000 in
set_option maxHeartbeats 2000000 in
theorem vof_any (v:Value) (l:List Ent) (x:Int) (w:World) (hv:IsEnts w v l) (hl:l.length≤9223372036854775807) :
   Calls Tryz.prog 70 #[v,.int .i64 x] w fun r w'=>r=.returned (.int .i64 (ofF l x))∧Below w.heap.size w w':=by
 obtain ⟨a1,c1,rfl,f1⟩:=hv.form
 have F1:=Lib.hid f1
 obtain ⟨n,hn⟩:∃ n,n=l.length:=⟨_,rfl⟩
 rw [←hn] at hl ⊢
 have HN:=Lib.hid hn
 clear hv f1 hn
 go_enter Tryz.func70,Tryz.ntmps70
 go_wp2
 go_loopw [9] (fun i wr=>∃ k:Nat,k≤n∧i=.int .i64 k∧ofF l x=ofF (l.drop k) x∧Below w.heap.size w wr) (fun i _=>n - (intOf i).toNat)
 case atStart=>exact ⟨0,by omega,rfl,rfl,Below.refl _ _⟩
 case round =>
   obtain ⟨k,hk,rfl,heq,hbel⟩:=hrel
   have HEQ:=Lib.hid heq
   have HB:=Lib.hid hbel
   have hzr:=hbel.size
   clear heq hbel
   by_cases hlt:k < n
   · obtain ⟨t, ht⟩ : ∃ t, l[k]? = some t := ⟨l[k]'(by have := HN.out; omega), List.getElem?_eq_getElem _⟩
     obtain ⟨b1,o1,rfl,hb1,p0,p1⟩:=F1.out k t ht
     have hd:=ofF_drop ht x
     obtain ⟨rep,time⟩:=t
     simp only at p0 p1 hd
     have q0:=(HB.out.cell (p:=⟨b1,o1 + k * 2,none⟩) hb1).trans p0
     have q1:=(HB.out.cell (p:=⟨b1,o1 + k * 2 + 1,none⟩) hb1).trans p1
     by_cases hx:rep=x
     · have HW:Hid (ofF l x=time):=Lib.hid (show ofF l x=time by rw [HEQ.out,hd,if_pos hx])
       clear p0 p1 ht hd
       subst hx
       go_wp2
       go_ret
       exact ⟨by rw [HW.out];rfl,HB.out.alloc hzr _⟩
     · have HW:Hid (ofF l x=ofF (l.drop (k + 1)) x):=Lib.hid (show ofF l x=ofF (l.drop (k + 1)) x by rw [HEQ.out,hd,if_neg hx])
       have bx:(rep == x)=false:=by simpa using hx
       clear p0 p1 ht hd
       go_wp2
       go_roundw
       case rel=>exact ⟨k + 1,by omega,by go_num,HW.out,HB.out.alloc hzr _⟩
       case measure=>simp [intOf];omega
   · have HW:Hid (ofF l x=0):=Lib.hid (show ofF l x=0 by rw [HEQ.out,List.drop_eq_nil_of_le (by have:=HN.out;omega)];rfl)
     go_wp2
     go_ret
     exact ⟨by rw [HW.out];rfl,HB.out⟩
set_option maxRecDepth 100000 in
set_option maxHeartbeats 2000000 in
theorem rof_any (v:Value) (l:List Ent) (x:Int) (w:World) (hv:IsEnts w v l) (hl:l.length≤9223372036854775807) :
   Calls Tryz.prog 40 #[v,.int .i64 x] w fun r w'=>r=.returned (.int .i64 (ofF l x))∧w=w':=by
 obtain ⟨a1,c1,rfl,f1⟩:=hv.form
 have F1:=Lib.hid f1
 obtain ⟨n,hn⟩:∃ n,n=l.length:=⟨_,rfl⟩
 rw [←hn] at hl ⊢
 have HN:=Lib.hid hn
 clear hv f1 hn
 go_enter Tryz.func40,Tryz.ntmps40
 go_wp2
 go_loop [8] (fun i=>∃ k:Nat,k≤n∧i=.int .i64 k∧ofF l x=ofF (l.drop k) x) (fun i=>n - (intOf i).toNat)
 case atStart=>exact ⟨0,by omega,rfl,rfl⟩
 case round =>
   obtain ⟨k,hk,rfl,heq⟩:=hrel
   have HEQ:=Lib.hid heq
   clear heq
   by_cases hlt:k < n
   · obtain ⟨t, ht⟩ : ∃ t, l[k]? = some t := ⟨l[k]'(by have := HN.out; omega), List.getElem?_eq_getElem _⟩
     obtain ⟨b1,o1,rfl,hb1,p0,p1⟩:=F1.out k t ht
     have hd:=ofF_drop ht x
     obtain ⟨rep,time⟩:=t
     simp only at p0 p1 hd
     by_cases hx:rep=x
     · have HW:Hid (ofF l x=time):=Lib.hid (show ofF l x=time by rw [HEQ.out,hd,if_pos hx])
       clear ht hd
       subst hx
       go_wp2
       go_ret
       exact ⟨by rw [HW.out];rfl,rfl⟩
     · have HW:Hid (ofF l x=ofF (l.drop (k + 1)) x):=Lib.hid (show ofF l x=ofF (l.drop (k + 1)) x by rw [HEQ.out,hd,if_neg hx])
       have bx:(rep == x)=false:=by simpa using hx
       clear ht hd
       go_wp2
       go_round
       case rel=>exact ⟨k + 1,by omega,by go_num,HW.out⟩
       case measure=>simp [intOf];omega
   · have HW:Hid (ofF l x=0):=Lib.hid (show ofF l x=0 by rw [HEQ.out,List.drop_eq_nil_of_le (by have:=HN.out;omega)];rfl)
     go_wp2
     go_ret
     exact ⟨by rw [HW.out];rfl,rfl⟩
def noV (e:Nat):Value:=if e=0 then .nilIface else .iface 40 (.int .i64 (e:Nat))
theorem noV_0:noV 0=.nilIface:=rfl
theorem noV_e {e:Nat} (h:e≠0):noV e=.iface 40 (.int .i64 (e:Nat)):=by unfold noV;rw [if_neg h]
set_option maxRecDepth 100000 in
set_option maxHeartbeats 1000000 in
theorem vbare_any (v:Value) (l:List Ent) (w:World) (hv:IsEnts w v l) (hl:l.length≤9223372036854775807) (hg:errT w) :
   Calls Tryz.prog 71 #[v] w fun r w'=>r=.returned (noV (vrightF l).1)∧Below w.heap.size w w':=by
 have HV:=Lib.hid hv
 have HG:=Lib.hid hg
 obtain ⟨a1,c1,rfl,_⟩:=hv.form
 obtain ⟨n,hn⟩:∃ n,n=l.length:=⟨_,rfl⟩
 have HL:=Lib.hid hl
 rw [←hn] at HV ⊢
 clear hv hg hn hl
 by_cases h0:(vrightF l).1=0
 · have H0:=Lib.hid h0
   clear h0
   rw [H0.out]
   go_enter Tryz.func71,Tryz.ntmps71
   go_wp2_with fail
   refine (vright_any _ l _ HV.out HL.out).mono ?_
   rintro r w1 ⟨err,rfl,hat,hb1⟩
   obtain rfl:=hat.nil H0.out
   have HB1:=Lib.hid hb1
   clear hat hb1
   go_wp2
   go_ret
   exact ⟨rfl,HB1.out⟩
 · have H0:=Lib.hid h0
   have HQ:=Lib.hid (noV_e h0)
   clear h0
   go_enter Tryz.func71,Tryz.ntmps71
   go_wp2_with fail
   refine (vright_any _ l _ HV.out HL.out).mono ?_
   rintro r w1 ⟨err,rfl,hat,hb1⟩
   have HE:=Lib.hid (hat.isErr H0.out)
   obtain ⟨t,u,rfl⟩:=hat.iface H0.out
   have HB1:=Lib.hid hb1
   have HG1:=Lib.hid (HG.out.below hb1)
   clear hat hb1
   go_wp2_with fail
   refine (tell_err _ _ _ HG1.out HE.out).mono ?_
   rintro r w2 ⟨rfl,hb2⟩
   have HB2:Hid (Below w.heap.size w w2):=HB1.out.trans (hb2.mono HB1.out.size)
   clear hb2
   go_wp2
   go_ret
   exact ⟨by rw [HQ.out];rfl,HB2.out⟩
end Go.Proofs.YtddbpnplbcjpgaaGreatDoor
namespace Go.Proofs.YtddbpnplbcjpgaaGreatDoor
open Go.RowKit
theorem vof_as (v:Value) (l:List Ent) (x y:Int) (w:World) (hv:IsEnts w v l) (hl:l.length≤9223372036854775807) (h:ofF l x=y) :
   Calls Tryz.prog 70 #[v,.int .i64 x] w fun r w'=>r=.returned (.int .i64 y)∧Below w.heap.size w w':=by
 subst h;exact vof_any v l x w hv hl
theorem covA_drop {a b:List Ent} {k:Nat} {t:Ent} (h:b[k]? = some t):covA a (b.drop k)=(decide (t.time≤ofF a t.rep) && covA a (b.drop (k + 1))):=by
 obtain ⟨hk,ht⟩:=List.getElem?_eq_some_iff.1 h
 rw [List.drop_eq_getElem_cons hk,ht];rfl
set_option maxRecDepth 100000 in
set_option maxHeartbeats 4000000 in
theorem vcov_any (va vb:Value) (a b:List Ent) (w:World) (ha:IsEnts w va a) (hb:IsEnts w vb b) (hla:a.length≤9223372036854775807) (hlb:b.length≤9223372036854775807) :
   Calls Tryz.prog 36 #[va,vb] w fun r w'=>r=.returned (.bool (covB a b))∧Below w.heap.size w w':=by
 have HVA:=Lib.hid ha
 have HVB:=Lib.hid hb
 have HLA:=Lib.hid hla
 have HLB:=Lib.hid hlb
 obtain ⟨aa,ca,rfl,_⟩:=ha.form
 obtain ⟨ab,cb,rfl,fb⟩:=hb.form
 have FB:=Lib.hid fb
 obtain ⟨na,hna⟩:∃ n,n=a.length:=⟨_,rfl⟩
 obtain ⟨nb,hnb⟩:∃ n,n=b.length:=⟨_,rfl⟩
 have HNB:=Lib.hid hnb
 rw [←hna] at HVA ⊢
 rw [←hnb] at HVB ⊢
 clear ha hb hla hlb fb hna hnb
 by_cases h1:(vrightF a).1=0
 · by_cases h2:(vrightF b).1=0
   · have H1:=Lib.hid h1
     have H2:=Lib.hid h2
     have HC:Hid (covB a b=covA a b):=Lib.hid (show covB a b=covA a b by unfold covB;rw [h1,h2];simp)
     have h16:nb≤16:=by rw [HNB.out];exact ((vright_ok b).1 h2).1
     clear h1 h2
     rw [HC.out]
     go_enter Tryz.func36,Tryz.ntmps36
     go_wp2_with fail
     refine (vright_any _ a _ HVA.out HLA.out).mono ?_
     rintro r w1 ⟨err,rfl,hat,hb1⟩
     obtain rfl:=hat.nil H1.out
     have HB1:=Lib.hid hb1
     clear hat hb1
     go_wp2_with fail
     refine (vright_any _ b _ (HVB.out.below HB1.out) HLB.out).mono ?_
     rintro r w2 ⟨err,rfl,hat,hb2⟩
     obtain rfl:=hat.nil H2.out
     have HB2:Hid (Below w.heap.size w w2):=HB1.out.trans (hb2.mono HB1.out.size)
     clear hat hb2
     go_wp2
     go_loopw [17] (fun i wr=>∃ k:Nat,k≤nb∧i=.int .i64 k∧covA a b=covA a (b.drop k)∧Below w.heap.size w wr) (fun i _=>nb - (intOf i).toNat)
     case atStart=>exact ⟨0,by omega,rfl,rfl,HB2.out⟩
     case round =>
       obtain ⟨k,hk,rfl,heq,hbel⟩:=hrel
       have HEQ:=Lib.hid heq
       have HB:=Lib.hid hbel
       have hzr:=hbel.size
       clear heq hbel
       by_cases hlt:k < nb
       · obtain ⟨t, ht⟩ : ∃ t, b[k]? = some t := ⟨b[k]'(by have := HNB.out; omega), List.getElem?_eq_getElem _⟩
         obtain ⟨b1,o1,rfl,hb1,p0,p1⟩:=FB.out k t ht
         have hd:=covA_drop (a:=a) ht
         obtain ⟨rep,time⟩:=t
         simp only at p0 p1 hd
         have q0:=(HB.out.cell (p:=⟨b1,o1 + k * 2,none⟩) hb1).trans p0
         have q1:=(HB.out.cell (p:=⟨b1,o1 + k * 2 + 1,none⟩) hb1).trans p1
         obtain ⟨x,hx⟩:∃ x,ofF a rep=x:=⟨_,rfl⟩
         rw [hx] at hd
         have HX:=Lib.hid hx
         have HV1:Hid (IsEnts (wr.alloc (.cells #[.int .i64 rep,.int .i64 time] 62)).drew (.slice aa na ca) a):=Lib.hid (((HVA.out.below HB.out).alloc _).drewN 1)
         have c0:(wr.alloc (.cells #[.int .i64 rep,.int .i64 time] 62)).cell? ⟨wr.heap.size,0,none⟩=some (.int .i64 rep)∧(wr.alloc (.cells #[.int .i64 rep,.int .i64 time] 62)).cell? ⟨wr.heap.size,1,none⟩=some (.int .i64 time):=by simp
         by_cases hlx:x < time
         · have HW:Hid (covA a b=false):=Lib.hid (show covA a b=false by rw [HEQ.out,hd,decide_eq_false (by omega),Bool.false_and])
           clear p0 p1 ht hd hx
           go_wp2
           go_region_held3 (fun w'=>w'.cell? ⟨wr.heap.size,0,none⟩=some (.int .i64 rep)∧w'.cell? ⟨wr.heap.size,1,none⟩=some (.int .i64 time)) (first | exact c0 | exact c2) (first | (go_at_call 70;((with_reducible refine (vof_as _ a rep x _ HV1.out HLA.out HX.out).mono ?_);rintro r w2 ⟨rfl,hb2⟩;have c2:w2.cell? ⟨wr.heap.size,0,none⟩=some (.int .i64 rep)∧w2.cell? ⟨wr.heap.size,1,none⟩=some (.int .i64 time):=⟨(hb2.cell (by simp)).trans c0.1,(hb2.cell (by simp)).trans c0.2⟩;have HB2:Hid (Below w.heap.size w w2):=((HB.out.alloc hzr _).drew.trans (hb2.mono (by simp;omega)));clear hb2)))
           go_wp2
           go_ret
           exact ⟨by rw [HW.out];rfl,HB2.out⟩
         · have HW:Hid (covA a b=covA a (b.drop (k + 1))):=Lib.hid (show covA a b=covA a (b.drop (k + 1)) by rw [HEQ.out,hd,decide_eq_true (by omega),Bool.true_and])
           clear p0 p1 ht hd hx
           go_wp2
           go_region_held3 (fun w'=>w'.cell? ⟨wr.heap.size,0,none⟩=some (.int .i64 rep)∧w'.cell? ⟨wr.heap.size,1,none⟩=some (.int .i64 time)) (first | exact c0 | exact c2) (first | (go_at_call 70;((with_reducible refine (vof_as _ a rep x _ HV1.out HLA.out HX.out).mono ?_);rintro r w2 ⟨rfl,hb2⟩;have c2:w2.cell? ⟨wr.heap.size,0,none⟩=some (.int .i64 rep)∧w2.cell? ⟨wr.heap.size,1,none⟩=some (.int .i64 time):=⟨(hb2.cell (by simp)).trans c0.1,(hb2.cell (by simp)).trans c0.2⟩;have HB2:Hid (Below w.heap.size w w2):=((HB.out.alloc hzr _).drew.trans (hb2.mono (by simp;omega)));clear hb2)))
           go_wp2
           go_roundw
           case rel=>exact ⟨k + 1,by omega,by go_num,HW.out,HB2.out⟩
           case measure=>simp [intOf];omega
       · have HW:Hid (covA a b=true):=Lib.hid (show covA a b=true by rw [HEQ.out,List.drop_eq_nil_of_le (by have:=HNB.out;omega)];rfl)
         go_wp2
         go_ret
         exact ⟨by rw [HW.out];rfl,HB.out⟩
   · have H1:=Lib.hid h1
     have H2:=Lib.hid h2
     have HC:Hid (covB a b=false):=Lib.hid (show covB a b=false by unfold covB;rw [decide_eq_false h2];simp)
     clear h1 h2
     rw [HC.out]
     go_enter Tryz.func36,Tryz.ntmps36
     go_wp2_with fail
     refine (vright_any _ a _ HVA.out HLA.out).mono ?_
     rintro r w1 ⟨err,rfl,hat,hb1⟩
     obtain rfl:=hat.nil H1.out
     have HB1:=Lib.hid hb1
     clear hat hb1
     go_wp2_with fail
     refine (vright_any _ b _ (HVB.out.below HB1.out) HLB.out).mono ?_
     rintro r w2 ⟨err,rfl,hat,hb2⟩
     obtain ⟨t,u,rfl⟩:=hat.iface H2.out
     have HB2:Hid (Below w.heap.size w w2):=HB1.out.trans (hb2.mono HB1.out.size)
     clear hat hb2
     go_wp2
     go_ret
     exact ⟨rfl,HB2.out⟩
 · have H1:=Lib.hid h1
   have HC:Hid (covB a b=false):=Lib.hid (show covB a b=false by unfold covB;rw [decide_eq_false h1];simp)
   clear h1
   rw [HC.out]
   go_enter Tryz.func36,Tryz.ntmps36
   go_wp2_with fail
   refine (vright_any _ a _ HVA.out HLA.out).mono ?_
   rintro r w1 ⟨err,rfl,hat,hb1⟩
   obtain ⟨t,u,rfl⟩:=hat.iface H1.out
   have HB1:=Lib.hid hb1
   clear hat hb1
   go_wp2
   go_ret
   exact ⟨rfl,HB1.out⟩
end Go.Proofs.YtddbpnplbcjpgaaGreatDoor
namespace Go.Proofs.YtddbpnplbcjpgaaGreatDoor
open Go.RowKit
theorem baref_any (n:Int) (w:World):Calls Tryz.prog 33 #[.int .i64 n] w fun e w'=>e=.returned (.agg #[.int .i64 n,.int .i64 (-1)])∧Below w.heap.size w w':=by
 go_enter Tryz.func33,Tryz.ntmps33
 go_wp2
 refine bodyPost_ret (v:=.agg #[.int .i64 n,.int .i64 (-1)]) (by simp [results,Tryz.results33,go_sem]) rfl ?_
 exact ⟨rfl,(Below.refl _ _).alloc (Nat.le_refl _) _⟩
theorem faultV_is {r:Nat×Int} {e:Nat} {pl:Int} (h:r=(e,pl)):faultV r=.agg #[.int .i64 (e:Int),.int .i64 pl]:=by rw [h];rfl
set_option maxRecDepth 100000 in
set_option maxHeartbeats 4000000 in
theorem rvright_any (v:Value) (l:List Ent) (w:World) (hv:IsEnts w v l) (hl:l.length≤9223372036854775807) :
   Calls Tryz.prog 39 #[v] w fun e w'=>e=.returned (faultV (vrightF l))∧Below w.heap.size w w':=by
 obtain ⟨a1,c1,rfl,f1⟩:=hv.form
 have F1:=Lib.hid f1
 obtain ⟨n,hn⟩:∃ n,n=l.length:=⟨_,rfl⟩
 rw [←hn] at hl ⊢
 have HN:=Lib.hid hn
 clear hv f1 hn
 by_cases h16:16 < n
 · have HW:Hid (faultV (vrightF l)=.agg #[.int .i64 4,.int .i64 (-1)]):=Lib.hid (faultV_is (show vrightF l=(4,-1) by unfold vrightF;rw [if_pos (by rw [←HN.out];exact h16)]))
   have h2:16 < (n:Int):=by omega
   rw [HW.out]
   go_enter Tryz.func39,Tryz.ntmps39
   go_wp2_with fail
   refine (baref_any 4 _).mono ?_
   rintro r w1 ⟨rfl,hb1⟩
   have hz1:=hb1.size
   rw [World.size_alloc] at hz1
   have d0:w1.cell? ⟨w.heap.size,0,none⟩=some (.int .i64 0):=(hb1.cell (by simp)).trans (by simp)
   have d1:w1.cell? ⟨w.heap.size,1,none⟩=some (.int .i64 0):=(hb1.cell (by simp)).trans (by simp)
   have g0:w1.frozen? ⟨w.heap.size,0,none⟩=false:=(hb1.frozen (by simp)).trans (by simp)
   have g1:w1.frozen? ⟨w.heap.size,1,none⟩=false:=(hb1.frozen (by simp)).trans (by simp)
   have HB1:Hid (Below w.heap.size w w1):=((Below.refl _ _).alloc (Nat.le_refl _) _).trans (hb1.mono (by simp))
   clear hb1
   go_wp2
   refine bodyPost_ret (v:=.agg #[.int .i64 4,.int .i64 (-1)]) (by simp [results,Tryz.results39,go_sem,d0,d1]) rfl ?_
   exact ⟨rfl,(HB1.out.setCell (Nat.le_refl _) _).setCell (Nat.le_refl _) _⟩
 · have hvr:vrightF l=vr l 0 (-1):=by unfold vrightF;rw [if_neg (by rw [←HN.out];exact h16)]
   rw [hvr]
   clear hvr
   go_enter Tryz.func39,Tryz.ntmps39
   go_wp2
   go_loopw [3,12] (fun s i wr=>∃ (k:Nat) (last:Int),k≤n∧i=.int .i64 k∧s=.int .i64 last∧vr l 0 (-1)=vr (l.drop k) k last∧Below (w.heap.size + 1) (w.alloc (.cells #[.int .i64 0,.int .i64 0] 49)) wr) (fun _ i _=>n - (intOf i).toNat)
   case atStart=>exact ⟨0,-1,by omega,rfl,rfl,rfl,Below.refl _ _⟩
   case round =>
     obtain ⟨k,last,hk,rfl,rfl,heq,hbel⟩:=hrel
     have HEQ:=Lib.hid heq
     have HB:=Lib.hid hbel
     have x0:wr.cell? ⟨w.heap.size,0,none⟩=some (.int .i64 0):=(hbel.cell (by exact Nat.lt_succ_self _)).trans (by simp)
     have x1:wr.cell? ⟨w.heap.size,1,none⟩=some (.int .i64 0):=(hbel.cell (by exact Nat.lt_succ_self _)).trans (by simp)
     have y0:wr.frozen? ⟨w.heap.size,0,none⟩=false:=(hbel.frozen (by exact Nat.lt_succ_self _)).trans (by simp)
     have y1:wr.frozen? ⟨w.heap.size,1,none⟩=false:=(hbel.frozen (by exact Nat.lt_succ_self _)).trans (by simp)
     have hzr:=hbel.size
     rw [World.size_alloc] at hzr
     have HB0:Hid (Below w.heap.size w wr):=((Below.refl _ _).alloc (Nat.le_refl _) _).trans (HB.out.mono (Nat.le_succ _))
     clear heq hbel
     by_cases hlt:k < n
     · have hkl:k < l.length:=by have:=HN.out;omega
       obtain ⟨t,ht⟩:∃ t,l[k]? = some t:=⟨l[k],List.getElem?_eq_getElem hkl⟩
       obtain ⟨b1,o1,rfl,hb1,p0,p1⟩:=F1.out k t ht
       have hd:l.drop k=t :: l.drop (k + 1):=by
         rw [List.drop_eq_getElem_cons hkl];congr 1
         rw [List.getElem?_eq_getElem hkl] at ht;exact Option.some.inj ht
       obtain ⟨rep,time⟩:=t
       simp only at p0 p1
       have q0:=(HB0.out.cell (p:=⟨b1,o1 + k * 2,none⟩) hb1).trans p0
       have q1:=(HB0.out.cell (p:=⟨b1,o1 + k * 2 + 1,none⟩) hb1).trans p1
       have HD:=Lib.hid hd
       have hlt0:w.heap.size < wr.heap.size:=by omega
       clear p0 p1 ht hd hkl
       by_cases hr:rep < 0∨200 < rep∨time < 1∨1099511627776 < time
       · have HW : Hid (faultV (vr l 0 (-1)) = .agg #[.int .i64 2, .int .i64 k]) := Lib.hid (faultV_is (show vr l 0 (-1) = (2, (k : Int)) by
           have hw:wrE ⟨rep,time⟩ last=2:=wrE_range hr
           rw [HEQ.out,HD.out,vr_bad (by rw [hw];decide),hw]))
         have HR:=Lib.hid hr
         clear hr HEQ
         by_cases h1:rep < 0∨200 < rep
         · rcases h1 with h1 | h1
           · go_wp2_with fail
             refine (within_low rep 0 200 _ h1).mono ?_
             rintro r w' ⟨rfl,rfl⟩
             go_wp2
             refine bodyPost_ret (v:=.agg #[.int .i64 2,.int .i64 k]) (by simp [results,Tryz.results39,go_sem,x0,x1,hlt0]) rfl ?_
             rw [HW.out]
             exact ⟨rfl,((HB0.out.setCell (Nat.le_refl _) _).setCell (Nat.le_refl _) _).alloc (by simp;omega) _⟩
           · go_wp2_with fail
             refine (within_high rep 0 200 _ (by omega) h1).mono ?_
             rintro r w' ⟨rfl,rfl⟩
             go_wp2
             refine bodyPost_ret (v:=.agg #[.int .i64 2,.int .i64 k]) (by simp [results,Tryz.results39,go_sem,x0,x1,hlt0]) rfl ?_
             rw [HW.out]
             exact ⟨rfl,((HB0.out.setCell (Nat.le_refl _) _).setCell (Nat.le_refl _) _).alloc (by simp;omega) _⟩
         · by_cases h2:time < 1
           · go_wp2_with fail
             refine (within_yes rep 0 200 _ (by omega) (by omega)).mono ?_
             rintro r w' ⟨rfl,rfl⟩
             go_wp2_with fail
             refine (within_low time 1 1099511627776 _ h2).mono ?_
             rintro r w' ⟨rfl,rfl⟩
             go_wp2
             refine bodyPost_ret (v:=.agg #[.int .i64 2,.int .i64 k]) (by simp [results,Tryz.results39,go_sem,x0,x1,hlt0]) rfl ?_
             rw [HW.out]
             exact ⟨rfl,((HB0.out.setCell (Nat.le_refl _) _).setCell (Nat.le_refl _) _).alloc (by simp;omega) _⟩
           · have h3:1099511627776 < time:=by have:=HR.out;omega
             go_wp2_with fail
             refine (within_yes rep 0 200 _ (by omega) (by omega)).mono ?_
             rintro r w' ⟨rfl,rfl⟩
             go_wp2_with fail
             refine (within_high time 1 1099511627776 _ (by omega) h3).mono ?_
             rintro r w' ⟨rfl,rfl⟩
             go_wp2
             refine bodyPost_ret (v:=.agg #[.int .i64 2,.int .i64 k]) (by simp [results,Tryz.results39,go_sem,x0,x1,hlt0]) rfl ?_
             rw [HW.out]
             exact ⟨rfl,((HB0.out.setCell (Nat.le_refl _) _).setCell (Nat.le_refl _) _).alloc (by simp;omega) _⟩
       · have g1:0≤rep:=by omega
         have g2:rep≤200:=by omega
         have g3:1≤time:=by omega
         have g4:time≤1099511627776:=by omega
         by_cases h5:rep≤last
         · have HW : Hid (faultV (vr l 0 (-1)) = .agg #[.int .i64 10, .int .i64 k]) := Lib.hid (faultV_is (show vr l 0 (-1) = (10, (k : Int)) by
             have hw:wrE ⟨rep,time⟩ last=10:=wrE_order hr h5
             rw [HEQ.out,HD.out,vr_bad (by rw [hw];decide),hw]))
           clear hr HEQ
           go_wp2_with fail
           refine (within_yes rep 0 200 _ g1 g2).mono ?_
           rintro r w' ⟨rfl,rfl⟩
           go_wp2_with fail
           refine (within_yes time 1 1099511627776 _ g3 g4).mono ?_
           rintro r w' ⟨rfl,rfl⟩
           go_wp2
           refine bodyPost_ret (v:=.agg #[.int .i64 10,.int .i64 k]) (by simp [results,Tryz.results39,go_sem,x0,x1,hlt0]) rfl ?_
           rw [HW.out]
           exact ⟨rfl,((HB0.out.setCell (Nat.le_refl _) _).setCell (Nat.le_refl _) _).alloc (by simp;omega) _⟩
         · have HW : Hid (vr l 0 (-1) = vr (l.drop (k + 1)) (k + 1) rep) := Lib.hid (show vr l 0 (-1) = vr (l.drop (k + 1)) (k + 1) rep by
             rw [HEQ.out,HD.out,vr_good (wrE_fine hr h5)])
           clear hr HEQ
           go_wp2_with fail
           refine (within_yes rep 0 200 _ g1 g2).mono ?_
           rintro r w' ⟨rfl,rfl⟩
           go_wp2_with fail
           refine (within_yes time 1 1099511627776 _ g3 g4).mono ?_
           rintro r w' ⟨rfl,rfl⟩
           go_wp2
           go_roundw
           case rel=>exact ⟨k + 1,rep,by omega,by go_num,rfl,HW.out,HB.out.alloc (by omega) _⟩
           case measure=>simp [intOf];omega
     · have HW:Hid (faultV (vr l 0 (-1))=.agg #[.int .i64 0,.int .i64 (-1)]):=Lib.hid (faultV_is (show vr l 0 (-1)=(0,-1) by rw [HEQ.out,List.drop_eq_nil_of_le (by have:=HN.out;omega)];rfl))
       have hlt0:w.heap.size < wr.heap.size:=by omega
       clear HEQ
       go_wp2_with fail
       refine (good_any _).mono ?_
       rintro r w1 ⟨rfl,hb1⟩
       have d0:w1.cell? ⟨w.heap.size,0,none⟩=some (.int .i64 0):=(hb1.cell hlt0).trans x0
       have d1:w1.cell? ⟨w.heap.size,1,none⟩=some (.int .i64 0):=(hb1.cell hlt0).trans x1
       have g0:w1.frozen? ⟨w.heap.size,0,none⟩=false:=(hb1.frozen hlt0).trans y0
       have g1:w1.frozen? ⟨w.heap.size,1,none⟩=false:=(hb1.frozen hlt0).trans y1
       have HBW:Hid (Below w.heap.size w w1):=HB0.out.trans (hb1.mono (Nat.le_of_lt hlt0))
       clear hb1 x0 x1 y0 y1
       go_wp2
       refine bodyPost_ret (v:=.agg #[.int .i64 0,.int .i64 (-1)]) (by simp [results,Tryz.results39,go_sem,d0,d1]) rfl ?_
       rw [HW.out]
       exact ⟨rfl,(HBW.out.setCell (Nat.le_refl _) _).setCell (Nat.le_refl _) _⟩
end Go.Proofs.YtddbpnplbcjpgaaGreatDoor
