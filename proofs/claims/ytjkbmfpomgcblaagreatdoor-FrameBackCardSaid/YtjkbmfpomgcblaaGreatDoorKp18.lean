import Derived.Test.YtjkbmfpomgcblaaGreatDoorKp17
namespace Go.Proofs.YtjkbmfpomgcblaaGreatDoor
open Go.RowKit
set_option maxRecDepth 100000 in
theorem behind_any (v:Value) (l:List Ent) (w:World) (hv:IsEnts w v l) (h0:l≠[]) (hl:l.length≤1000000) (hr:∀ e∈l,0≤e.rep∧e.rep≤1000000) :
   Calls Tryz.prog 165 #[v] w fun r w'=>r=.returned (.int .i64 ((l.getLastD ⟨0,0⟩).rep + 2))∧w=w':=by
 have hlen:0 < l.length:=List.length_pos_iff.2 h0
 obtain ⟨a1,c1,rfl,f1⟩:=hv.form
 have ht:l[l.length - 1]? = some (l.getLastD ⟨0,0⟩):=by
   rw [←List.getLast?_eq_getElem?]
   cases l with
   | nil=>exact absurd rfl h0
   | cons e t=>simp [List.getLast?_cons]
 obtain ⟨b1,o1,rfl,_,p0,_⟩:=f1 _ _ ht
 have hm:=hr _ (List.mem_of_getElem? ht)
 generalize l.getLastD ⟨0,0⟩=e at *
 obtain ⟨rep,time⟩:=e
 simp only at p0 hm ⊢
 obtain ⟨n,hn⟩:∃ n,n=l.length:=⟨_,rfl⟩
 rw [←hn] at hl hlen p0 ⊢
 obtain ⟨j,hj⟩:∃ j,j=n - 1:=⟨_,rfl⟩
 rw [←hj] at p0
 have hj1:(n:Int) - 1=(j:Int):=by omega
 have hj2:j < n:=by omega
 clear hv f1 hn ht hr h0 hj
 go_enter Tryz.func165,Tryz.ntmps165
 go_wp2
 go_ret
 exact ⟨rfl,rfl⟩
def CutIs (w:World) (u:Value) (l:List Ent) (rs:List (List Ent)) (e:Ending) (w':World):Prop :=
 ∃ v vs,e=.returned v∧ownsR w' w.heap.size v vs∧(∀ W,IsEnts W u l→areE W vs rs)∧vs.length=rs.length∧Below w.heap.size w w'
set_option maxRecDepth 100000 in
set_option maxHeartbeats 4000000 in
theorem cut_any (v:Value) (l:List Ent) (w:World) (hv:IsEnts w v l) (hl:l.length≤100000) (hr:∀ e∈l,0≤e.rep∧e.rep≤1000000) :
   Calls Tryz.prog 164 #[v] w (CutIs w v l (runsL l)):=by
 by_cases hz:l.length=0
 · obtain rfl:=List.length_eq_zero_iff.1 hz
   obtain ⟨a1,c1,rfl,_⟩:=hv.form
   have HR:Hid (runsL ([]:List Ent)=[]):=rfl
   rw [HR.out]
   clear hv hl hr hz
   go_enter Tryz.func164,Tryz.ntmps164
   go_wp2
   refine wp_loop_rounds 1 ?_
   rw [rounds_succ]
   go_wp2
   go_ret
   exact ⟨_,[],rfl,ownsR_nil _ _,fun _ _=>trivial,rfl,Below.refl _ _⟩
 · obtain ⟨b,off,c,rfl,hlc,hb,hcells⟩:=hv.lies (by omega)
   have HC:=Lib.hid hcells
   obtain ⟨a1,c1,hav,f1⟩:=hv.form
   simp only [Value.slice.injEq,true_and] at hav
   obtain ⟨rfl,rfl⟩:=hav
   have F1:=Lib.hid f1
   have HR:=Lib.hid hr
   obtain ⟨n,hn⟩:∃ n,n=l.length:=⟨_,rfl⟩
   rw [←hn] at hl hlc hz ⊢ hv
   have HV:=Lib.hid hv
   have HN:=Lib.hid hn
   have HLC:=Lib.hid hlc
   clear hv f1 hn hcells hr
   go_enter Tryz.func164,Tryz.ntmps164
   go_wp2
   go_loopw [3,4,8] (fun rv fv i wr=>∃ (k fr:Nat) (vs:List Value) (R:List (List Ent)),k≤n∧i=.int .i64 k∧fv=.int .i64 fr∧fr≤k∧vs.length≤k∧R ++ cutA ((l.take k).drop fr) (l.drop k)=runsL l∧ownsR wr w.heap.size rv vs∧(∀ W,IsEnts W (.slice (some ⟨b,off,none⟩) n c) l→areE W vs R)∧Below w.heap.size w wr) (fun _ _ i _=>n - (intOf i).toNat)
   case atStart=>exact ⟨0,0,[],[],by omega,rfl,rfl,by omega,Nat.le_refl _,rfl,ownsR_nil _ _,(fun _ _=>trivial),Below.refl _ _⟩
   case round =>
     obtain ⟨k,fr,vs,R,hk,rfl,rfl,hfr,hvs,heq,hown,hare,hbel⟩:=hrel
     have HEQ:=Lib.hid heq
     have HO:=Lib.hid hown
     have HA:=Lib.hid hare
     have HB:=Lib.hid hbel
     have hzr:=hbel.size
     clear heq hown hare hbel
     by_cases hlt:k < n
     · have hkl:k < l.length:=by have:=HN.out;omega
       obtain ⟨t,ht⟩:∃ t,l[k]? = some t:=⟨l[k],List.getElem?_eq_getElem hkl⟩
       have hd:l.drop k=t :: l.drop (k + 1):=by
         rw [List.drop_eq_getElem_cons hkl];congr 1
         rw [List.getElem?_eq_getElem hkl] at ht;exact Option.some.inj ht
       have htk:l.take (k + 1)=l.take k ++ [t]:=by
         rw [List.take_succ_eq_append_getElem hkl];congr 2
         rw [List.getElem?_eq_getElem hkl] at ht;exact Option.some.inj ht
       have hcur:(l.take (k + 1)).drop fr=(l.take k).drop fr ++ [t]:=by
         rw [htk,List.drop_append_of_le_length (by rw [List.length_take];omega)]
       obtain ⟨b1,o1,hbo,_,p0,_⟩:=F1.out k t ht
       simp only [Option.some.injEq,Addr.mk.injEq,and_true] at hbo
       obtain ⟨rfl,rfl⟩:=hbo
       have hm:=HR.out t (List.mem_of_getElem? ht)
       have q0:=(HB.out.cell (p:=⟨b,off + k * 2,none⟩) hb).trans p0
       obtain ⟨k1,hk1⟩:∃ k1,k1=k + 1:=⟨_,rfl⟩
       rw [←hk1] at hd htk hcur
       have hfk:fr < k1:=by omega
       have hfk':(fr:Int)≤(k1:Int):=by omega
       have hkc:k1≤c:=by have:=HLC.out;omega
       have hkc':(k1:Int)≤(c:Int):=by omega
       have HP:Hid (∀ W,IsEnts W (.slice (some ⟨b,off,none⟩) n c) l→IsEnts W (.slice (some ⟨b,off + fr * 2,none⟩) (k1 - fr) (c - fr)) ((l.take k1).drop fr)):=Lib.hid (show ∀ W,IsEnts W (.slice (some ⟨b,off,none⟩) n c) l→IsEnts W (.slice (some ⟨b,off + fr * 2,none⟩) (k1 - fr) (c - fr)) ((l.take k1).drop fr) from fun W hW=>by
         obtain ⟨b',off',c',hv',hc',hb',hcs'⟩:=hW.lies (by omega)
         simp only [Value.slice.injEq,Option.some.injEq,Addr.mk.injEq,and_true] at hv'
         obtain ⟨⟨rfl,rfl⟩,_,rfl⟩:=hv'
         exact IsEnts.part hcs' hb' fr k1 (by have:=HN.out;omega) hfk rfl (by omega))
       by_cases hlast:k1=n
       · subst hlast
         have hdn:l.drop k1=[]:=List.drop_eq_nil_of_le (by have:=HN.out;omega)
         have hcl:cutA ((l.take k).drop fr) (l.drop k)=[(l.take k1).drop fr]:=by
           rw [hd,hdn,cutA_one,hcur]
         have HS:Hid ((R ++ [(l.take k1).drop fr]) ++ cutA ((l.take k1).drop k1) (l.drop k1)=runsL l):=Lib.hid (show (R ++ [(l.take k1).drop fr]) ++ cutA ((l.take k1).drop k1) (l.drop k1)=runsL l by
           rw [←HEQ.out,hcl,hdn]
           have:∀ cur,cutA cur []=[]:=fun _=>rfl
           rw [this,List.append_nil])
         have hw1:(k:Int) + 1=(k1:Int):=by omega
         have hw2:IntKind.i64.wrap ((k:Int) + 1)=(k1:Int):=by rw [hw1];exact IntWalk.i64_in _ (by omega)
         have hw3:IntKind.i64.wrap (t.rep + 1)=t.rep + 1:=IntWalk.i64_in _ (by omega)
         have HK1:=Lib.hid hk1
         clear hcl hcur htk hd ht p0 hm hk1 hdn
         go_wp2
         go_quiet (fail)
         clear hw2 hw3
         go_wp2_with (at_builtin;refine wpList_append_run rfl _ _ rfl w.heap.size _ vs rfl ((HO.out.drewN _).alloc _) ⟨wr.heap.size,0,none⟩ 1 rfl (.slice (some ⟨b,off + fr * 2,none⟩) (k1 - fr) (c - fr)) ⟨_,_,_,rfl⟩ ?c1 ?c2 ?c3 ?_)
         case c1=>simp [Addr.add];exact cell_of_row _ _ 0 _ _ (0,0) (heap_alloc_new (World.drewN wr _) _)
         case c2=>omega
         case c3=>simp;omega
         · intro g cap w2 ho2 hg2
           have HB2:Hid (Below w.heap.size w w2):=(((below_drewN HB.out _).alloc (by simp;omega) _).grown hg2 (by simp;omega) (fun g hg=>(HO.out.lt g hg).1))
           have HO2:=Lib.hid ho2
           have HA2:Hid (∀ W,IsEnts W (.slice (some ⟨b,off,none⟩) k1 c) l→areE W (vs ++ [(.slice (some ⟨b,off + fr * 2,none⟩) (k1 - fr) (c - fr):Value)]) (R ++ [(l.take k1).drop fr])):=Lib.hid (fun W hW=>areE_snoc (HP.out W hW) (HA.out W hW))
           obtain ⟨vs2,hvs2⟩:∃ vs2,vs ++ [(.slice (some ⟨b,off + fr * 2,none⟩) (k1 - fr) (c - fr):Value)]=vs2:=⟨_,rfl⟩
           have hvl:vs2.length=vs.length + 1:=by rw [←hvs2];simp
           rw [hvs2] at HO2 HA2
           rw [←hvl] at HO2 ⊢
           clear ho2 hg2 hvs2
           go_wp2
           go_roundw
           case rel=>exact ⟨k1,k1,vs2,_,by omega,by first | rfl | go_num,by first | rfl | go_num,Nat.le_refl _,by have:=HK1.out;omega,HS.out,HO2.out,HA2.out,HB2.out⟩
           case measure=>have:=HK1.out;simp [intOf];omega
       · have hk1l:k1 < l.length:=by have:=HN.out;omega
         obtain ⟨d,hdd⟩:∃ d,l[k1]? = some d:=⟨l[k1],List.getElem?_eq_getElem hk1l⟩
         have hd1:l.drop k1=d :: l.drop (k1 + 1):=by
           rw [List.drop_eq_getElem_cons hk1l];congr 1
           rw [List.getElem?_eq_getElem hk1l] at hdd;exact Option.some.inj hdd
         obtain ⟨b1,o1,hbo,_,p1,_⟩:=F1.out k1 d hdd
         simp only [Option.some.injEq,Addr.mk.injEq,and_true] at hbo
         obtain ⟨rfl,rfl⟩:=hbo
         have q1:=(HB.out.cell (p:=⟨b,off + k1 * 2,none⟩) hb).trans p1
         have hk1n:k1 < n:=by omega
         have hk1n':(k1:Int) < (n:Int):=by omega
         have hn1:((k1:Int) == (n:Int))=false:=by simp;omega
         by_cases hgp:t.rep + 1 < d.rep
         · have hcl : cutA ((l.take k).drop fr) (l.drop k) = (l.take k1).drop fr :: cutA [] (l.drop k1) := by
             rw [hd,hd1,cutA_cut hgp,hcur]
           have HS:Hid ((R ++ [(l.take k1).drop fr]) ++ cutA ((l.take k1).drop k1) (l.drop k1)=runsL l):=Lib.hid (show (R ++ [(l.take k1).drop fr]) ++ cutA ((l.take k1).drop k1) (l.drop k1)=runsL l by
             rw [←HEQ.out,hcl,List.drop_eq_nil_of_le (show (l.take k1).length≤k1 by rw [List.length_take];omega)]
             simp)
           have hw1:(k:Int) + 1=(k1:Int):=by omega
           have hw2:IntKind.i64.wrap ((k:Int) + 1)=(k1:Int):=by rw [hw1];exact IntWalk.i64_in _ (by omega)
           have hw3:IntKind.i64.wrap (t.rep + 1)=t.rep + 1:=IntWalk.i64_in _ (by omega)
           have HK1:=Lib.hid hk1
           clear hcl hcur htk hd ht p0 hm hk1 p1 hdd hd1
           go_wp2
           go_quiet (fail)
           clear hw2 hw3
           go_wp2_with (at_builtin;refine wpList_append_run rfl _ _ rfl w.heap.size _ vs rfl ((HO.out.drewN _).alloc _) ⟨wr.heap.size,0,none⟩ 1 rfl (.slice (some ⟨b,off + fr * 2,none⟩) (k1 - fr) (c - fr)) ⟨_,_,_,rfl⟩ ?c1 ?c2 ?c3 ?_)
           case c1=>simp [Addr.add];exact cell_of_row _ _ 0 _ _ (0,0) (heap_alloc_new (World.drewN wr _) _)
           case c2=>omega
           case c3=>simp;omega
           · intro g cap w2 ho2 hg2
             have HB2:Hid (Below w.heap.size w w2):=(((below_drewN HB.out _).alloc (by simp;omega) _).grown hg2 (by simp;omega) (fun g hg=>(HO.out.lt g hg).1))
             have HO2:=Lib.hid ho2
             have HA2:Hid (∀ W,IsEnts W (.slice (some ⟨b,off,none⟩) n c) l→areE W (vs ++ [(.slice (some ⟨b,off + fr * 2,none⟩) (k1 - fr) (c - fr):Value)]) (R ++ [(l.take k1).drop fr])):=Lib.hid (fun W hW=>areE_snoc (HP.out W hW) (HA.out W hW))
             obtain ⟨vs2,hvs2⟩:∃ vs2,vs ++ [(.slice (some ⟨b,off + fr * 2,none⟩) (k1 - fr) (c - fr):Value)]=vs2:=⟨_,rfl⟩
             have hvl:vs2.length=vs.length + 1:=by rw [←hvs2];simp
             rw [hvs2] at HO2 HA2
             rw [←hvl] at HO2 ⊢
             clear ho2 hg2 hvs2
             go_wp2
             go_roundw
             case rel=>exact ⟨k1,k1,vs2,_,by omega,by first | rfl | go_num,by first | rfl | go_num,Nat.le_refl _,by have:=HK1.out;omega,HS.out,HO2.out,HA2.out,HB2.out⟩
             case measure=>have:=HK1.out;simp [intOf];omega
         · have hcl : cutA ((l.take k).drop fr) (l.drop k) = cutA ((l.take k1).drop fr) (l.drop k1) := by
             rw [hd,hd1,cutA_on hgp,hcur]
           have HS:Hid (R ++ cutA ((l.take k1).drop fr) (l.drop k1)=runsL l):=Lib.hid (show R ++ cutA ((l.take k1).drop fr) (l.drop k1)=runsL l by
             rw [←HEQ.out,hcl])
           have hgp':d.rep≤t.rep + 1:=by omega
           have hw1:(k:Int) + 1=(k1:Int):=by omega
           have hw2:IntKind.i64.wrap ((k:Int) + 1)=(k1:Int):=by rw [hw1];exact IntWalk.i64_in _ (by omega)
           have hw3:IntKind.i64.wrap (t.rep + 1)=t.rep + 1:=IntWalk.i64_in _ (by omega)
           have HK1:=Lib.hid hk1
           clear hcl hcur htk hd ht p0 hm hk1 p1 hdd hd1
           go_wp2
           go_quiet (fail)
           clear hw2 hw3
           go_wp2
           go_roundw
           case rel=>exact ⟨k1,fr,vs,R,by omega,by first | rfl | go_num,rfl,by have:=HK1.out;omega,by have:=HK1.out;omega,HS.out,HO.out.drewN _,HA.out,below_drewN HB.out _⟩
           case measure=>have:=HK1.out;simp [intOf];omega
     · have hkn:k=n:=by omega
       have HRE:Hid (R=runsL l):=Lib.hid (show R=runsL l by
         rw [←HEQ.out,List.drop_eq_nil_of_le (show l.length≤k by have:=HN.out;omega)]
         have:∀ cur,cutA cur []=[]:=fun _=>rfl
         rw [this,List.append_nil])
       obtain rfl:=HRE.out
       go_wp2
       go_ret
       exact ⟨_,vs,rfl,HO.out,HA.out,areE_len (HA.out w HV.out),HB.out⟩
end Go.Proofs.YtjkbmfpomgcblaaGreatDoor
namespace Go.Proofs.YtjkbmfpomgcblaaGreatDoor
open Go.RowKit
theorem ownsR.stored {w:World} {base g n cap:Nat} {l:List Value} {d:Value} (h:ownsR w base (.slice (some ⟨g,0,none⟩) n cap) (l ++ [d])) (hn:n=l.length + 1) (x:Value) :
   ownsR (w.setCell ⟨g,l.length,none⟩ x) base (.slice (some ⟨g,0,none⟩) n cap) (l ++ [x])∧w.grownBy (w.setCell ⟨g,l.length,none⟩ x) (some g):=by
 subst hn
 unfold ownsR at h ⊢
 rw [List.length_append] at h ⊢
 have h2:=World.ownsRow.stored h l.length x
 have e:(l ++ [d]).set l.length x=l ++ [x]:=by
   rw [List.set_append_right _ _ (Nat.le_refl _),Nat.sub_self];rfl
 rw [e] at h2
 exact h2
theorem ownsR.last {w:World} {base g n cap:Nat} {l:List Value} {d:Value} (h:ownsR w base (.slice (some ⟨g,0,none⟩) n cap) (l ++ [d])) (hn:n=l.length + 1) :
   w.cell? ⟨g,l.length,none⟩=some d∧w.frozen? ⟨g,l.length,none⟩=false∧base≤g∧g < w.heap.size:=by
 subst hn
 have hlt:=h.lt g rfl
 unfold ownsR at h
 rw [List.length_append] at h
 refine ⟨?_,World.ownsRow.frozenAt h _,hlt.1,hlt.2⟩
 rw [World.ownsRow.cellAt h _ (by simp)]
 simp
end Go.Proofs.YtjkbmfpomgcblaaGreatDoor
