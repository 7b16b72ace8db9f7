import Derived.Test.YtjkbmfpomgcblaaGreatDoorKw11
namespace Go.Proofs.YtjkbmfpomgcblaaGreatDoor
open Go.RowKit
set_option maxRecDepth 100000 in
theorem behind_any (v:Value) (l:List Ent) (w:World) (hv:IsEnts w v l) (h0:l≠[]) (hl:l.length≤1000000) (hr:∀ e∈l,0≤e.rep∧e.rep≤1000000) :
   Calls Tryz.prog 165 #[v] w fun r w'=>r=.returned (.int .i64 ((l.getLastD ⟨0,0⟩).rep + 2))∧w=w':=by
 have hlen:0 < l.length:=List.length_pos_iff.2 h0
 obtain ⟨a1,c1,rfl,f1⟩:=hv.form
 have ht:l[l.length - 1]? = some (l.getLastD ⟨0,0⟩):=by
   rw [←List.getLast?_eq_getElem?]
   cases l with
   | nil=>exact absurd rfl h0
   | cons e t=>simp [List.getLast?_cons]
 obtain ⟨b1,o1,rfl,_,p0,_⟩:=f1 _ _ ht
 have hm:=hr _ (List.mem_of_getElem? ht)
 generalize l.getLastD ⟨0,0⟩=e at *
 obtain ⟨rep,time⟩:=e
 simp only at p0 hm ⊢
 obtain ⟨n,hn⟩:∃ n,n=l.length:=⟨_,rfl⟩
 rw [←hn] at hl hlen p0 ⊢
 obtain ⟨j,hj⟩:∃ j,j=n - 1:=⟨_,rfl⟩
 rw [←hj] at p0
 have hj1:(n:Int) - 1=(j:Int):=by omega
 have hj2:j < n:=by omega
 clear hv f1 hn ht hr h0 hj
 go_enter Tryz.func165,Tryz.ntmps165
 go_wp2
 go_ret
 exact ⟨rfl,rfl⟩
def CutIs (w:World) (u:Value) (l:List Ent) (rs:List (List Ent)) (e:Ending) (w':World):Prop :=
 ∃ v vs,e=.returned v∧ownsR w' w.heap.size v vs∧(∀ W,IsEnts W u l→areE W vs rs)∧vs.length=rs.length∧Below w.heap.size w w'
set_option maxRecDepth 100000 in
set_option maxHeartbeats 4000000 in
theorem cut_any (v:Value) (l:List Ent) (w:World) (hv:IsEnts w v l) (hl:l.length≤100000) (hr:∀ e∈l,0≤e.rep∧e.rep≤1000000) :
   Calls Tryz.prog 164 #[v] w (CutIs w v l (runsL l)):=by
 by_cases hz:l.length=0
 · obtain rfl:=List.length_eq_zero_iff.1 hz
   obtain ⟨a1,c1,rfl,_⟩:=hv.form
   have HR:Hid (runsL ([]:List Ent)=[]):=rfl
   rw [HR.out]
   clear hv hl hr hz
   go_enter Tryz.func164,Tryz.ntmps164
   go_wp2
   refine wp_loop_rounds 1 ?_
   rw [rounds_succ]
   go_wp2
   go_ret
   exact ⟨_,[],rfl,ownsR_nil _ _,fun _ _=>trivial,rfl,Below.refl _ _⟩
 · obtain ⟨b,off,c,rfl,hlc,hb,hcells⟩:=hv.lies (by omega)
   have HC:=Lib.hid hcells
   obtain ⟨a1,c1,hav,f1⟩:=hv.form
   simp only [Value.slice.injEq,true_and] at hav
   obtain ⟨rfl,rfl⟩:=hav
   have F1:=Lib.hid f1
   have HR:=Lib.hid hr
   obtain ⟨n,hn⟩:∃ n,n=l.length:=⟨_,rfl⟩
   rw [←hn] at hl hlc hz ⊢ hv
   have HV:=Lib.hid hv
   have HN:=Lib.hid hn
   have HLC:=Lib.hid hlc
   clear hv f1 hn hcells hr
   go_enter Tryz.func164,Tryz.ntmps164
   go_wp2
   go_loopw [3,4,8] (fun rv fv i wr=>∃ (k fr:Nat) (vs:List Value) (R:List (List Ent)),k≤n∧i=.int .i64 k∧fv=.int .i64 fr∧fr≤k∧vs.length≤k∧R ++ cutA ((l.take k).drop fr) (l.drop k)=runsL l∧ownsR wr w.heap.size rv vs∧(∀ W,IsEnts W (.slice (some ⟨b,off,none⟩) n c) l→areE W vs R)∧Below w.heap.size w wr) (fun _ _ i _=>n - (intOf i).toNat)
   case atStart=>exact ⟨0,0,[],[],by omega,rfl,rfl,by omega,Nat.le_refl _,rfl,ownsR_nil _ _,(fun _ _=>trivial),Below.refl _ _⟩
   case round =>
     obtain ⟨k,fr,vs,R,hk,rfl,rfl,hfr,hvs,heq,hown,hare,hbel⟩:=hrel
     have HEQ:=Lib.hid heq
     have HO:=Lib.hid hown
     have HA:=Lib.hid hare
     have HB:=Lib.hid hbel
     have hzr:=hbel.size
     clear heq hown hare hbel
     by_cases hlt:k < n
     · have hkl:k < l.length:=by have:=HN.out;omega
       obtain ⟨t,ht⟩:∃ t,l[k]? = some t:=⟨l[k],List.getElem?_eq_getElem hkl⟩
       have hd:l.drop k=t :: l.drop (k + 1):=by
         rw [List.drop_eq_getElem_cons hkl];congr 1
         rw [List.getElem?_eq_getElem hkl] at ht;exact Option.some.inj ht
       have htk:l.take (k + 1)=l.take k ++ [t]:=by
         rw [List.take_succ_eq_append_getElem hkl];congr 2
         rw [List.getElem?_eq_getElem hkl] at ht;exact Option.some.inj ht
       have hcur:(l.take (k + 1)).drop fr=(l.take k).drop fr ++ [t]:=by
         rw [htk,List.drop_append_of_le_length (by rw [List.length_take];omega)]
       obtain ⟨b1,o1,hbo,_,p0,_⟩:=F1.out k t ht
       simp only [Option.some.injEq,Addr.mk.injEq,and_true] at hbo
       obtain ⟨rfl,rfl⟩:=hbo
       have hm:=HR.out t (List.mem_of_getElem? ht)
       have q0:=(HB.out.cell (p:=⟨b,off + k * 2,none⟩) hb).trans p0
       obtain ⟨k1,hk1⟩:∃ k1,k1=k + 1:=⟨_,rfl⟩
       rw [←hk1] at hd htk hcur
       have hfk:fr < k1:=by omega
       have hfk':(fr:Int)≤(k1:Int):=by omega
       have hkc:k1≤c:=by have:=HLC.out;omega
       have hkc':(k1:Int)≤(c:Int):=by omega
       have HP:Hid (∀ W,IsEnts W (.slice (some ⟨b,off,none⟩) n c) l→IsEnts W (.slice (some ⟨b,off + fr * 2,none⟩) (k1 - fr) (c - fr)) ((l.take k1).drop fr)):=Lib.hid (show ∀ W,IsEnts W (.slice (some ⟨b,off,none⟩) n c) l→IsEnts W (.slice (some ⟨b,off + fr * 2,none⟩) (k1 - fr) (c - fr)) ((l.take k1).drop fr) from fun W hW=>by
         obtain ⟨b',off',c',hv',hc',hb',hcs'⟩:=hW.lies (by omega)
         simp only [Value.slice.injEq,Option.some.injEq,Addr.mk.injEq,and_true] at hv'
         obtain ⟨⟨rfl,rfl⟩,_,rfl⟩:=hv'
         exact IsEnts.part hcs' hb' fr k1 (by have:=HN.out;omega) hfk rfl (by omega))
       by_cases hlast:k1=n
       · subst hlast
         have hdn:l.drop k1=[]:=List.drop_eq_nil_of_le (by have:=HN.out;omega)
         have hcl:cutA ((l.take k).drop fr) (l.drop k)=[(l.take k1).drop fr]:=by
           rw [hd,hdn,cutA_one,hcur]
         have HS:Hid ((R ++ [(l.take k1).drop fr]) ++ cutA ((l.take k1).drop k1) (l.drop k1)=runsL l):=Lib.hid (show (R ++ [(l.take k1).drop fr]) ++ cutA ((l.take k1).drop k1) (l.drop k1)=runsL l by
           rw [←HEQ.out,hcl,hdn]
           have:∀ cur,cutA cur []=[]:=fun _=>rfl
           rw [this,List.append_nil])
         have hw1:(k:Int) + 1=(k1:Int):=by omega
         have hw2:IntKind.i64.wrap ((k:Int) + 1)=(k1:Int):=by rw [hw1];exact IntWalk.i64_in _ (by omega)
         have hw3:IntKind.i64.wrap (t.rep + 1)=t.rep + 1:=IntWalk.i64_in _ (by omega)
         have HK1:=Lib.hid hk1
         clear hcl hcur htk hd ht p0 hm hk1 hdn
         go_wp2
         go_quiet (fail)
         clear hw2 hw3
         go_wp2_with (at_builtin;refine wpList_append_run rfl _ _ rfl w.heap.size _ vs rfl ((HO.out.drewN _).alloc _) ⟨wr.heap.size,0,none⟩ 1 rfl (.slice (some ⟨b,off + fr * 2,none⟩) (k1 - fr) (c - fr)) ⟨_,_,_,rfl⟩ ?c1 ?c2 ?c3 ?_)
         case c1=>simp [Addr.add];exact cell_of_row _ _ 0 _ _ (0,0) (heap_alloc_new (World.drewN wr _) _)
         case c2=>omega
         case c3=>simp;omega
         · intro g cap w2 ho2 hg2
           have HB2:Hid (Below w.heap.size w w2):=(((below_drewN HB.out _).alloc (by simp;omega) _).grown hg2 (by simp;omega) (fun g hg=>(HO.out.lt g hg).1))
           have HO2:=Lib.hid ho2
           have HA2:Hid (∀ W,IsEnts W (.slice (some ⟨b,off,none⟩) k1 c) l→areE W (vs ++ [(.slice (some ⟨b,off + fr * 2,none⟩) (k1 - fr) (c - fr):Value)]) (R ++ [(l.take k1).drop fr])):=Lib.hid (fun W hW=>areE_snoc (HP.out W hW) (HA.out W hW))
           obtain ⟨vs2,hvs2⟩:∃ vs2,vs ++ [(.slice (some ⟨b,off + fr * 2,none⟩) (k1 - fr) (c - fr):Value)]=vs2:=⟨_,rfl⟩
           have hvl:vs2.length=vs.length + 1:=by rw [←hvs2];simp
           rw [hvs2] at HO2 HA2
           rw [←hvl] at HO2 ⊢
           clear ho2 hg2 hvs2
           go_wp2
           go_roundw
           case rel=>exact ⟨k1,k1,vs2,_,by omega,by first | rfl | go_num,by first | rfl | go_num,Nat.le_refl _,by have:=HK1.out;omega,HS.out,HO2.out,HA2.out,HB2.out⟩
           case measure=>have:=HK1.out;simp [intOf];omega
       · have hk1l:k1 < l.length:=by have:=HN.out;omega
         obtain ⟨d,hdd⟩:∃ d,l[k1]? = some d:=⟨l[k1],List.getElem?_eq_getElem hk1l⟩
         have hd1:l.drop k1=d :: l.drop (k1 + 1):=by
           rw [List.drop_eq_getElem_cons hk1l];congr 1
           rw [List.getElem?_eq_getElem hk1l] at hdd;exact Option.some.inj hdd
         obtain ⟨b1,o1,hbo,_,p1,_⟩:=F1.out k1 d hdd
         simp only [Option.some.injEq,Addr.mk.injEq,and_true] at hbo
         obtain ⟨rfl,rfl⟩:=hbo
         have q1:=(HB.out.cell (p:=⟨b,off + k1 * 2,none⟩) hb).trans p1
         have hk1n:k1 < n:=by omega
         have hk1n':(k1:Int) < (n:Int):=by omega
         have hn1:((k1:Int) == (n:Int))=false:=by simp;omega
         by_cases hgp:t.rep + 1 < d.rep
         · have hcl : cutA ((l.take k).drop fr) (l.drop k) = (l.take k1).drop fr :: cutA [] (l.drop k1) := by
             rw [hd,hd1,cutA_cut hgp,hcur]
           have HS:Hid ((R ++ [(l.take k1).drop fr]) ++ cutA ((l.take k1).drop k1) (l.drop k1)=runsL l):=Lib.hid (show (R ++ [(l.take k1).drop fr]) ++ cutA ((l.take k1).drop k1) (l.drop k1)=runsL l by
             rw [←HEQ.out,hcl,List.drop_eq_nil_of_le (show (l.take k1).length≤k1 by rw [List.length_take];omega)]
             simp)
           have hw1:(k:Int) + 1=(k1:Int):=by omega
           have hw2:IntKind.i64.wrap ((k:Int) + 1)=(k1:Int):=by rw [hw1];exact IntWalk.i64_in _ (by omega)
           have hw3:IntKind.i64.wrap (t.rep + 1)=t.rep + 1:=IntWalk.i64_in _ (by omega)
           have HK1:=Lib.hid hk1
           clear hcl hcur htk hd ht p0 hm hk1 p1 hdd hd1
           go_wp2
           go_quiet (fail)
           clear hw2 hw3
           go_wp2_with (at_builtin;refine wpList_append_run rfl _ _ rfl w.heap.size _ vs rfl ((HO.out.drewN _).alloc _) ⟨wr.heap.size,0,none⟩ 1 rfl (.slice (some ⟨b,off + fr * 2,none⟩) (k1 - fr) (c - fr)) ⟨_,_,_,rfl⟩ ?c1 ?c2 ?c3 ?_)
           case c1=>simp [Addr.add];exact cell_of_row _ _ 0 _ _ (0,0) (heap_alloc_new (World.drewN wr _) _)
           case c2=>omega
           case c3=>simp;omega
           · intro g cap w2 ho2 hg2
             have HB2:Hid (Below w.heap.size w w2):=(((below_drewN HB.out _).alloc (by simp;omega) _).grown hg2 (by simp;omega) (fun g hg=>(HO.out.lt g hg).1))
             have HO2:=Lib.hid ho2
             have HA2:Hid (∀ W,IsEnts W (.slice (some ⟨b,off,none⟩) n c) l→areE W (vs ++ [(.slice (some ⟨b,off + fr * 2,none⟩) (k1 - fr) (c - fr):Value)]) (R ++ [(l.take k1).drop fr])):=Lib.hid (fun W hW=>areE_snoc (HP.out W hW) (HA.out W hW))
             obtain ⟨vs2,hvs2⟩:∃ vs2,vs ++ [(.slice (some ⟨b,off + fr * 2,none⟩) (k1 - fr) (c - fr):Value)]=vs2:=⟨_,rfl⟩
             have hvl:vs2.length=vs.length + 1:=by rw [←hvs2];simp
             rw [hvs2] at HO2 HA2
             rw [←hvl] at HO2 ⊢
             clear ho2 hg2 hvs2
             go_wp2
             go_roundw
             case rel=>exact ⟨k1,k1,vs2,_,by omega,by first | rfl | go_num,by first | rfl | go_num,Nat.le_refl _,by have:=HK1.out;omega,HS.out,HO2.out,HA2.out,HB2.out⟩
             case measure=>have:=HK1.out;simp [intOf];omega
         · have hcl : cutA ((l.take k).drop fr) (l.drop k) = cutA ((l.take k1).drop fr) (l.drop k1) := by
             rw [hd,hd1,cutA_on hgp,hcur]
           have HS:Hid (R ++ cutA ((l.take k1).drop fr) (l.drop k1)=runsL l):=Lib.hid (show R ++ cutA ((l.take k1).drop fr) (l.drop k1)=runsL l by
             rw [←HEQ.out,hcl])
           have hgp':d.rep≤t.rep + 1:=by omega
           have hw1:(k:Int) + 1=(k1:Int):=by omega
           have hw2:IntKind.i64.wrap ((k:Int) + 1)=(k1:Int):=by rw [hw1];exact IntWalk.i64_in _ (by omega)
           have hw3:IntKind.i64.wrap (t.rep + 1)=t.rep + 1:=IntWalk.i64_in _ (by omega)
           have HK1:=Lib.hid hk1
           clear hcl hcur htk hd ht p0 hm hk1 p1 hdd hd1
           go_wp2
           go_quiet (fail)
           clear hw2 hw3
           go_wp2
           go_roundw
           case rel=>exact ⟨k1,fr,vs,R,by omega,by first | rfl | go_num,rfl,by have:=HK1.out;omega,by have:=HK1.out;omega,HS.out,HO.out.drewN _,HA.out,below_drewN HB.out _⟩
           case measure=>have:=HK1.out;simp [intOf];omega
     · have hkn:k=n:=by omega
       have HRE:Hid (R=runsL l):=Lib.hid (show R=runsL l by
         rw [←HEQ.out,List.drop_eq_nil_of_le (show l.length≤k by have:=HN.out;omega)]
         have:∀ cur,cutA cur []=[]:=fun _=>rfl
         rw [this,List.append_nil])
       obtain rfl:=HRE.out
       go_wp2
       go_ret
       exact ⟨_,vs,rfl,HO.out,HA.out,areE_len (HA.out w HV.out),HB.out⟩
end Go.Proofs.YtjkbmfpomgcblaaGreatDoor
namespace Go.Proofs.YtjkbmfpomgcblaaGreatDoor
open Go.RowKit
theorem step_append_ent (w:World) {ops:Array Oper} {o:Oper} {a:Act} {K:Act→World→Prop} {Q:Exit→Act→World→Prop} {E:Prop} (hgd:o.guard=none) (s x:Operand)
   (ho:o.op=.call { callee:=.builtin .append,args:=#[s,x],argTypes:=#[22,22] })
   (base:Nat) (v:Value) (l:List Ent) (hs:a.eval s=v) (hown:ownsE w base v l)
   (B c:Nat) (hx:a.eval x=.slice (some ⟨B,0,none⟩) 1 c) (t:Ent) (hcell:entBlk w B t)
   (hlen:l.length + 1≤1000000) (hbase:base≤w.heap.size)
   (h:∀ g cap w',ownsE w' base (.slice (some ⟨g,0,none⟩) (l.length + 1) cap) (l ++ [t])→w.grownBy w' v.ownBlock→(v.ownBlock=some g∨g=w.heap.size)→K (a.put o.dst (.slice (some ⟨g,0,none⟩) (l.length + 1) cap)) w') :
   if Region.wanted o (yielded ops a.tmps)=true then Oper.wp Tryz.prog o a w K Q else E:=by
 obtain ⟨i0,hi,hz0,hz1,hz2⟩:=info_parts info_ent
 refine step_append_lies w hgd s x 22 ho base 74 i0 (.agg #[.int .i64 0,.int .i64 0]) 2 16 Tryz.underlying22 hi hz0 hz1 hz2 rfl (by decide) v l.length (entsC l) hs hown ⟨B,0,none⟩ 1 c (entC t) hx rfl ?_ ?_ (by decide) (by unfold maxLen;omega) (by omega) hbase _ rfl ?_
 · intro j u hj
   have hadd:(⟨B,0,none⟩:Addr).add j=⟨B,j,none⟩:=by unfold Addr.add;split <;> simp_all
   rw [hadd,cell_of_row _ _ _ _ _ _ hcell,←hj]
   unfold entC;simp
 · intro u hu;simp [entC] at hu;rcases hu with rfl | rfl <;> rfl
 · intro g cap w' h1 h2 h3 _
   refine h g cap w' ?_ h2 h3
   unfold ownsE
   rw [List.length_append,entsC_app]
   simpa [entsC] using h1
theorem ownsR.stored {w:World} {base g n cap:Nat} {l:List Value} {d:Value} (h:ownsR w base (.slice (some ⟨g,0,none⟩) n cap) (l ++ [d])) (hn:n=l.length + 1) (x:Value) :
   ownsR (w.setCell ⟨g,l.length,none⟩ x) base (.slice (some ⟨g,0,none⟩) n cap) (l ++ [x])∧w.grownBy (w.setCell ⟨g,l.length,none⟩ x) (some g):=by
 subst hn
 unfold ownsR at h ⊢
 rw [List.length_append] at h ⊢
 have h2:=World.ownsRow.stored h l.length x
 have e:(l ++ [d]).set l.length x=l ++ [x]:=by
   rw [List.set_append_right _ _ (Nat.le_refl _),Nat.sub_self];rfl
 rw [e] at h2
 exact h2
theorem ownsR.last {w:World} {base g n cap:Nat} {l:List Value} {d:Value} (h:ownsR w base (.slice (some ⟨g,0,none⟩) n cap) (l ++ [d])) (hn:n=l.length + 1) :
   w.cell? ⟨g,l.length,none⟩=some d∧w.frozen? ⟨g,l.length,none⟩=false∧base≤g∧g < w.heap.size:=by
 subst hn
 have hlt:=h.lt g rfl
 unfold ownsR at h
 rw [List.length_append] at h
 refine ⟨?_,World.ownsRow.frozenAt h _,hlt.1,hlt.2⟩
 rw [World.ownsRow.cellAt h _ (by simp)]
 simp
end Go.Proofs.YtjkbmfpomgcblaaGreatDoor
namespace Go.Proofs.YtjkbmfpomgcblaaGreatDoor
open Go.RowKit
def freeAt (w:World) (B:Nat):Prop:=w.frozen? ⟨B,0,none⟩=false∧w.frozen? ⟨B,1,none⟩=false∧w.frozen? ⟨B,2,none⟩=false∧w.frozen? ⟨B,3,none⟩=false∧w.frozen? ⟨B,4,none⟩=false∧w.frozen? ⟨B,5,none⟩=false
theorem freeAt.below {w w':World} {B m:Nat} (h:freeAt w B) (hb:Below m w w') (hm:B < m):freeAt w' B :=
 ⟨(hb.frozen hm).trans h.1,(hb.frozen hm).trans h.2.1,(hb.frozen hm).trans h.2.2.1,(hb.frozen hm).trans h.2.2.2.1,(hb.frozen hm).trans h.2.2.2.2.1,(hb.frozen hm).trans h.2.2.2.2.2⟩
end Go.Proofs.YtjkbmfpomgcblaaGreatDoor
namespace Go.Proofs.YtjkbmfpomgcblaaGreatDoor
open Go.RowKit
theorem back_t (K:Int) (val:ByteArray) (N:Int):(tailB K val N).size=(numB K N).size + (valB K val).size:=by unfold tailB;rw [app_size]
end Go.Proofs.YtjkbmfpomgcblaaGreatDoor
namespace Go.Proofs.YtjkbmfpomgcblaaGreatDoor
open Go.RowKit
theorem ofF_drop {l:List Ent} {k:Nat} {t:Ent} (h:l[k]? = some t) (x:Int):ofF (l.drop k) x=if t.rep=x then t.time else ofF (l.drop (k + 1)) x:=by
 obtain ⟨hk,ht⟩:=List.getElem?_eq_some_iff.1 h
 rw [List.drop_eq_getElem_cons hk,ht];rfl
set_option maxRecDepth 100000 in
set_option maxHeartbeats 2000000 in
theorem vof_any (v:Value) (l:List Ent) (x:Int) (w:World) (hv:IsEnts w v l) (hl:l.length≤9223372036854775807) :
   Calls Tryz.prog 196 #[v,.int .i64 x] w fun r w'=>r=.returned (.int .i64 (ofF l x))∧Below w.heap.size w w':=by
 obtain ⟨a1,c1,rfl,f1⟩:=hv.form
 have F1:=Lib.hid f1
 obtain ⟨n,hn⟩:∃ n,n=l.length:=⟨_,rfl⟩
 rw [←hn] at hl ⊢
 have HN:=Lib.hid hn
 clear hv f1 hn
 go_enter Tryz.func196,Tryz.ntmps196
 go_wp2
 go_loopw [9] (fun i wr=>∃ k:Nat,k≤n∧i=.int .i64 k∧ofF l x=ofF (l.drop k) x∧Below w.heap.size w wr) (fun i _=>n - (intOf i).toNat)
 case atStart=>exact ⟨0,by omega,rfl,rfl,Below.refl _ _⟩
 case round =>
   obtain ⟨k,hk,rfl,heq,hbel⟩:=hrel
   have HEQ:=Lib.hid heq
   have HB:=Lib.hid hbel
   have hzr:=hbel.size
   clear heq hbel
   by_cases hlt:k < n
   · obtain ⟨t, ht⟩ : ∃ t, l[k]? = some t := ⟨l[k]'(by have := HN.out; omega), List.getElem?_eq_getElem _⟩
     obtain ⟨b1,o1,rfl,hb1,p0,p1⟩:=F1.out k t ht
     have hd:=ofF_drop ht x
     obtain ⟨rep,time⟩:=t
     simp only at p0 p1 hd
     have q0:=(HB.out.cell (p:=⟨b1,o1 + k * 2,none⟩) hb1).trans p0
     have q1:=(HB.out.cell (p:=⟨b1,o1 + k * 2 + 1,none⟩) hb1).trans p1
     by_cases hx:rep=x
     · have HW:Hid (ofF l x=time):=Lib.hid (show ofF l x=time by rw [HEQ.out,hd,if_pos hx])
       clear p0 p1 ht hd
       subst hx
       go_wp2
       go_ret
       exact ⟨by rw [HW.out];rfl,HB.out.alloc hzr _⟩
     · have HW:Hid (ofF l x=ofF (l.drop (k + 1)) x):=Lib.hid (show ofF l x=ofF (l.drop (k + 1)) x by rw [HEQ.out,hd,if_neg hx])
       have bx:(rep == x)=false:=by simpa using hx
       clear p0 p1 ht hd
       go_wp2
       go_roundw
       case rel=>exact ⟨k + 1,by omega,by go_num,HW.out,HB.out.alloc hzr _⟩
       case measure=>simp [intOf];omega
   · have HW:Hid (ofF l x=0):=Lib.hid (show ofF l x=0 by rw [HEQ.out,List.drop_eq_nil_of_le (by have:=HN.out;omega)];rfl)
     go_wp2
     go_ret
     exact ⟨by rw [HW.out];rfl,HB.out⟩
set_option maxRecDepth 100000 in
set_option maxHeartbeats 2000000 in
theorem rof_any (v:Value) (l:List Ent) (x:Int) (w:World) (hv:IsEnts w v l) (hl:l.length≤9223372036854775807) :
   Calls Tryz.prog 168 #[v,.int .i64 x] w fun r w'=>r=.returned (.int .i64 (ofF l x))∧w=w':=by
 obtain ⟨a1,c1,rfl,f1⟩:=hv.form
 have F1:=Lib.hid f1
 obtain ⟨n,hn⟩:∃ n,n=l.length:=⟨_,rfl⟩
 rw [←hn] at hl ⊢
 have HN:=Lib.hid hn
 clear hv f1 hn
 go_enter Tryz.func168,Tryz.ntmps168
 go_wp2
 go_loop [8] (fun i=>∃ k:Nat,k≤n∧i=.int .i64 k∧ofF l x=ofF (l.drop k) x) (fun i=>n - (intOf i).toNat)
 case atStart=>exact ⟨0,by omega,rfl,rfl⟩
 case round =>
   obtain ⟨k,hk,rfl,heq⟩:=hrel
   have HEQ:=Lib.hid heq
   clear heq
   by_cases hlt:k < n
   · obtain ⟨t, ht⟩ : ∃ t, l[k]? = some t := ⟨l[k]'(by have := HN.out; omega), List.getElem?_eq_getElem _⟩
     obtain ⟨b1,o1,rfl,hb1,p0,p1⟩:=F1.out k t ht
     have hd:=ofF_drop ht x
     obtain ⟨rep,time⟩:=t
     simp only at p0 p1 hd
     by_cases hx:rep=x
     · have HW:Hid (ofF l x=time):=Lib.hid (show ofF l x=time by rw [HEQ.out,hd,if_pos hx])
       clear ht hd
       subst hx
       go_wp2
       go_ret
       exact ⟨by rw [HW.out];rfl,rfl⟩
     · have HW:Hid (ofF l x=ofF (l.drop (k + 1)) x):=Lib.hid (show ofF l x=ofF (l.drop (k + 1)) x by rw [HEQ.out,hd,if_neg hx])
       have bx:(rep == x)=false:=by simpa using hx
       clear ht hd
       go_wp2
       go_round
       case rel=>exact ⟨k + 1,by omega,by go_num,HW.out⟩
       case measure=>simp [intOf];omega
   · have HW:Hid (ofF l x=0):=Lib.hid (show ofF l x=0 by rw [HEQ.out,List.drop_eq_nil_of_le (by have:=HN.out;omega)];rfl)
     go_wp2
     go_ret
     exact ⟨by rw [HW.out];rfl,rfl⟩
end Go.Proofs.YtjkbmfpomgcblaaGreatDoor
namespace Go.Proofs.YtjkbmfpomgcblaaGreatDoor
open Go.RowKit
def keysW (l:List Wr):List ByteArray:=l.map (·.key)
def tailL (x:Wr):List UInt8:=(tailB x.kind x.value x.n).data.toList
def placeF (h:List Ent) (r:Int):Nat:=h.findIdx (fun e=>decide (e.rep=r))
def textsB (T:List ByteArray):List UInt8:=T.flatMap fun k=>spanL k.data.toList
def oneB (h:List Ent) (ahead:Int) (x:Wr) (n:Nat):List UInt8 :=
 [UInt8.ofNat x.kind.toNat] ++ putL (x.time - ahead).toNat ++ putL (placeF h x.rep) ++ putL n ++ tailL x
def rowB (h:List Ent):Int→List Wr→List Nat→List UInt8
 | _,[],_=>[]
 | _,_ :: _,[]=>[]
 | ahead,x :: r,n :: N=>oneB h ahead x n ++ rowB h x.time r N
def bodyL (f h:List Ent) (l:List Wr):List UInt8 :=
 vwriteL f ++ vwriteL h ++ putL (tabK [] (keysW l)).length ++ textsB (tabK [] (keysW l)) ++ putL l.length ++ rowB h 0 l (atK [] (keysW l))
def bodyF (f h:List Ent) (l:List Wr):List UInt8×Nat×Int :=
 if (batF f h l).1≠0 then ([],batF f h l) else if 20000 < (bodyL f h l).length then ([],4,-1) else (bodyL f h l,0,-1)
theorem bodyF_bad {f h:List Ent} {l:List Wr} (h0:(batF f h l).1≠0):bodyF f h l=([],batF f h l):=by unfold bodyF;rw [if_pos h0]
theorem bodyF_big {f h:List Ent} {l:List Wr} (h0:(batF f h l).1=0) (h1:20000 < (bodyL f h l).length):bodyF f h l=([],4,-1):=by unfold bodyF;rw [if_neg (by simpa using h0),if_pos h1]
theorem bodyF_ok {f h:List Ent} {l:List Wr} (h0:(batF f h l).1=0) (h1:¬ 20000 < (bodyL f h l).length):bodyF f h l=(bodyL f h l,0,-1):=by unfold bodyF;rw [if_neg (by simpa using h0),if_neg h1]
theorem textsB_cons (k:ByteArray) (T:List ByteArray):textsB (k :: T)=spanL k.data.toList ++ textsB T:=by simp [textsB]
theorem rowB_cons (h:List Ent) (ahead:Int) (x:Wr) (r:List Wr) (n:Nat) (N:List Nat):rowB h ahead (x :: r) (n :: N)=oneB h ahead x n ++ rowB h x.time r N:=rfl
section
variable {s:List UInt8} {h:List Ent} {T:List ByteArray} {a:Nat} {ahead:Int} {K j t k1 p k2 n k3 e:Nat}
end
section
variable {s:List UInt8} {f h:List Ent} {T:List ByteArray} {W:List Wr} {N:List Nat} {n m k j b k2 j2 c e p:Nat}
end
end Go.Proofs.YtjkbmfpomgcblaaGreatDoor
namespace Go.Proofs.YtjkbmfpomgcblaaGreatDoor
open Go.RowKit
theorem late_time {q x:Wr} (h:late q x):q.time≤x.time:=by
 unfold late cI orF cmpF wid at h
 simp only at h
 split at h <;> split at h <;> simp_all <;> omega
theorem wE_facts {x:Wr} (h:wE x=0):1≤x.kind∧x.kind≤4∧1≤x.time∧x.time≤1099511627776∧0≤x.rep∧x.rep≤200∧x.key.size≤40∧x.value.size≤300∧(tailL x).length≤320∧WrOk x:=by
 obtain ⟨h1,h2,h3,h4,h5,h6⟩:=wriE_good h
 unfold idOk at h2
 have h2:=of_decide_eq_true h2
 have hn:=numB_size h6
 have hs:=spanB_le h4
 have hv:(valB x.kind x.value).size≤310:=by unfold valB;split <;> first | exact hs | exact Nat.zero_le _
 have ht:(tailL x).length≤320:=by unfold tailL;rw [←size_data,back_t];omega
 have hN : -9223372036854775808≤x.n∧x.n≤9223372036854775807:=by
   unfold fitsN at h6
   by_cases k3:x.kind=3
   · rw [if_pos k3] at h6;simp only [Bool.and_eq_true,decide_eq_true_eq] at h6;omega
   · rw [if_neg k3] at h6
     by_cases k4:x.kind=4
     · rw [if_pos k4] at h6;simp only [Bool.and_eq_true,decide_eq_true_eq] at h6;omega
     · have : x.n = 0 := by
         by_cases hN:x.n=0
         · exact hN
         · exact absurd (.inr ⟨hN,by unfold hasN;rw [decide_eq_false k3,decide_eq_false k4];rfl⟩) h5
       omega
 exact ⟨by omega,by omega,h2.1,h2.2.1,h2.2.2.1,h2.2.2.2,h3,h4,ht,hN.1,hN.2,by omega,by omega⟩
theorem place_bound {h:List Ent} {r:Int} {e:Ent} (he:e∈h) (hr:e.rep=r):placeF h r < h.length:=List.findIdx_lt_length_of_exists ⟨e,he,by simpa using hr⟩
def okRow (h:List Ent) (T:List ByteArray):Int→List Wr→List Nat→Prop
 | _,[],N=>N=[]
 | _,_ :: _,[]=>False
 | ahead,x :: r,n :: N=>(wE x=0∧ahead≤x.time∧placeF h x.rep < h.length∧T[n]? = some x.key)∧okRow h T x.time r N
theorem okRow_of (h:List Ent) (l:List Wr):∀ (T0:List ByteArray) (ahead:Int),(∀ x∈l,wE x=0∧ahead≤x.time∧placeF h x.rep < h.length)→l.Pairwise late→okRow h (tabK T0 (keysW l)) ahead l (atK T0 (keysW l)):=by
 induction l with
 | nil=>intro T0 ahead _ _;rfl
 | cons x r ih =>
   intro T0 ahead hx hp
   rw [List.pairwise_cons] at hp
   obtain ⟨h1,h2,h3⟩:=hx x List.mem_cons_self
   refine ⟨⟨h1,h2,h3,?_⟩,ih (addK T0 x.key) x.time (fun y hy=>⟨(hx y (List.mem_cons_of_mem _ hy)).1,late_time (hp.1 y hy),(hx y (List.mem_cons_of_mem _ hy)).2.2⟩) hp.2⟩
   have hpre:addK T0 x.key <+: tabK T0 (keysW (x :: r)):=tabK_pre (keysW r) (addK T0 x.key)
   have hat:(addK T0 x.key)[idxB T0 x.key]? = some x.key:=by
     by_cases hm:x.key∈T0
     · rw [addK_in hm];exact idxB_get hm
     · rw [addK_new hm,idxB_new hm];simp
   obtain ⟨t,ht⟩:=hpre
   rw [←ht,List.getElem?_append_left (List.getElem?_eq_some_iff.1 hat).1]
   exact hat
theorem right_okRow {f h:List Ent} {l:List Wr} (hr:rightB f h l):okRow h (tabK [] (keysW l)) 0 l (atK [] (keysW l)):=by
 rw [rightB_iff] at hr
 obtain ⟨⟨g1,g2,g3⟩,g4,g5,g6⟩:=hr
 refine okRow_of h l [] 0 (fun x hx=>?_) g6
 obtain ⟨h1,h2⟩:=g5 x hx
 have hf:=wE_facts h1
 refine ⟨h1,by omega,?_⟩
 unfold wiF wid at h2
 simp only [Bool.and_eq_true,decide_eq_true_eq] at h2
 obtain ⟨e,he,h3,_⟩:=ofF_has (l:=h) (x:=x.rep) (by omega)
 exact place_bound he h3
theorem okRow_len {h:List Ent} {T:List ByteArray} (l:List Wr):∀ (ahead:Int) (N:List Nat),okRow h T ahead l N→N.length=l.length:=by
 induction l with
 | nil=>intro ahead N hN;have hN:N=[]:=hN;rw [hN];rfl
 | cons x r ih =>
   intro ahead N hN
   cases N with
   | nil=>exact absurd hN id
   | cons n N=>rw [List.length_cons,List.length_cons,ih _ _ hN.2]
theorem oneB_len {h:List Ent} {ahead:Int} {x:Wr} {n:Nat} (hw:wE x=0) (hp:placeF h x.rep≤1000) (h0:0≤ahead) (hn:n≤1000):(oneB h ahead x n).length≤351:=by
 have hf:=wE_facts hw
 have h1:=putL_le10 (n:=(x.time - ahead).toNat) (by omega)
 have h2:=putL_le10 (n:=placeF h x.rep) (by omega)
 have h3:=putL_le10 (n:=n) (by omega)
 unfold oneB
 simp only [List.length_append,List.length_cons,List.length_nil]
 omega
theorem rowB_len {h:List Ent} {T:List ByteArray} (hh:h.length≤1000) (hT:T.length≤1000) (l:List Wr):∀ (ahead:Int) (N:List Nat),0≤ahead→okRow h T ahead l N→(rowB h ahead l N).length≤l.length * 351:=by
 induction l with
 | nil=>intro ahead N _ _;simp [rowB]
 | cons x r ih =>
   intro ahead N h0 hN
   cases N with
   | nil=>exact absurd hN id
   | cons n N =>
     obtain ⟨⟨h1,h2,h3,h4⟩,h5⟩:=hN
     have hf:=wE_facts h1
     have hn:n < T.length:=(List.getElem?_eq_some_iff.1 h4).1
     have:=oneB_len (n:=n) h1 (show placeF h x.rep≤1000 by omega) h0 (by omega)
     have:=ih x.time N (by omega) h5
     rw [rowB_cons,List.length_append,List.length_cons]
     omega
theorem textsB_len {T:List ByteArray} (h:∀ k∈T,k.size≤40):(textsB T).length≤T.length * 50:=by
 induction T with
 | nil=>simp [textsB]
 | cons k T ih =>
   have h1:=h k List.mem_cons_self
   have h2:=ih fun y hy=>h y (List.mem_cons_of_mem _ hy)
   have h3:=putL_le10 (n:=k.data.toList.length) (by rw [←size_data];omega)
   rw [textsB_cons,List.length_append,List.length_cons]
   unfold spanL
   rw [List.length_append,←size_data]
   rw [←size_data] at h3
   omega
theorem tab_keys {l:List Wr} {k:ByteArray} (hk:k∈tabK [] (keysW l)):∃ x∈l,x.key=k:=by
 rcases tabK_sub _ _ _ hk with h | h
 · cases h
 · exact List.mem_map.1 h
theorem tab_small {f h:List Ent} {l:List Wr} (hr:rightB f h l):(∀ k∈tabK [] (keysW l),k.size≤40)∧(tabK [] (keysW l)).length≤60:=by
 rw [rightB_iff] at hr
 refine ⟨fun k hk=>?_,?_⟩
 · obtain ⟨x,hx,rfl⟩:=tab_keys hk
   have:=wE_facts (hr.2.2.1 x hx).1
   omega
 · have:=tabK_len (keysW l) []
   unfold keysW at this ⊢
   rw [List.length_map] at this
   have:=hr.2.1
   simp at *
   omega
theorem vwriteF_right {l:List Ent} (h:rightV l):vwriteF l=vwriteL l:=by unfold vwriteF;rw [if_pos ((vright_ok l).2 h)]
end Go.Proofs.YtjkbmfpomgcblaaGreatDoor
