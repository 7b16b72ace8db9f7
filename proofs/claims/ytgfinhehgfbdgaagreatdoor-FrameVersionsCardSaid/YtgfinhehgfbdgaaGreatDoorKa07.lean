import Derived.Test.YtgfinhehgfbdgaaGreatDoorKa03
import Derived.Deep.Slices
import Derived.Deep.Fields
import Derived.ChangeSame
import Derived.SizedLaws
import Derived.ProofKit
import Derived.Test.YtgfinhehgfbdgaaGreatDoorKa01
import Derived.Test.YtgfinhehgfbdgaaGreatDoorKa04
import Derived.Lib.Hide
import Derived.WalkSmall
import Derived.Outline
import Derived.BigQuiet
import Derived.Deep.QuietTactic
import Derived.Test.YtgfinhehgfbdgaaGreatDoorKa06
import Derived.Test.YtgfinhehgfbdgaaGreatDoorRows
namespace Go.Proofs.YtgfinhehgfbdgaaGreatDoor
open Go.ChangeShapes Go.WideShapes Go.ChangeAt Go.RowKit
theorem laidOutE:laidOutB Tryz.prog=true:=by kernel_rfl
instance : Inhabited Ent:=⟨⟨0,0⟩⟩
theorem two_fields {H:Type} {enc:TypeId×Value→H} {P:Program} {W:World} {spare:Nat→Bool} {held:Bool} {n:Nat} {t:TypeId} {cs:List Value} {x:DataW H×List MemPlace} {p q:Field}
   (ht:P.underlying t=some (.struct #[p,q])) (h1:Go.Deep.oneCellFields P #[p,q]=true) (h3:P.cellsOf t=2)
   (h:DataW.trod enc P W 0 spare held n t cs=some x) :
   ∃ (a b:Value) (u v:DataW H×List MemPlace) (m:Nat),cs=[a,b]∧x.1=.agg [u.1,v.1] ∧
     DataW.trod enc P W 0 spare held m p.type [a]=some u∧DataW.trod enc P W 0 spare held m q.type [b]=some v:=by
 obtain ⟨xs,m,_,hx,hl,hxl,hf⟩:=DataW.trod_struct ht h
 rw [h3] at hl
 have hxl':xs.length=2:=hxl
 match cs,hl with
 | [a,b],_ =>
   match xs,hxl' with
   | [u,v],_ =>
     have one:=Go.Deep.hone_of h1
     have g0:=hf 0 p rfl
     have g1:=hf 1 q rfl
     rw [(one 0 p rfl).1,(one 0 p rfl).2] at g0
     rw [(one 1 q rfl).1,(one 1 q rfl).2] at g1
     exact ⟨a,b,u,v,m,rfl,by rw [hx];rfl,g0,g1⟩
theorem ent_elem {H:Type} {enc:TypeId×Value→H} {W:World} {spare:Nat→Bool} {held:Bool} {n:Nat} {cs:List Value} {x:DataW H×List MemPlace}
   (h:DataW.trod enc Tryz.prog W 0 spare held n 80 cs=some x):∃ t:Ent,cs=entC t:=by
 obtain ⟨a,b,u,v,m,rfl,hx,g0,g1⟩:=two_fields Tryz.underlying80 (by kernel_rfl) (by kernel_rfl) h
 obtain ⟨k,e0,f0,_⟩:=DataW.trod_int Tryz.underlying3 g0
 obtain ⟨z,e1,f1,_⟩:=DataW.trod_int Tryz.underlying3 g1
 have e0':a=.int .i64 k:=List.head_eq_of_cons_eq e0
 have e1':b=.int .i64 z:=List.head_eq_of_cons_eq e1
 exact ⟨⟨k,z⟩,by rw [e0',e1'];rfl⟩
theorem entsArg {H:Type} {enc:TypeId×Value→H} {W:World} {spare:Nat→Bool} {held:Bool} {a0:Option Addr} {len0 cap0 fuel:Nat} {d:DataW H} {p:List MemPlace}
   (hf:DataW.trod enc Tryz.prog W 0 spare held fuel 22 [.slice a0 len0 cap0]=some (d,p)) :
   ∃ l:List Ent,IsEnts W (.slice a0 len0 cap0) l∧l.length=len0∧len0≤cap0∧cap0≤maxLen:=by
 rcases Go.Deep.open_slice Tryz.underlying22 hf with ⟨hcs,_⟩ | ⟨a,ln,cp,m,n,D,Pl,hcs,_,hl,hm,hmm,hx,hi⟩
 · simp only [List.cons.injEq,Value.slice.injEq,and_true] at hcs
   obtain ⟨rfl,rfl,rfl⟩:=hcs
   exact ⟨[],.inl ⟨_,_,rfl,rfl⟩,rfl,Nat.le_refl _,by unfold maxLen;omega⟩
 · simp only [List.cons.injEq,Value.slice.injEq,and_true] at hcs
   obtain ⟨rfl,rfl,rfl⟩:=hcs
   have h3:Tryz.prog.cellsOf 80=2:=by kernel_rfl
   rw [h3] at hi
   have hle:len0≤m:=by rw [hmm];split <;> omega
   obtain ⟨f,hfc⟩:=Go.Deep.choose_lt (n:=len0) (p:=fun i (t:Ent)=>W.cells? 0 (a.add (i * 2)) 2=some (entC t)) (fun i hlt=>by
     obtain ⟨cs',hc,ht⟩:=hi i (by omega)
     obtain ⟨t,h1⟩:=ent_elem ht
     exact ⟨t,by rw [hc,h1]⟩)
   have hll:((List.range len0).map f).length=len0:=by simp
   refine ⟨(List.range len0).map f,?_,hll,hl,hm⟩
   by_cases hz:len0=0
   · subst hz;exact .inl ⟨_,_,rfl,rfl⟩
   · obtain ⟨b,off,spot⟩:=a
     have hcell:∀ i,i < len0→∀ r,r < 2→W.cell? ((⟨b,off,spot⟩:Addr).add (i * 2 + r))=(entC (f i))[r]? := fun i hlt r hr=>by
       obtain ⟨_,_,hat⟩:=World.cells?_some (hfc i hlt)
       rw [←Go.Deep.add_add];exact hat r hr
     have h0:=hcell 0 (by omega) 0 (by omega)
     have hspot:spot=none:=by simpa [Addr.add] using World.cell?_spot (h0.trans rfl)
     subst hspot
     refine .inr ⟨b,off,cap0,by rw [hll],⟨by rw [hll];omega,by rw [hll];omega⟩,block_lt_of_cell (h0.trans rfl),fun j u hj=>?_⟩
     have hjl:j < len0 * 2:=by rw [←hll,←entsC_len];exact (List.getElem?_eq_some_iff.1 hj).1
     have hc:=hcell (j / 2) (by omega) (j % 2) (Nat.mod_lt _ (by decide))
     have hti:((List.range len0).map f)[j / 2]? = some (f (j / 2)):=by
       rw [List.getElem?_map,List.getElem?_range (by omega)];rfl
     have h5:=entsC_at _ _ (j % 2) _ hti (Nat.mod_lt _ (by decide))
     rw [show j / 2 * 2 + j % 2=j by omega] at hc h5
     rw [←h5,hj] at hc
     rw [←hc]
     refine congrArg W.cell? ?_
     unfold Addr.add
     split
     · rename_i e;rw [e];rfl
     · rfl
end Go.Proofs.YtgfinhehgfbdgaaGreatDoor
namespace Go.Proofs.YtgfinhehgfbdgaaGreatDoor
open Go.RowKit
theorem kclone_any (s:ByteArray) (w:World) (hs:s.size≤281474976710656) :
   Calls Tryz.prog 145 #[.string s] w fun e w'=>e=.returned (.string s)∧Below w.heap.size w w':=by
 go_enter Tryz.func145,Tryz.ntmps145
 go_wp2_with fail
 refine (Tryz.stringslite_Clone s _ hs).mono ?_
 rintro r w1 ⟨rfl,hb1⟩
 go_wp2
 go_ret
 exact ⟨rfl,hb1⟩
def TabIs (w:World) (l:List ByteArray) (e:Ending) (w':World):Prop :=
 ∃ v1 v2,e=.returned (.tuple #[v1,v2])∧ownsS w' w.heap.size v1 (tabK [] l)∧ownsN w' w.heap.size v2 (atK [] l)∧Below w.heap.size w w'
set_option maxRecDepth 100000 in
set_option maxHeartbeats 4000000 in
theorem ktab_any (v:Value) (l:List ByteArray) (w:World) (hv:IsTexts w v l) (hl:l.length≤1000000) (hs:∀ s∈l,s.size≤140737488351232) :
   Calls Tryz.prog 112 #[v] w (TabIs w l):=by
 obtain ⟨a1,c1,rfl,_,f1⟩:=hv
 have F1:=Lib.hid f1
 have HS:=Lib.hid hs
 obtain ⟨n,hn⟩:∃ n,n=l.length:=⟨_,rfl⟩
 rw [←hn] at hl ⊢
 have HN:=Lib.hid hn
 clear f1 hs hn
 have hmm:=@run_makeMap Tryz.prog
 go_enter Tryz.func112,Tryz.ntmps112
 go_wp2
 go_loopw [2, 3, 12] (fun t a i wr => ∃ (k : Nat) (T : List ByteArray) (N : List Nat), k ≤ n ∧ i = .int .i64 k ∧ T.length ≤ k ∧ N.length = k ∧ tabK [] l = tabK T (l.drop k) ∧ atK [] l = N ++ atK T (l.drop k) ∧
     ownsNum wr w.heap.size k T∧ownsS wr (w.heap.size + 1) t T∧ownsN wr (w.heap.size + 1) a N∧w.heap.size + 1≤wr.heap.size∧Below w.heap.size w wr) (fun _ _ i _=>n - (intOf i).toNat)
 case atStart=>exact ⟨0,[],[],Nat.zero_le _,rfl,Nat.le_refl _,rfl,rfl,rfl,ownsNum_made _,ownsS_nil _ _,ownsN_nil _ _,by simp,(Below.refl _ _).alloc (Nat.le_refl _) _⟩
 case round =>
   obtain ⟨k,T,N,hk,rfl,hT,hN,ht,ha,hmap,hos,hon,hz,hbel⟩:=hrel
   have HT:=Lib.hid ht
   have HA:=Lib.hid ha
   have HM:=Lib.hid hmap
   have HO:=Lib.hid hos
   have HQ:=Lib.hid hon
   have HB:=Lib.hid hbel
   have HZ:=Lib.hid hz
   have HNL:=Lib.hid hN
   have HTL:=Lib.hid hT
   obtain ⟨ad,cp,rfl,_,_⟩:=hos.isTexts
   clear ht ha hmap hos hon hbel hN hT hz
   by_cases hlt:k < n
   · obtain ⟨s, hs⟩ : ∃ s, l[k]? = some s := ⟨l[k]'(by have := HN.out; omega), List.getElem?_eq_getElem _⟩
     obtain ⟨b1,o1,rfl,hb1,p0⟩:=F1.out k s hs
     have q0:=(HB.out.cell (p:=⟨b1,o1 + k,none⟩) hb1).trans p0
     have HSZ:Hid (s.size≤140737488351232):=Lib.hid (HS.out s (List.mem_of_getElem? hs))
     have hsz:s.size≤maxLen:=by have:=HSZ.out;unfold maxLen;omega
     by_cases hin:s∈T
     · have HJ:=Lib.hid (idxB_get hin)
       have HT2:=Lib.hid (HT.out.trans (tabK_in hs hin))
       have HA2:=Lib.hid (HA.out.trans (congrArg (N ++ ·) (atK_in hs hin)))
       obtain ⟨j,hj⟩:∃ j,idxB T s=j:=⟨_,rfl⟩
       rw [hj] at HJ HA2
       clear p0 hs hj
       go_wp2_with (first
         | (at_lookup;refine wpList_num_there rfl _ _ rfl w.heap.size k T rfl HM.out s rfl hsz j HJ.out ?_)
         | (at_builtin;refine wpList_append_int rfl _ _ rfl (w.heap.size + 1) _ N rfl (HQ.out.alloc _) ⟨wr.heap.size,0,none⟩ 1 rfl j ?c1 ?c2 ?c3 ?_))
       case c1=>simp [Addr.add]
       case c2=>have:=HNL.out;omega
       case c3=>have:=HZ.out;simp;omega
       intro g cap w1 ho1 hg1
       have hbel1:Below w.heap.size w w1:=(HB.out.alloc HB.out.size _).grown hg1 (by have:=HB.out.size;simp;omega) (fun g hg=>by have:=(HQ.out.lt g hg).1;omega)
       have hm1:ownsNum w1 w.heap.size (k + 1) T:=((HM.out.mono (Nat.le_succ k)).alloc _).kept hg1 (by intro e;exact HQ.out.off (Nat.lt_succ_self _) e.symm)
       have hs1:ownsS w1 (w.heap.size + 1) _ T:=World.ownsRow.kept (HO.out.alloc _) hg1 (rows_apart HO.out HQ.out (show 9≠3 by decide))
       have hz1:w.heap.size + 1≤w1.heap.size:=by have:=HZ.out;have:=hg1.size;simp at this;omega
       have ha1:atK [] l=(N ++ [j]) ++ atK T (l.drop (k + 1)):=by rw [HA2.out];simp
       have hn1:(N ++ [j]).length=k + 1:=by have:=HNL.out;simp;omega
       have HNL1:Hid (N.length + 1=(N ++ [j]).length):=Lib.hid (show N.length + 1=(N ++ [j]).length by simp)
       rw [HNL1.out] at ho1
       have HX:=Lib.hid (And.intro hbel1 (And.intro hm1 (And.intro hs1 (And.intro hz1 (And.intro ha1 (And.intro hn1 ho1))))))
       clear hbel1 hm1 hs1 hz1 ha1 hn1 ho1 hg1
       go_wp2
       go_roundw
       case rel=>exact ⟨k + 1,T,N ++ [j],by omega,by go_num,by have:=HTL.out;omega,HX.out.2.2.2.2.2.1,HT2.out,HX.out.2.2.2.2.1,HX.out.2.1,HX.out.2.2.1,by simpa using HX.out.2.2.2.2.2.2,HX.out.2.2.2.1,HX.out.1⟩
       case measure=>simp [intOf];omega
     · have HT2:=Lib.hid (HT.out.trans (tabK_new hs hin))
       have HA2:=Lib.hid (HA.out.trans (congrArg (N ++ ·) (atK_new hs hin)))
       have HTM:Hid (T.length≤maxLen):=Lib.hid (by show T.length≤maxLen;have:=HTL.out;unfold maxLen;omega)
       clear p0 hs
       go_wp2_with (first
         | (at_lookup;refine wpList_num_none rfl _ _ rfl w.heap.size k T rfl HM.out s rfl hsz hin ?_;intro c)
         | (at_mapUpdate;refine wpList_num_put rfl _ _ _ rfl w.heap.size k T rfl HM.out (by unfold maxLen;omega) s rfl rfl hsz hin HTM.out ?_;intro w1 hm1 hg1))
       have hbel1:Below w.heap.size w w1:=HB.out.grown hg1 HB.out.size (fun g hg=>by cases hg;exact Nat.le_refl _)
       have hs1:ownsS w1 (w.heap.size + 1) _ T:=World.ownsRow.kept HO.out hg1 (.inr (HO.out.off (Nat.lt_succ_self _)))
       have hn1:ownsN w1 (w.heap.size + 1) _ N:=World.ownsRow.kept HQ.out hg1 (.inr (HQ.out.off (Nat.lt_succ_self _)))
       have hz1:w.heap.size + 1≤w1.heap.size:=Nat.le_trans HZ.out hg1.size
       have HX:=Lib.hid (And.intro hbel1 (And.intro hm1 (And.intro hs1 (And.intro hn1 hz1))))
       clear hbel1 hm1 hs1 hn1 hz1 hg1
       refine (kclone_any s w1 (by have:=HSZ.out;omega)).mono ?_
       rintro r w2 ⟨rfl,hb2⟩
       have HB2:=Lib.hid (HX.out.1.trans (hb2.mono HX.out.1.size))
       have HM2:=Lib.hid (HX.out.2.1.below hb2)
       have HS2:=Lib.hid (HX.out.2.2.1.below hb2)
       have HN2:=Lib.hid (HX.out.2.2.2.1.below hb2)
       have HZ2:=Lib.hid (Nat.le_trans HX.out.2.2.2.2 hb2.size)
       clear hb2 HX HM HO HQ HB HZ
       go_wp2_with (at_builtin;refine wpList_append_str rfl _ _ rfl (w.heap.size + 1) _ T rfl (HS2.out.alloc _) ⟨w2.heap.size,0,none⟩ 1 rfl s ?c1 ?c2 ?c3 ?_)
       case c1=>simp [Addr.add]
       case c2=>have:=HTL.out;omega
       case c3=>have:=HZ2.out;simp;omega
       intro g cap w3 ho3 hg3
       have HB3:Hid (Below w.heap.size w w3):=(HB2.out.alloc HB2.out.size _).grown hg3 (by have:=HB2.out.size;simp;omega) (fun g hg=>by have:=(HS2.out.lt g hg).1;omega)
       have HM3:=Lib.hid ((HM2.out.alloc _).kept hg3 (by intro e;exact HS2.out.off (Nat.lt_succ_self _) e.symm))
       have HN3:=Lib.hid (show ownsN w3 (w.heap.size + 1) _ N from World.ownsRow.kept (HN2.out.alloc _) hg3 (rows_apart HN2.out HS2.out (show 3≠9 by decide)))
       have HZ3:Hid (w.heap.size + 1≤w3.heap.size):=Lib.hid (by show _≤_;have:=HZ2.out;have:=hg3.size;simp at this;omega)
       have HS3:=Lib.hid ho3
       clear ho3 hg3 HB2 HM2 HS2 HN2 HZ2
       go_wp2_with (at_builtin;refine wpList_append_int rfl _ _ rfl (w.heap.size + 1) _ N rfl (HN3.out.alloc _) ⟨w3.heap.size,0,none⟩ 1 rfl T.length ?d1 ?d2 ?d3 ?_)
       case d1=>simp [Addr.add]
       case d2=>have:=HNL.out;omega
       case d3=>have:=HZ3.out;simp;omega
       intro g' cap' w4 ho4 hg4
       have HB4:Hid (Below w.heap.size w w4):=(HB3.out.alloc HB3.out.size _).grown hg4 (by have:=HB3.out.size;simp;omega) (fun g hg=>by have:=(HN3.out.lt g hg).1;omega)
       have HM4:=Lib.hid ((HM3.out.alloc _).kept hg4 (by intro e;exact HN3.out.off (Nat.lt_succ_self _) e.symm))
       have HS4:=Lib.hid (show ownsS w4 (w.heap.size + 1) _ (T ++ [s]) from World.ownsRow.kept (HS3.out.alloc _) hg4 (rows_apart HS3.out HN3.out (show 9≠3 by decide)))
       have HZ4:Hid (w.heap.size + 1≤w4.heap.size):=Lib.hid (by show _≤_;have:=HZ3.out;have:=hg4.size;simp at this;omega)
       have HN4:=Lib.hid ho4
       have HA4:Hid (atK [] l=(N ++ [T.length]) ++ atK (T ++ [s]) (l.drop (k + 1))):=Lib.hid (show _=_ by rw [HA2.out];simp)
       have HL4:Hid ((N ++ [T.length]).length=k + 1∧(T ++ [s]).length≤k + 1):=Lib.hid (show _∧_ by have:=HNL.out;have:=HTL.out;simp;omega)
       clear ho4 hg4 HB3 HM3 HS3 HN3 HZ3 HA2
       go_wp2
       go_roundw
       case rel=>exact ⟨k + 1,T ++ [s],N ++ [T.length],by omega,by go_num,HL4.out.2,HL4.out.1,HT2.out,HA4.out,HM4.out,HS4.out,HN4.out,HZ4.out,HB4.out⟩
       case measure=>simp [intOf];omega
   · have HT2:Hid (tabK [] l=T):=Lib.hid (show _=_ by rw [HT.out,List.drop_eq_nil_of_le (by have:=HN.out;omega)];rfl)
     have HA2:Hid (atK [] l=N):=Lib.hid (show _=_ by rw [HA.out,List.drop_eq_nil_of_le (by have:=HN.out;omega)];simp [atK])
     go_wp2
     go_ret2
     refine ⟨_,_,rfl,?_,?_,HB.out⟩
     · rw [HT2.out];exact HO.out.mono (Nat.le_succ _)
     · rw [HA2.out];exact HQ.out.mono (Nat.le_succ _)
end Go.Proofs.YtgfinhehgfbdgaaGreatDoor
namespace Go.Proofs.YtgfinhehgfbdgaaGreatDoor
open Go.RowKit Go.Maps
theorem zeroT (w:World):(zeroValue 4).run Tryz.prog w=.ok (.bool false) w:=by kernel_rfl
def ownsSet (w:World) (b n:Nat) (t:List ByteArray):Prop:=∃ D,SetM D t∧w.ownsMap Tryz.prog 9 (plainElem Tryz.prog 4) b n D
theorem ownsSet_made (w:World):ownsSet (w.alloc (.map #[] 0)) w.heap.size 0 []:=⟨_,setM_nil,World.ownsMap_made _ _ _ _⟩
theorem ownsSet.below {w w':World} {b n:Nat} {t:List ByteArray} (h:ownsSet w b n t) (hb:Below w.heap.size w w'):ownsSet w' b n t:=by
 obtain ⟨D,h1,h2⟩:=h
 exact ⟨D,h1,h2.kept (row:=none) ⟨hb.os,hb.tape,hb.output,hb.size,fun k hk _=>hb.block k hk⟩ (by simp)⟩
theorem ownsSet.alloc {w:World} {b n:Nat} {t:List ByteArray} (h:ownsSet w b n t) (o:Obj):ownsSet (w.alloc o) b n t:=by
 obtain ⟨D,h1,h2⟩:=h;exact ⟨D,h1,h2.alloc o⟩
theorem ownsSet.drew {w:World} {b n:Nat} {t:List ByteArray} (h:ownsSet w b n t):ownsSet w.drew b n t:=by
 obtain ⟨D,h1,h2⟩:=h;exact ⟨D,h1,h2.drew⟩
section
variable {w:World} {ops:Array Oper} {rest:List Oper} {o:Oper} {a:Act} {Q:Exit→Act→World→Prop}
theorem wpList_set_look (hg:o.guard=none) (m x:Operand) (hop:o.op=Op.lookup 257 m x false) (b n:Nat) (t:List ByteArray)
   (hm:a.eval m=.map (some b)) (hown:ownsSet w b n t) (s:ByteArray) (hx:a.eval x=.string s) (hs:s.size≤maxLen) (v:Bool) (hv:if v then s∈t else s ∉ t)
   (hK:wpList Tryz.prog ops Q rest (a.put o.dst (.bool v)) w):wpList Tryz.prog ops Q (o :: rest) a w:=by
 obtain ⟨D,h1,h2⟩:=hown
 refine wpList_lookup_own_is w hg m x _ hop 9 4 keyedS Tryz.underlying257 _ (zeroT w) (.lit (.bool false)) [] (plainElem_bool Tryz.underlying4 false) b n D hm h2 _ _ hx (keyS hs) (.bool v) ?_ hK
 intro v' ps hv'
 obtain ⟨y,rfl,hy⟩:=plainElem_bool_inv Tryz.underlying4 hv'
 cases v with
 | true=>rw [h1.there s (by simpa using hv)] at hy;simp at hy;rw [hy.1]
 | false=>rw [h1.none s (by simpa using hv)] at hy;simp at hy;rw [hy.1]
theorem wpList_set_put (hg:o.guard=none) (m x v:Operand) (hop:o.op=Op.mapUpdate 257 m x v) (b n:Nat) (t:List ByteArray)
   (hm:a.eval m=.map (some b)) (hown:ownsSet w b n t) (hn:n < maxLen) (s:ByteArray) (hx:a.eval x=.string s) (hv:a.eval v=.bool true) (hs:s.size≤maxLen)
   (hK:∀ w',ownsSet w' b (n + 1) (t ++ [s])→w.grownBy w' (some b)→wpList Tryz.prog ops Q rest (a.put o.dst undef) w'):wpList Tryz.prog ops Q (o :: rest) a w:=by
 obtain ⟨D,h1,h2⟩:=hown
 refine wpList_mapUpdate_own w hg m x v _ hop 9 4 keyedS Tryz.underlying257 _ b n D hm h2 hn _ _ _ hx hv (keyS hs) (.lit (.bool true)) [] (plainElem_bool Tryz.underlying4 true) ?_
 intro w' h3 h4
 exact hK w' ⟨_,h1.put s,h3⟩ h4
end
def ownsTold (w:World) (b n m:Nat):Prop:=∃ D,ToldM D m∧w.ownsMap Tryz.prog 3 (plainElem Tryz.prog 4) b n D
theorem ownsTold.kept {w w':World} {b n m:Nat} {row:Option Nat} (h:ownsTold w b n m) (hg:w.grownBy w' row) (hne:some b≠row):ownsTold w' b n m:=by
 obtain ⟨D,h1,h2⟩:=h;exact ⟨D,h1,h2.kept hg hne⟩
theorem ownsTold.below {w w':World} {b n m:Nat} (h:ownsTold w b n m) (hb:Below w.heap.size w w'):ownsTold w' b n m :=
 h.kept (row:=none) ⟨hb.os,hb.tape,hb.output,hb.size,fun k hk _=>hb.block k hk⟩ (by simp)
theorem ownsTold.alloc {w:World} {b n m:Nat} (h:ownsTold w b n m) (o:Obj):ownsTold (w.alloc o) b n m:=by
 obtain ⟨D,h1,h2⟩:=h;exact ⟨D,h1,h2.alloc o⟩
theorem ownsTold.lt {w:World} {b n m:Nat} (h:ownsTold w b n m):b < w.heap.size:=by
 obtain ⟨D,h1,h2⟩:=h;exact h2.lt
section
variable {w:World} {ops:Array Oper} {rest:List Oper} {o:Oper} {a:Act} {Q:Exit→Act→World→Prop}
end
end Go.Proofs.YtgfinhehgfbdgaaGreatDoor
namespace Go.Proofs.YtgfinhehgfbdgaaGreatDoor
open Go.RowKit
theorem eq_step {l m:List Ent} {k:Nat} (h:l.take k=m.take k) {t u:Ent} (hl:l[k]? = some t) (hm:m[k]? = some u) (e:t=u):l.take (k + 1)=m.take (k + 1):=by
 obtain ⟨h1,h2⟩:=List.getElem?_eq_some_iff.1 hl
 obtain ⟨h3,h4⟩:=List.getElem?_eq_some_iff.1 hm
 rw [List.take_succ_eq_append_getElem h1,List.take_succ_eq_append_getElem h3,h,h2,h4,e]
set_option maxRecDepth 100000 in
set_option maxHeartbeats 1000000 in
theorem equal_entsL (v1 v2:Value) (l m:List Ent) (w:World) (h1:IsEnts w v1 l) (h2:IsEnts w v2 m) (hl:l.length≤9223372036854775807) (hm:m.length≤9223372036854775807) :
   Calls Tryz.prog 56 #[v1,v2] w fun e w'=>e=.returned (.bool (decide (l=m)))∧∃ q,w'=w.drewN q:=by
 obtain ⟨a1,c1,rfl,f1⟩:=h1.form
 obtain ⟨a2,c2,rfl,f2⟩:=h2.form
 have F1:=Lib.hid f1
 have F2:=Lib.hid f2
 obtain ⟨n,hn⟩:∃ n,n=l.length:=⟨_,rfl⟩
 obtain ⟨n2,hn2⟩:∃ n,n=m.length:=⟨_,rfl⟩
 rw [←hn] at hl ⊢
 rw [←hn2] at hm ⊢
 have HN:=Lib.hid hn
 have HN2:=Lib.hid hn2
 clear h1 h2 f1 f2 hn hn2
 by_cases hne:n=n2
 · subst hne
   go_enter Tryz.func56,Tryz.ntmps56
   go_wp2
   go_loopw [13] (fun i wr=>∃ k q:Nat,k≤n∧i=.int .i64 k∧l.take k=m.take k∧wr=w.drewN q) (fun i _=>n - (intOf i).toNat)
   case atStart=>exact ⟨0,0,by omega,rfl,rfl,rfl⟩
   case round =>
     obtain ⟨k,q,hk,rfl,htk,rfl⟩:=hrel
     have HTK:=Lib.hid htk
     clear htk
     by_cases hlt:k < n
     · obtain ⟨t, ht⟩ : ∃ t, l[k]? = some t := ⟨l[k]'(by have := HN.out; omega), List.getElem?_eq_getElem _⟩
       obtain ⟨u, hu⟩ : ∃ u, m[k]? = some u := ⟨m[k]'(by have := HN2.out; omega), List.getElem?_eq_getElem _⟩
       obtain ⟨b1,o1,rfl,_,p0,p1⟩:=F1.out k t ht
       obtain ⟨b2,o2,rfl,_,q0,q1⟩:=F2.out k u hu
       have HTT:=Lib.hid ht
       have HUU:=Lib.hid hu
       clear ht hu
       obtain ⟨r1,t1⟩:=t
       obtain ⟨r2,t2⟩:=u
       simp only at p0 p1 q0 q1
       by_cases hr:r1=r2
       · by_cases ht:t1=t2
         · subst hr ht
           have HST:=Lib.hid (eq_step HTK.out HTT.out HUU.out rfl)
           go_wp2
           go_quiet (fail)
           go_wp2
           go_roundw
           case rel=>exact ⟨k + 1,_,by omega,by go_num,HST.out,rfl⟩
           case measure=>simp [intOf];omega
         · subst hr
           have HE:Hid (decide (l=m)=false):=Lib.hid (show decide (l=m)=false by
             rw [decide_eq_false_iff_not];rintro rfl
             have:=HTT.out.symm.trans HUU.out
             simp at this;exact ht this)
           have x1:(t1 == t2)=false:=by simpa using ht
           have x2:(t1 != t2)=true:=by simpa using ht
           go_wp2
           go_quiet (fail)
           go_wp2
           go_ret
           exact ⟨by rw [HE.out];rfl,by first | exact ⟨_,rfl⟩ | exact ⟨_,by rw [World.drewN_drewN]⟩⟩
       · have HE : Hid (decide (l = m) = false) := Lib.hid (show decide (l = m) = false by
           rw [decide_eq_false_iff_not];rintro rfl
           have:=HTT.out.symm.trans HUU.out
           simp at this;exact hr this.1)
         have x1:(r1 == r2)=false:=by simpa using hr
         have x2:(r1 != r2)=true:=by simpa using hr
         go_wp2
         go_quiet (fail)
         go_wp2
         go_ret
         exact ⟨by rw [HE.out];rfl,by first | exact ⟨_,rfl⟩ | exact ⟨_,by rw [World.drewN_drewN]⟩⟩
     · have HE : Hid (decide (l = m) = true) := Lib.hid (show decide (l = m) = true by
         rw [decide_eq_true_eq]
         have h:=HTK.out
         rw [List.take_of_length_le (by have:=HN.out;omega),List.take_of_length_le (by have:=HN2.out;omega)] at h
         exact h)
       go_wp2
       go_ret
       exact ⟨by rw [HE.out];rfl,by first | exact ⟨_,rfl⟩ | exact ⟨_,by rw [World.drewN_drewN]⟩⟩
 · have HE : Hid (decide (l = m) = false) := Lib.hid (show decide (l = m) = false by
     rw [decide_eq_false_iff_not];rintro rfl;exact hne (HN.out.trans HN2.out.symm))
   have x1:((n:Int) == (n2:Int))=false:=by simp;omega
   have x2:((n:Int) != (n2:Int))=true:=by simp;omega
   rw [HE.out]
   go_enter Tryz.func56,Tryz.ntmps56
   go_wp2
   go_ret
   exact ⟨rfl,0,rfl⟩
theorem equal_asL (v1 v2:Value) (l m:List Ent) (c:Bool) (w:World) (h1:IsEnts w v1 l) (h2:IsEnts w v2 m) (hl:l.length≤9223372036854775807) (hm:m.length≤9223372036854775807) (hc:decide (l=m)=c) :
   Calls Tryz.prog 56 #[v1,v2] w fun e w'=>e=.returned (.bool c)∧∃ q,w'=w.drewN q :=
 (equal_entsL v1 v2 l m w h1 h2 hl hm).mono fun _ _ ⟨h1,h2⟩=>⟨by rw [h1,hc],h2⟩
end Go.Proofs.YtgfinhehgfbdgaaGreatDoor
namespace Go.Proofs.YtgfinhehgfbdgaaGreatDoor
open Go.RowKit
set_option maxRecDepth 100000 in
set_option maxHeartbeats 400000 in
theorem pass_any (x:Int) (w:World) (h0:0≤x) (h1:x < 4294967296) :
   Calls Tryz.prog 126 #[.int .u32 x] w fun e w'=>e=.returned (.int .u32 (pass x.toNat:Nat))∧w=w':=by
 obtain ⟨n,rfl⟩:=Int.eq_ofNat_of_zero_le h0
 have hn:n < 4294967296:=by omega
 clear h0 h1
 go_enter Tryz.func126,Tryz.ntmps126
 go_wp2
 go_loop [0,4] (fun s i=>∃ k:Nat,k≤8∧i=.int .i64 k∧s=.int .u32 (stn k n:Nat)) (fun _ i=>8 - (intOf i).toNat)
 case atStart=>exact ⟨0,by omega,rfl,rfl⟩
 case round =>
   obtain ⟨k,hk,rfl,rfl⟩:=hrel
   have hs:=stn_lt k hn
   by_cases hlt:k < 8
   · go_wp2
     · have ht:=and_one_yes hs (by assumption)
       go_round
       case rel=>exact ⟨k + 1,by omega,by go_num,by rw [st_yes hs ht];rfl⟩
       case measure=>simp [intOf];omega
     · have ht:=and_one_no hs (by assumption)
       go_round
       case rel=>exact ⟨k + 1,by omega,by go_num,by rw [st_no ht];rfl⟩
       case measure=>simp [intOf];omega
   · obtain rfl:k=8:=by omega
     go_wp2
     go_ret
     exact ⟨rfl,rfl⟩
end Go.Proofs.YtgfinhehgfbdgaaGreatDoor
