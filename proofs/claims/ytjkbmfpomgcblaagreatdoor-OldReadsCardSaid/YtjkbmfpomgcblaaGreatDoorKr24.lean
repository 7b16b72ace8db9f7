import Derived.Test.YtjkbmfpomgcblaaGreatDoorKr23
namespace Go.Proofs.YtjkbmfpomgcblaaGreatDoor
open Go.RowKit
def Rd (w:World) (R:Nat) (s:ByteArray) (a:Nat):Prop:=w.heap[R]? = some (.cells #[.string s,.int .i64 (a:Int)] 194 (0,0))
theorem Rd.cells {w:World} {R:Nat} {s:ByteArray} {a:Nat} (h:Rd w R s a):w.cell? ⟨R,0,none⟩=some (.string s)∧w.cell? ⟨R,1,none⟩=some (.int .i64 (a:Int))∧w.frozen? ⟨R,1,none⟩=false∧R < w.heap.size:=by
 refine ⟨cell_of_row _ _ 0 _ _ (0,0) h,cell_of_row _ _ 1 _ _ (0,0) h,Lib.frozen_of_heap h 1,?_⟩
 exact (Array.getElem?_eq_some_iff.1 h).1
theorem Rd.below {w w':World} {R:Nat} {s:ByteArray} {a:Nat} (h:Rd w R s a) (hb:Below w.heap.size w w'):Rd w' R s a:=(hb.block R h.cells.2.2.2).trans h
theorem Rd.moved {w:World} {R:Nat} {s:ByteArray} {a b:Nat} (h:Rd w R s a):Rd (w.setCell ⟨R,1,none⟩ (.int .i64 (b:Int))) R s b:=by
 unfold Rd at h ⊢
 simp [World.setCell,Array.getElem?_modify,h]
theorem grownR {w w1:World} {R:Nat} (h:Below w.heap.size w w1) (v:Value):w.grownBy (w1.setCell ⟨R,1,none⟩ v) (some R) :=
 ⟨h.os,h.tape,h.output,by simpa using h.size,fun k hk hne=>by
   have hk2:R≠k:=fun e=>hne (by rw [e])
   simp only [World.setCell,Array.getElem?_modify,if_neg hk2]
   exact h.block k hk⟩
theorem grownB {w w1:World} {R:Nat} (h:Below w.heap.size w w1):w.grownBy w1 (some R):=⟨h.os,h.tape,h.output,h.size,fun k hk _=>h.block k hk⟩
def Thrown (r:Nat×Int) (e:Ending) (w':World):Prop:=∃ t v,e=.panicked [{ v:=.iface t v,recovered:=false }]∧r.1≠0∧anyErr w' (.iface t v) r
set_option maxRecDepth 100000 in
theorem check_nil (R:Nat) (w:World):Calls Tryz.prog 161 #[.pointer (some ⟨R,0,none⟩),.nilIface] w fun e w'=>e=.returned (.tuple #[])∧w=w':=by
 go_enter Tryz.func161,Tryz.ntmps161
 go_wp2
 go_end0
 exact ⟨rfl,rfl⟩
set_option maxRecDepth 100000 in
set_option maxHeartbeats 2000000 in
theorem check_err (R:Nat) (s:ByteArray) (a:Nat) (v:Value) (x:Nat) (w:World) (h:Rd w R s a) (hg:errT w) (hv:isErr w v (x:Int)) (hx:x≠0) :
   Calls Tryz.prog 161 #[.pointer (some ⟨R,0,none⟩),v] w fun e w'=>Thrown (x,(a:Int)) e w'∧Below w.heap.size w w':=by
 have H:=Lib.hid h
 have HG:=Lib.hid hg
 have HV:=Lib.hid hv
 obtain ⟨t,u,rfl⟩:=hv.iface
 obtain ⟨_,c1,_,_⟩:=h.cells
 have HB0:Hid (Below w.heap.size w w.drew):=Lib.hid (Below.refl _ _).drew
 clear h hg hv
 go_enter Tryz.func161,Tryz.ntmps161
 go_wp2
 refine wp_region_held_drew (S:=fun w'=>w'.cell? ⟨R,1,none⟩=some (.int .i64 (a:Int))) (by kernel_rfl) c1 (fun hHeld=>?_)
 refine wpAnyH_take (i:=0) (v:=?v0) rfl (by kernel_rfl) (by kernel_rfl) (by kernel_rfl) (fun _ _ _ h=>h) (Or.inl ⟨by rfl,?h0⟩) (by assumption) ?r0
 case h0=>(intro W hSw;(try dsimp only at hSw);go_simp;all_goals (with_reducible rfl))
 try simp only [Act.put,List.getElem_toArray,List.getElem_cons_zero,List.setIfInBounds_toArray,List.set_cons_zero,List.set_cons_succ]
 refine wpAnyH_take (i:=2) (v:=?v2) rfl (by kernel_rfl) (by kernel_rfl) (by kernel_rfl) (fun _ _ _ h=>h) (Or.inl ⟨by rfl,?h2⟩) (by assumption) ?r2
 case h2=>(intro W hSw;(try dsimp only at hSw);go_simp;all_goals (with_reducible rfl))
 try simp only [Act.put,List.getElem_toArray,List.getElem_cons_zero,List.getElem_cons_succ,List.setIfInBounds_toArray,List.set_cons_zero,List.set_cons_succ]
 refine wpAnyH_take (i:=3) (v:=?v3) rfl (by kernel_rfl) (by kernel_rfl) (by kernel_rfl) (fun _ _ _ h=>h) (Or.inl ⟨by rfl,?h3⟩) (by assumption) ?r3
 case h3=>(intro W hSw;(try dsimp only at hSw);go_simp;all_goals (with_reducible rfl))
 try simp only [Act.put,List.getElem_toArray,List.getElem_cons_zero,List.getElem_cons_succ,List.setIfInBounds_toArray,List.set_cons_zero,List.set_cons_succ]
 refine wpAnyH_take (i:=4) (v:=?v4) rfl (by kernel_rfl) (by kernel_rfl) (by kernel_rfl) (fun _ _ _ h=>h) (Or.inl ⟨by rfl,?h4⟩) (by assumption) ?r4
 case h4=>(intro W hSw;(try dsimp only at hSw);go_simp;all_goals (with_reducible rfl))
 try simp only [Act.put,List.getElem_toArray,List.getElem_cons_zero,List.getElem_cons_succ,List.setIfInBounds_toArray,List.set_cons_zero,List.set_cons_succ]
 refine wpAnyH_take (i:=5) (v:=?v5) rfl (by kernel_rfl) (by kernel_rfl) (by kernel_rfl) (fun _ _ _ h=>h) (Or.inl ⟨by rfl,?h5⟩) (by assumption) ?r5
 case h5=>(intro W hSw;(try dsimp only at hSw);go_simp;all_goals (with_reducible rfl))
 try simp only [Act.put,List.getElem_toArray,List.getElem_cons_zero,List.getElem_cons_succ,List.setIfInBounds_toArray,List.set_cons_zero,List.set_cons_succ]
 refine wpAnyH_ready (rs:=[1]) (by kernel_rfl) (by simp) ?_
 refine AllReadyH.cons rfl (fun K hK=>?_) AllReadyH.nil
 go_simp
 refine (tell_err _ (x:Int) _ (HG.out.below HB0.out) (HV.out.below HB0.out)).mono ?_
 rintro r w1 ⟨rfl,hb1⟩
 have HB1:Hid (Below w.heap.size w w1):=Lib.hid (undrew3 hb1)
 have k1:=(H.out.below HB1.out).cells.2.1
 have k2:=((H.out.below HB1.out).below ((Below.refl _ _).alloc (Nat.le_refl _) (.cells #[.int .i64 (x:Int),.int .i64 (a:Int)] 113))).cells.2.1
 clear hb1
 refine hK.out _ _ k1 (fun hHeld1=>?_)
 clear hK hHeld
 try simp only [Act.put,List.getElem_toArray,List.getElem_cons_zero,List.getElem_cons_succ,List.setIfInBounds_toArray,List.set_cons_zero,List.set_cons_succ]
 refine wpAnyH_take (i:=6) (v:=?v6) rfl (by kernel_rfl) (by kernel_rfl) (by kernel_rfl) (fun _ _ _ h=>h) (Or.inl ⟨by rfl,?h6⟩) (by assumption) ?r6
 case h6=>(intro W hSw;(try dsimp only at hSw);go_simp;all_goals (with_reducible rfl))
 try simp only [Act.put,List.getElem_toArray,List.getElem_cons_zero,List.getElem_cons_succ,List.setIfInBounds_toArray,List.set_cons_zero,List.set_cons_succ]
 refine wpAnyH_ready (rs:=[7]) (by kernel_rfl) (by simp) ?_
 refine AllReadyH.cons rfl (fun K hK=>?_) AllReadyH.nil
 go_simp
 refine hK.out _ _ k2 (fun hHeld7=>?_)
 clear hK hHeld1
 try simp only [Act.put,List.getElem_toArray,List.getElem_cons_zero,List.getElem_cons_succ,List.setIfInBounds_toArray,List.set_cons_zero,List.set_cons_succ]
 refine wpAnyH_take (i:=8) (v:=?v8) rfl (by kernel_rfl) (by kernel_rfl) (by kernel_rfl) (fun _ _ _ h=>h) (Or.inl ⟨by rfl,?h8⟩) (by assumption) ?r8
 case h8=>(intro W hSw;(try dsimp only at hSw);go_simp;all_goals (with_reducible rfl))
 try simp only [Act.put,List.getElem_toArray,List.getElem_cons_zero,List.getElem_cons_succ,List.setIfInBounds_toArray,List.set_cons_zero,List.set_cons_succ]
 refine wpAnyH_ready (rs:=[9]) (by kernel_rfl) (by simp) ?_
 refine AllReadyH.cons rfl (fun K hK=>?_) AllReadyH.nil
 go_simp
 refine (bthrow_err _ _ _).mono ?_
 rintro r w2 ⟨rfl,rfl⟩
 refine And.intro rfl ⟨⟨_,_,rfl,hx,.inl (atIs.new w1 x a hx)⟩,HB1.out.alloc HB1.out.size _⟩
end Go.Proofs.YtjkbmfpomgcblaaGreatDoor
