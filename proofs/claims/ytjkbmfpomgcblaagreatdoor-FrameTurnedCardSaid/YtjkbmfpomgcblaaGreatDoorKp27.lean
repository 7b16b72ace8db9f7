import Derived.Test.YtjkbmfpomgcblaaGreatDoorKp25
namespace Go.Proofs.YtjkbmfpomgcblaaGreatDoor
open Go.RowKit
def twoAt (w:World) (B:Nat) (a b:Int):Prop :=
 w.cell? ⟨B,0,none⟩=some (.int .i64 a)∧w.cell? ⟨B,1,none⟩=some (.int .i64 b)∧w.frozen? ⟨B,0,none⟩=false∧w.frozen? ⟨B,1,none⟩=false
theorem twoAt.below {w w':World} {B:Nat} {a b:Int} {m:Nat} (h:twoAt w B a b) (hb:Below m w w') (hm:B < m):twoAt w' B a b :=
 ⟨(hb.cell hm).trans h.1,(hb.cell hm).trans h.2.1,(hb.frozen hm).trans h.2.2.1,(hb.frozen hm).trans h.2.2.2⟩
theorem twoAt.set {w:World} {B:Nat} {a b:Int} (h:twoAt w B a b) (c d:Int):twoAt ((w.setCell ⟨B,0,none⟩ (.int .i64 c)).setCell ⟨B,1,none⟩ (.int .i64 d)) B c d:=by
 obtain ⟨h0,h1,h2,h3⟩:=h
 refine ⟨?_,?_,?_,?_⟩
 · rw [World.cell?_setCell_other _ _ _ _ (by simp)];exact World.cell?_setCell_same _ _ _ h0
 · exact World.cell?_setCell_same _ _ _ ((World.cell?_setCell_other _ _ _ _ (by simp)).trans h1)
 · rw [World.frozen?_setCell,World.frozen?_setCell];exact h2
 · rw [World.frozen?_setCell,World.frozen?_setCell];exact h3
end Go.Proofs.YtjkbmfpomgcblaaGreatDoor
