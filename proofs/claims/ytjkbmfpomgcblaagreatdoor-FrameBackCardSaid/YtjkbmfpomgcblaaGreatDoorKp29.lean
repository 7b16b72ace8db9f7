import Derived.Test.YtjkbmfpomgcblaaGreatDoorKp26
namespace Go.Proofs.YtjkbmfpomgcblaaGreatDoor
open Go.RowKit
theorem RW.mid {w2 w3:World} {base g cap B:Nat} {vs:List Value} {v:Value} {cur:List Ent}
   (ho:ownsR w2 base (.slice (some ⟨g,0,none⟩) (vs.length + 1) cap) (vs ++ [v])) (he:ownsE w2 B v cur) (hg:w2.grownBy w3 v.ownBlock) :
   w3.cell? ⟨g,vs.length,none⟩=some v∧w3.frozen? ⟨g,vs.length,none⟩=false:=by
 have ho4:ownsR w3 base (.slice (some ⟨g,0,none⟩) (vs.length + 1) cap) (vs ++ [v]):=World.ownsRow.kept ho hg (by
   rcases own_apartV he ho (show 74≠22 by decide) with h | h
   · exact .inr (by rw [h];simp [Value.ownBlock])
   · exact .inr (fun e=>h e.symm))
 have:=ho4.last rfl
 exact ⟨this.1,this.2.1⟩
theorem RW.step {w w0 w3 w4:World} {g q cap B m g2 cap2 c2:Nat} {vs:List Value} {v:Value} {R:List (List Ent)} {cur cur2:List Ent} {o:Obj}
   (hq:q=vs.length + 1) (hm:m=vs.length) (ho:ownsR w3 (w.heap.size + 1) (.slice (some ⟨g,0,none⟩) q cap) (vs ++ [v])) (ha:areD w3 B vs R) (he:ownsE w3 B v cur) (hB1:w.heap.size + 1≤B) (hB2:B≤w3.heap.size)
   (hbel:Below (w.heap.size + 1) w0 w3) (ho4:ownsE w4 B (.slice (some ⟨g2,0,none⟩) c2 cap2) cur2) (hg:(w3.alloc o).grownBy w4 v.ownBlock) (hr:v.ownBlock=some g2∨g2=(w3.alloc o).heap.size) :
   w4.cell? ⟨g,m,none⟩=some v∧w4.frozen? ⟨g,m,none⟩=false∧RW w (.slice (some ⟨g,0,none⟩) q cap) R cur2 (w4.setCell ⟨g,m,none⟩ (.slice (some ⟨g2,0,none⟩) c2 cap2))∧Below (w.heap.size + 1) w0 (w4.setCell ⟨g,m,none⟩ (.slice (some ⟨g2,0,none⟩) c2 cap2)):=by
 subst hq hm
 have hbo:Below w3.heap.size w3 (w3.alloc o):=(Below.refl _ _).alloc (Nat.le_refl _) o
 have ho1:=ho.below hbo
 have he1:=he.below hbo
 have ha1:areD (w3.alloc o) B vs R:=areD_kept (grown_below hbo) (Nat.le_refl _) (fun u r _ _=>by cases hu:u.ownBlock with
   | none=>exact .inl rfl
   | some k=>exact .inr (by simp)) ha
 have hm:=RW.mid ho1 he1 hg
 obtain ⟨h1,_,_⟩:=RW.grow ho1 ha1 he1 hB1 (Nat.le_trans hB2 hbo.size) ho4 hg hr
 have hgl:=ho.lt g rfl
 refine ⟨hm.1,hm.2,h1,?_⟩
 refine Below.setCell ((hbel.alloc (by omega) o).grown hg (by have:=hbo.size;omega) (fun k hk=>?_)) hgl.1 _
 have:=(he.lt k hk).1
 omega
end Go.Proofs.YtjkbmfpomgcblaaGreatDoor
