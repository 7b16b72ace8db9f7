/-
  The contract of keys.Table.
-/
import Derived.Test.YtpmnflnaeknakaaGreatDoorKeyM
import Derived.Test.YtpmnflnaeknakaaGreatDoorTexts
import Derived.Test.YtpmnflnaeknakaaGreatDoorShelf
import Derived.Lib.Hide
import Derived.WalkSmall
import Derived.Outline
namespace Go.Proofs.YtpmnflnaeknakaaGreatDoor
open Go.RowKit

theorem kclone_any (s : ByteArray) (w : World) (hs : s.size ≤ 281474976710656) :
    Calls Tryz.prog 22 #[.string s] w fun e w' => e = .returned (.string s) ∧ Below w.heap.size w w' := by
  go_enter Tryz.func22, Tryz.ntmps22
  go_wp2_with fail
  refine (Tryz.stringslite_Clone s _ hs).mono ?_
  rintro r w1 ⟨rfl, hb1⟩
  go_wp2
  go_ret
  exact ⟨rfl, hb1⟩

/-- What Table answers. -/
def TabIs (w : World) (l : List ByteArray) (e : Ending) (w' : World) : Prop :=
  ∃ v1 v2, e = .returned (.tuple #[v1, v2]) ∧ ownsS w' w.heap.size v1 (tabK [] l) ∧ ownsN w' w.heap.size v2 (atK [] l) ∧ Below w.heap.size w w'

end Go.Proofs.YtpmnflnaeknakaaGreatDoor
