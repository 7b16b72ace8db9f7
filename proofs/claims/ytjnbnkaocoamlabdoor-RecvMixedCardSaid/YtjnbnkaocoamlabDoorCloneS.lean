/-
  The contract of strings.Clone.
-/
import Derived.Test.YtjnbnkaocoamlabDoorProg
import Derived.Test.YtjnbnkaocoamlabDoorShelf
import Derived.WalkKit
import Derived.Handy
import Derived.KernelRfl
import Derived.Below
import Derived.Lib.Hide
import Derived.Outline
namespace Go.Proofs.YtjnbnkaocoamlabDoor
open Go.RowKit

set_option maxRecDepth 100000 in
theorem clone_s (s : ByteArray) (w : World) (hs : s.size ≤ 140737488351232) :
    Calls Tryd.prog 18 #[.string s] w fun e w' => e = .returned (.string s) ∧ Below w.heap.size w w' := by
  go_enter Tryd.func18, Tryd.ntmps18
  go_wp2_with fail
  refine (Tryd.stringslite_Clone s _ (by omega)).mono ?_
  rintro r w1 ⟨rfl, hb1⟩
  have HB := Lib.hid hb1
  clear hb1
  go_wp2
  go_ret
  exact ⟨rfl, HB.out⟩

end Go.Proofs.YtjnbnkaocoamlabDoor
