/-
  Texts are one if their bytes are.
-/
import Derived.Test.YtjnbnkaocoamlabDoorProg
import Derived.WalkKit
namespace Go.Proofs.YtjnbnkaocoamlabDoor

theorem toL (s : ByteArray) : s.toList = s.data.toList := ByteArray.toList_eq s
theorem bytes_ext {a b : ByteArray} (h : a.data.toList = b.data.toList) : a = b := by
  cases a; cases b; simp_all
end Go.Proofs.YtjnbnkaocoamlabDoor
