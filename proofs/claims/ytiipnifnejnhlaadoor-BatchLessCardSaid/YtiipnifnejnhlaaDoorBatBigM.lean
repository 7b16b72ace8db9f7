/-
  Plain: how big a batch is, as the laws reckon.
-/
import Derived.Test.YtiipnifnejnhlaaDoorBatArg
namespace Go.Proofs.YtiipnifnejnhlaaDoor
open Go.RowKit

def bigS : Int → List Wr → Int
  | x, [] => x
  | x, t :: r => bigS (IntKind.i64.wrap (x + IntKind.i64.wrap ((IntKind.i64.wrap ((t.key.size : Int) + (t.value.size : Int))).tdiv 8))) r
def bigV (lim : Int) (f h : List Ent) (l : List Wr) : Bool := decide (lim < bigS (IntKind.i64.wrap (IntKind.i64.wrap ((f.length : Int) + (h.length : Int)) + (l.length : Int))) l)
theorem bigS_drop {l : List Wr} {k : Nat} {t : Wr} (x : Int) (ht : l[k]? = some t) : bigS x (l.drop k) = bigS (IntKind.i64.wrap (x + IntKind.i64.wrap ((IntKind.i64.wrap ((t.key.size : Int) + (t.value.size : Int))).tdiv 8))) (l.drop (k + 1)) := by
  obtain ⟨hk, h⟩ := List.getElem?_eq_some_iff.1 ht
  rw [List.drop_eq_getElem_cons hk, h]; rfl
end Go.Proofs.YtiipnifnejnhlaaDoor
