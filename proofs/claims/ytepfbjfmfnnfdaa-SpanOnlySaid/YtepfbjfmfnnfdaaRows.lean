/-
  No cell of these rows narrows 'for every input' (looked for: loops, veiled, ifaces, maps, wideKeys, modest, calm, conditions, laid).
  DERIVED. THE GIVEN ROWS OF THIS SEAT. 2 by the template 'for every input the law returns true; each argument reads behind the call as it read before'; 0 by the template 'total and deterministic' (their statements: YtepfbjfmfnnfdaaTotals.lean).
  GIVEN WITH THE SEED: the statements are not yours to turn. If you find one false, say at which input.
  Laid BY PROGRAM, IN A SANDBOX (cutbox-rows.mjs): the forced cells as the released guide's own fill.sh prints them over the translation 4f5477d7d3a97fe0… (all of the seat's roots in one cut). By AI agents, Wed Nov 11 2026. No macro, syntax, notation, axiom, sorry.
-/
import Derived.Test.YtepfbjfmfnnfdaaChecked
import GoSem.Claim
import GoSem.ClaimJoined
import GoSem.ClaimMapViews
import Derived.JoinedTies
import Derived.KernelRfl
namespace Go.Proofs.Ytepfbjfmfnnfdaa
/- THE CELL 'sum', in the pinned program and in every row, IS THE sha256 OF THE DUMP (.gsa) THAT YtepfbjfmfnnfdaaProg.lean LOADS. Nothing in Lean hashes anything: it is a label: what it is worth is what the hold of that sum in a sandbox is worth. -/
noncomputable def Try.pinned : Pinned := { name := "ytepfbjfmfnnfdaa", sum := "4f5477d7d3a97fe02900217bc61e1815cc2450cc7940a4847f45d08ff335d68f", checked := Try.checked }
namespace Rows
def none {H : Type} : Left H := { results := [], args := [] }

/-- 'packtrainlaw.VaryZigs': WHATEVER THE INPUT: true; the input reads as it did. -/
def varyZigsSpec : ChangeSpec := { name := "varyZigs", fn := fun _ => fun
  | [d1, d2] => { results := [.lit (.bool true)], args := [d1, d2] }
  | _ => none }
def varyZigsRow : OpenClaim := { program := "ytepfbjfmfnnfdaa", sum := "4f5477d7d3a97fe02900217bc61e1815cc2450cc7940a4847f45d08ff335d68f", func := "packtrain/packtrainlaw.VaryZigs", spec := "varyZigs", apart := false }
def VaryZigsSaid : Prop := varyZigsRow.holds Try.pinned (OpenSpec.ofChange varyZigsSpec)

/-- ITS FALSE NEIGHBOUR: 'it returns false'. Refute it at one input. -/
def varyZigsWrong : ChangeSpec := { name := "varyZigs", fn := fun _ => fun
  | [d1, d2] => { results := [.lit (.bool false)], args := [d1, d2] }
  | _ => none }
def VaryZigsWrongFalsely : Prop := varyZigsRow.holds Try.pinned (OpenSpec.ofChange varyZigsWrong)

/-- 'packtrainkeep.SpanOnly': WHATEVER THE INPUT: true; the input reads as it did. -/
def spanOnlySpec : ChangeSpec := { name := "spanOnly", fn := fun _ => fun
  | [d] => { results := [.lit (.bool true)], args := [d] }
  | _ => none }
def spanOnlyRow : OpenClaim := { program := "ytepfbjfmfnnfdaa", sum := "4f5477d7d3a97fe02900217bc61e1815cc2450cc7940a4847f45d08ff335d68f", func := "packtrain/packtrainkeep.SpanOnly", spec := "spanOnly", apart := false }
def SpanOnlySaid : Prop := spanOnlyRow.holds Try.pinned (OpenSpec.ofChange spanOnlySpec)

/-- ITS FALSE NEIGHBOUR: 'it returns false'. Refute it at one input. -/
def spanOnlyWrong : ChangeSpec := { name := "spanOnly", fn := fun _ => fun
  | [d] => { results := [.lit (.bool false)], args := [d] }
  | _ => none }
def SpanOnlyWrongFalsely : Prop := spanOnlyRow.holds Try.pinned (OpenSpec.ofChange spanOnlyWrong)

/- THE SECOND FORM. 'bulk': how many values and letters a reading holds, each counted each time it is reached (what is shared counts as often as it is met; a slice's spare places count too). A statement '..UptoSaid' is the law's where the arguments, and the package variables that the reading takes, are together of bulk at most 1048576: NARROWER than '..Said'. Prove '..Said' where nothing that the law and all that it calls make is longer than what came in: it says more and counts as full. Else prove '..UptoSaid'. A law counts once. -/
mutual
def uptoBulk {H : Type} : DataW H → Nat
  | .lit (.string bytes) => bytes.length + 1
  | .lit _ => 1
  | .nil => 1
  | .ptr d => uptoBulk d + 1
  | .slice elems spare => uptoBulkAll elems + uptoBulkAll spare + 1
  | .agg parts => uptoBulkAll parts + 1
  | .iface _ d => uptoBulk d + 1
  | .map entries => uptoBulkEntries entries + 1
  | .held _ => 1
def uptoBulkAll {H : Type} : List (DataW H) → Nat
  | [] => 0
  | d :: r => uptoBulk d + uptoBulkAll r
def uptoBulkEntries {H : Type} : List (Lit × DataW H) → Nat
  | [] => 0
  | x :: r => uptoBulkEntry x + uptoBulkEntries r
def uptoBulkEntry {H : Type} : Lit × DataW H → Nat
  | (.string bytes, d) => bytes.length + uptoBulk d + 1
  | (_, d) => uptoBulk d + 1
 end
def uptoSmall : (H : Type) → List (DataW H) → Bool := fun _ ds => decide (uptoBulkAll ds ≤ 1048576)
def OpenSpec.upto (s : _root_.Go.ChangeSpec) : _root_.Go.OpenSpec := { _root_.Go.OpenSpec.ofChange s with cond := some uptoSmall }

/-- 'packtrainlaw.VaryZigs', WHERE WHAT IT READS IS OF BULK AT MOST 1048576: true; the input reads as it did. -/
def varyZigsUptoRow : OpenClaim := { program := "ytepfbjfmfnnfdaa", sum := "4f5477d7d3a97fe02900217bc61e1815cc2450cc7940a4847f45d08ff335d68f", func := "packtrain/packtrainlaw.VaryZigs", spec := "varyZigs", apart := false, narrowed := true }
def VaryZigsUptoSaid : Prop := varyZigsUptoRow.holds Try.pinned (OpenSpec.upto varyZigsSpec)

/-- 'packtrainkeep.SpanOnly', WHERE WHAT IT READS IS OF BULK AT MOST 1048576: true; the input reads as it did. -/
def spanOnlyUptoRow : OpenClaim := { program := "ytepfbjfmfnnfdaa", sum := "4f5477d7d3a97fe02900217bc61e1815cc2450cc7940a4847f45d08ff335d68f", func := "packtrain/packtrainkeep.SpanOnly", spec := "spanOnly", apart := false, narrowed := true }
def SpanOnlyUptoSaid : Prop := spanOnlyUptoRow.holds Try.pinned (OpenSpec.upto spanOnlySpec)

end Rows
end Go.Proofs.Ytepfbjfmfnnfdaa
