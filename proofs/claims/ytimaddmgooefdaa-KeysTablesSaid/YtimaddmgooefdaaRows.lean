/-
  No cell of these rows narrows 'for every input' (looked for: loops, veiled, ifaces, maps, wideKeys, modest, calm, conditions, laid).
  DERIVED. THE GIVEN ROWS OF THIS SEAT. 4 by the template 'for every input the law returns true; each argument reads behind the call as it read before'; 0 by the template 'total and deterministic' (their statements: YtimaddmgooefdaaTotals.lean).
  GIVEN WITH THE SEED: the statements are not yours to turn. If you find one false, say at which input.
  Laid BY PROGRAM, IN A SANDBOX (cutbox-rows.mjs): the forced cells as the released guide's own fill.sh prints them over the translation 9bf0aec766348cf2… (all of the seat's roots in one cut). By AI agents, Wed Nov 11 2026. No macro, syntax, notation, axiom, sorry.
-/
import Derived.Test.YtimaddmgooefdaaChecked
import GoSem.Claim
import GoSem.ClaimJoined
import GoSem.ClaimMapViews
import Derived.JoinedTies
import Derived.KernelRfl
namespace Go.Proofs.Ytimaddmgooefdaa
/- THE CELL 'sum', in the pinned program and in every row, IS THE sha256 OF THE DUMP (.gsa) THAT YtimaddmgooefdaaProg.lean LOADS. Nothing in Lean hashes anything: it is a label: what it is worth is what the hold of that sum in a sandbox is worth. -/
noncomputable def Try.pinned : Pinned := { name := "ytimaddmgooefdaa", sum := "9bf0aec766348cf273fe9f9b5973ba195d05cf88552edaf815417847f53fd20e", checked := Try.checked }
namespace Rows
def none {H : Type} : Left H := { results := [], args := [] }

/-- 'packtrainlaw.KeysTables': WHATEVER THE INPUT: true; the input reads as it did. -/
def keysTablesSpec : ChangeSpec := { name := "keysTables", fn := fun _ => fun
  | [d] => { results := [.lit (.bool true)], args := [d] }
  | _ => none }
def keysTablesRow : OpenClaim := { program := "ytimaddmgooefdaa", sum := "9bf0aec766348cf273fe9f9b5973ba195d05cf88552edaf815417847f53fd20e", func := "packtrain/packtrainlaw.KeysTables", spec := "keysTables", apart := false }
def KeysTablesSaid : Prop := keysTablesRow.holds Try.pinned (OpenSpec.ofChange keysTablesSpec)

/-- ITS FALSE NEIGHBOUR: 'it returns false'. Refute it at one input. -/
def keysTablesWrong : ChangeSpec := { name := "keysTables", fn := fun _ => fun
  | [d] => { results := [.lit (.bool false)], args := [d] }
  | _ => none }
def KeysTablesWrongFalsely : Prop := keysTablesRow.holds Try.pinned (OpenSpec.ofChange keysTablesWrong)

/-- 'packtrainkeep.WriteBack': WHATEVER THE INPUT: true; the input reads as it did. -/
def writeBackSpec : ChangeSpec := { name := "writeBack", fn := fun _ => fun
  | [d1, d2] => { results := [.lit (.bool true)], args := [d1, d2] }
  | _ => none }
def writeBackRow : OpenClaim := { program := "ytimaddmgooefdaa", sum := "9bf0aec766348cf273fe9f9b5973ba195d05cf88552edaf815417847f53fd20e", func := "packtrain/packtrainkeep.WriteBack", spec := "writeBack", apart := false }
def WriteBackSaid : Prop := writeBackRow.holds Try.pinned (OpenSpec.ofChange writeBackSpec)

/-- ITS FALSE NEIGHBOUR: 'it returns false'. Refute it at one input. -/
def writeBackWrong : ChangeSpec := { name := "writeBack", fn := fun _ => fun
  | [d1, d2] => { results := [.lit (.bool false)], args := [d1, d2] }
  | _ => none }
def WriteBackWrongFalsely : Prop := writeBackRow.holds Try.pinned (OpenSpec.ofChange writeBackWrong)

/-- 'packtrainkeep.WriteOnly': WHATEVER THE INPUT: true; the input reads as it did. -/
def writeOnlySpec : ChangeSpec := { name := "writeOnly", fn := fun _ => fun
  | [d1, d2] => { results := [.lit (.bool true)], args := [d1, d2] }
  | _ => none }
def writeOnlyRow : OpenClaim := { program := "ytimaddmgooefdaa", sum := "9bf0aec766348cf273fe9f9b5973ba195d05cf88552edaf815417847f53fd20e", func := "packtrain/packtrainkeep.WriteOnly", spec := "writeOnly", apart := false }
def WriteOnlySaid : Prop := writeOnlyRow.holds Try.pinned (OpenSpec.ofChange writeOnlySpec)

/-- ITS FALSE NEIGHBOUR: 'it returns false'. Refute it at one input. -/
def writeOnlyWrong : ChangeSpec := { name := "writeOnly", fn := fun _ => fun
  | [d1, d2] => { results := [.lit (.bool false)], args := [d1, d2] }
  | _ => none }
def WriteOnlyWrongFalsely : Prop := writeOnlyRow.holds Try.pinned (OpenSpec.ofChange writeOnlyWrong)

/-- 'packtrainkeep.WriteKinds': WHATEVER THE INPUT: true; the input reads as it did. -/
def writeKindsSpec : ChangeSpec := { name := "writeKinds", fn := fun _ => fun
  | [d1, d2] => { results := [.lit (.bool true)], args := [d1, d2] }
  | _ => none }
def writeKindsRow : OpenClaim := { program := "ytimaddmgooefdaa", sum := "9bf0aec766348cf273fe9f9b5973ba195d05cf88552edaf815417847f53fd20e", func := "packtrain/packtrainkeep.WriteKinds", spec := "writeKinds", apart := false }
def WriteKindsSaid : Prop := writeKindsRow.holds Try.pinned (OpenSpec.ofChange writeKindsSpec)

/-- ITS FALSE NEIGHBOUR: 'it returns false'. Refute it at one input. -/
def writeKindsWrong : ChangeSpec := { name := "writeKinds", fn := fun _ => fun
  | [d1, d2] => { results := [.lit (.bool false)], args := [d1, d2] }
  | _ => none }
def WriteKindsWrongFalsely : Prop := writeKindsRow.holds Try.pinned (OpenSpec.ofChange writeKindsWrong)

/- THE SECOND FORM. 'bulk': how many values and letters a reading holds, each counted each time it is reached (what is shared counts as often as it is met; a slice's spare places count too). A statement '..UptoSaid' is the law's where the arguments, and the package variables that the reading takes, are together of bulk at most 1048576: NARROWER than '..Said'. Prove '..Said' where nothing that the law and all that it calls make is longer than what came in: it says more and counts as full. Else prove '..UptoSaid'. A law counts once. -/
mutual
def uptoBulk {H : Type} : DataW H → Nat
  | .lit (.string bytes) => bytes.length + 1
  | .lit _ => 1
  | .nil => 1
  | .ptr d => uptoBulk d + 1
  | .slice elems spare => uptoBulkAll elems + uptoBulkAll spare + 1
  | .agg parts => uptoBulkAll parts + 1
  | .iface _ d => uptoBulk d + 1
  | .map entries => uptoBulkEntries entries + 1
  | .held _ => 1
def uptoBulkAll {H : Type} : List (DataW H) → Nat
  | [] => 0
  | d :: r => uptoBulk d + uptoBulkAll r
def uptoBulkEntries {H : Type} : List (Lit × DataW H) → Nat
  | [] => 0
  | x :: r => uptoBulkEntry x + uptoBulkEntries r
def uptoBulkEntry {H : Type} : Lit × DataW H → Nat
  | (.string bytes, d) => bytes.length + uptoBulk d + 1
  | (_, d) => uptoBulk d + 1
 end
def uptoSmall : (H : Type) → List (DataW H) → Bool := fun _ ds => decide (uptoBulkAll ds ≤ 1048576)
def OpenSpec.upto (s : _root_.Go.ChangeSpec) : _root_.Go.OpenSpec := { _root_.Go.OpenSpec.ofChange s with cond := some uptoSmall }

/-- 'packtrainlaw.KeysTables', WHERE WHAT IT READS IS OF BULK AT MOST 1048576: true; the input reads as it did. -/
def keysTablesUptoRow : OpenClaim := { program := "ytimaddmgooefdaa", sum := "9bf0aec766348cf273fe9f9b5973ba195d05cf88552edaf815417847f53fd20e", func := "packtrain/packtrainlaw.KeysTables", spec := "keysTables", apart := false, narrowed := true }
def KeysTablesUptoSaid : Prop := keysTablesUptoRow.holds Try.pinned (OpenSpec.upto keysTablesSpec)

/-- 'packtrainkeep.WriteBack', WHERE WHAT IT READS IS OF BULK AT MOST 1048576: true; the input reads as it did. -/
def writeBackUptoRow : OpenClaim := { program := "ytimaddmgooefdaa", sum := "9bf0aec766348cf273fe9f9b5973ba195d05cf88552edaf815417847f53fd20e", func := "packtrain/packtrainkeep.WriteBack", spec := "writeBack", apart := false, narrowed := true }
def WriteBackUptoSaid : Prop := writeBackUptoRow.holds Try.pinned (OpenSpec.upto writeBackSpec)

/-- 'packtrainkeep.WriteOnly', WHERE WHAT IT READS IS OF BULK AT MOST 1048576: true; the input reads as it did. -/
def writeOnlyUptoRow : OpenClaim := { program := "ytimaddmgooefdaa", sum := "9bf0aec766348cf273fe9f9b5973ba195d05cf88552edaf815417847f53fd20e", func := "packtrain/packtrainkeep.WriteOnly", spec := "writeOnly", apart := false, narrowed := true }
def WriteOnlyUptoSaid : Prop := writeOnlyUptoRow.holds Try.pinned (OpenSpec.upto writeOnlySpec)

/-- 'packtrainkeep.WriteKinds', WHERE WHAT IT READS IS OF BULK AT MOST 1048576: true; the input reads as it did. -/
def writeKindsUptoRow : OpenClaim := { program := "ytimaddmgooefdaa", sum := "9bf0aec766348cf273fe9f9b5973ba195d05cf88552edaf815417847f53fd20e", func := "packtrain/packtrainkeep.WriteKinds", spec := "writeKinds", apart := false, narrowed := true }
def WriteKindsUptoSaid : Prop := writeKindsUptoRow.holds Try.pinned (OpenSpec.upto writeKindsSpec)

end Rows
end Go.Proofs.Ytimaddmgooefdaa
