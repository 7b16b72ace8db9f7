/-
  NARROWER THAN 'FOR EVERY INPUT', by the rows' own cells (each row's printed sentence says how): LzWrites: laid · LzReads: laid · LzSqueezes: laid · LzBack: laid · LzTokens: laid · LzSmall: laid · LzJoins: laid · LzLong: laid.
  DERIVED. THE GIVEN ROWS OF THIS SEAT. 8 by the template 'for every input the law returns true; each argument reads behind the call as it read before'; 0 by the template 'total and deterministic' (their statements: YtjhmlmcibpjagaaDoorTotals.lean).
  GIVEN WITH THE SEED: the statements are not yours to turn. If you find one false, say at which input.
  Laid BY PROGRAM, IN A SANDBOX (cutbox-rows.mjs): the forced cells as the released guide's own fill.sh prints them over the translation bf06a7b52f734b88… (all of the seat's roots in one cut). By AI agents, Wed Nov 11 2026. No macro, syntax, notation, axiom, sorry.
-/
import Derived.Test.YtjhmlmcibpjagaaDoorChecked
import GoSem.Claim
import GoSem.ClaimJoined
import GoSem.ClaimMapViews
import Derived.JoinedTies
import Derived.KernelRfl
namespace Go.Proofs.YtjhmlmcibpjagaaDoor
/- THE CELL 'sum', in the pinned program and in every row, IS THE sha256 OF THE DUMP (.gsa) THAT YtjhmlmcibpjagaaDoorProg.lean LOADS. Nothing in Lean hashes anything: it is a label: what it is worth is what the hold of that sum in a sandbox is worth. -/
noncomputable def Tryd.pinned : Pinned := { name := "ytjhmlmcibpjagaadoor", sum := "bf06a7b52f734b881a45ab749668a822732886bcc63b9250e9b262628a52315f", checked := Tryd.checked }
namespace Rows
def none {H : Type} : Left H := { results := [], args := [] }

/- WHAT THE LISTED PACKAGE-LEVEL VARIABLES READ AS WHEN THE CALL BEGINS. Each datum BY PROGRAM (the guide's laid-datum.mjs) off the statement by which the dump's own 'gosem.cut.vars' lays the variable. In a bare row this is a premise. The card (YtjhmlmcibpjagaaDoorCards.lean) ties it to the program's text. -/
def laid_errors_errorType {H : Type} : DataW H := .iface "internal/reflectlite.rtype" (.agg [.ptr (.lit (.string [101, 114, 114, 111, 114]))])

/-- 'packtrainlaw.LzWrites': WHATEVER THE INPUT: true; the input reads as it did. -/
def lzWritesSpec : ChangeSpec := { name := "lzWrites", fn := fun _ => fun
  | [d] => { results := [.lit (.bool true)], args := [d] }
  | _ => none }
def lzWritesRow : OpenClaim := { program := "ytjhmlmcibpjagaadoor", sum := "bf06a7b52f734b881a45ab749668a822732886bcc63b9250e9b262628a52315f", func := "packtrain/packtrainlaw.LzWrites", spec := "lzWrites", inPlace := ["internal/abi.NoEscape", "internal/bytealg.MakeNoZero", "internal/reflectlite.ValueOf", "(internal/reflectlite.Value).Type", "(internal/reflectlite.Value).IsNil", "internal/reflectlite.TypeOf", "(internal/reflectlite.Value).Elem", "(internal/reflectlite.Value).Set"], unfollowed := true, recurses := true, named := ["errors.errorType"], apart := false, laid := [("errors.errorType", laid_errors_errorType)] }
def LzWritesSaid : Prop := lzWritesRow.holds Tryd.pinned (OpenSpec.ofChange lzWritesSpec)

/-- ITS FALSE NEIGHBOUR: 'it returns false'. Refute it at one input. -/
def lzWritesWrong : ChangeSpec := { name := "lzWrites", fn := fun _ => fun
  | [d] => { results := [.lit (.bool false)], args := [d] }
  | _ => none }
def LzWritesWrongFalsely : Prop := lzWritesRow.holds Tryd.pinned (OpenSpec.ofChange lzWritesWrong)

/-- 'packtrainlaw.LzReads': WHATEVER THE INPUT: true; the input reads as it did. -/
def lzReadsSpec : ChangeSpec := { name := "lzReads", fn := fun _ => fun
  | [d] => { results := [.lit (.bool true)], args := [d] }
  | _ => none }
def lzReadsRow : OpenClaim := { program := "ytjhmlmcibpjagaadoor", sum := "bf06a7b52f734b881a45ab749668a822732886bcc63b9250e9b262628a52315f", func := "packtrain/packtrainlaw.LzReads", spec := "lzReads", inPlace := ["internal/reflectlite.ValueOf", "(internal/reflectlite.Value).Type", "(internal/reflectlite.Value).IsNil", "internal/reflectlite.TypeOf", "(internal/reflectlite.Value).Elem", "(internal/reflectlite.Value).Set"], unfollowed := true, recurses := true, named := ["errors.errorType"], apart := false, laid := [("errors.errorType", laid_errors_errorType)] }
def LzReadsSaid : Prop := lzReadsRow.holds Tryd.pinned (OpenSpec.ofChange lzReadsSpec)

/-- ITS FALSE NEIGHBOUR: 'it returns false'. Refute it at one input. -/
def lzReadsWrong : ChangeSpec := { name := "lzReads", fn := fun _ => fun
  | [d] => { results := [.lit (.bool false)], args := [d] }
  | _ => none }
def LzReadsWrongFalsely : Prop := lzReadsRow.holds Tryd.pinned (OpenSpec.ofChange lzReadsWrong)

/-- 'packtrainlaw.LzSqueezes': WHATEVER THE INPUT: true; the input reads as it did. -/
def lzSqueezesSpec : ChangeSpec := { name := "lzSqueezes", fn := fun _ => fun
  | [d] => { results := [.lit (.bool true)], args := [d] }
  | _ => none }
def lzSqueezesRow : OpenClaim := { program := "ytjhmlmcibpjagaadoor", sum := "bf06a7b52f734b881a45ab749668a822732886bcc63b9250e9b262628a52315f", func := "packtrain/packtrainlaw.LzSqueezes", spec := "lzSqueezes", inPlace := ["internal/abi.NoEscape", "internal/bytealg.MakeNoZero", "internal/reflectlite.ValueOf", "(internal/reflectlite.Value).Type", "(internal/reflectlite.Value).IsNil", "internal/reflectlite.TypeOf", "(internal/reflectlite.Value).Elem", "(internal/reflectlite.Value).Set"], unfollowed := true, recurses := true, named := ["errors.errorType"], apart := false, laid := [("errors.errorType", laid_errors_errorType)] }
def LzSqueezesSaid : Prop := lzSqueezesRow.holds Tryd.pinned (OpenSpec.ofChange lzSqueezesSpec)

/-- ITS FALSE NEIGHBOUR: 'it returns false'. Refute it at one input. -/
def lzSqueezesWrong : ChangeSpec := { name := "lzSqueezes", fn := fun _ => fun
  | [d] => { results := [.lit (.bool false)], args := [d] }
  | _ => none }
def LzSqueezesWrongFalsely : Prop := lzSqueezesRow.holds Tryd.pinned (OpenSpec.ofChange lzSqueezesWrong)

/-- 'packtrainkeep.LzBack': WHATEVER THE INPUT: true; the input reads as it did. -/
def lzBackSpec : ChangeSpec := { name := "lzBack", fn := fun _ => fun
  | [d] => { results := [.lit (.bool true)], args := [d] }
  | _ => none }
def lzBackRow : OpenClaim := { program := "ytjhmlmcibpjagaadoor", sum := "bf06a7b52f734b881a45ab749668a822732886bcc63b9250e9b262628a52315f", func := "packtrain/packtrainkeep.LzBack", spec := "lzBack", inPlace := ["internal/abi.NoEscape", "internal/reflectlite.ValueOf", "(internal/reflectlite.Value).Type", "(internal/reflectlite.Value).IsNil", "internal/reflectlite.TypeOf", "(internal/reflectlite.Value).Elem", "(internal/reflectlite.Value).Set"], unfollowed := true, recurses := true, named := ["errors.errorType"], apart := false, laid := [("errors.errorType", laid_errors_errorType)] }
def LzBackSaid : Prop := lzBackRow.holds Tryd.pinned (OpenSpec.ofChange lzBackSpec)

/-- ITS FALSE NEIGHBOUR: 'it returns false'. Refute it at one input. -/
def lzBackWrong : ChangeSpec := { name := "lzBack", fn := fun _ => fun
  | [d] => { results := [.lit (.bool false)], args := [d] }
  | _ => none }
def LzBackWrongFalsely : Prop := lzBackRow.holds Tryd.pinned (OpenSpec.ofChange lzBackWrong)

/-- 'packtrainkeep.LzTokens': WHATEVER THE INPUT: true; the input reads as it did. -/
def lzTokensSpec : ChangeSpec := { name := "lzTokens", fn := fun _ => fun
  | [d1, d2] => { results := [.lit (.bool true)], args := [d1, d2] }
  | _ => none }
def lzTokensRow : OpenClaim := { program := "ytjhmlmcibpjagaadoor", sum := "bf06a7b52f734b881a45ab749668a822732886bcc63b9250e9b262628a52315f", func := "packtrain/packtrainkeep.LzTokens", spec := "lzTokens", inPlace := ["internal/abi.NoEscape", "internal/reflectlite.ValueOf", "(internal/reflectlite.Value).Type", "(internal/reflectlite.Value).IsNil", "internal/reflectlite.TypeOf", "(internal/reflectlite.Value).Elem", "(internal/reflectlite.Value).Set"], unfollowed := true, recurses := true, named := ["errors.errorType"], apart := false, laid := [("errors.errorType", laid_errors_errorType)] }
def LzTokensSaid : Prop := lzTokensRow.holds Tryd.pinned (OpenSpec.ofChange lzTokensSpec)

/-- ITS FALSE NEIGHBOUR: 'it returns false'. Refute it at one input. -/
def lzTokensWrong : ChangeSpec := { name := "lzTokens", fn := fun _ => fun
  | [d1, d2] => { results := [.lit (.bool false)], args := [d1, d2] }
  | _ => none }
def LzTokensWrongFalsely : Prop := lzTokensRow.holds Tryd.pinned (OpenSpec.ofChange lzTokensWrong)

/-- 'packtrainkeep.LzSmall': WHATEVER THE INPUT: true; the input reads as it did. -/
def lzSmallSpec : ChangeSpec := { name := "lzSmall", fn := fun _ => fun
  | [d] => { results := [.lit (.bool true)], args := [d] }
  | _ => none }
def lzSmallRow : OpenClaim := { program := "ytjhmlmcibpjagaadoor", sum := "bf06a7b52f734b881a45ab749668a822732886bcc63b9250e9b262628a52315f", func := "packtrain/packtrainkeep.LzSmall", spec := "lzSmall", inPlace := ["internal/abi.NoEscape", "internal/reflectlite.ValueOf", "(internal/reflectlite.Value).Type", "(internal/reflectlite.Value).IsNil", "internal/reflectlite.TypeOf", "(internal/reflectlite.Value).Elem", "(internal/reflectlite.Value).Set"], unfollowed := true, recurses := true, named := ["errors.errorType"], apart := false, laid := [("errors.errorType", laid_errors_errorType)] }
def LzSmallSaid : Prop := lzSmallRow.holds Tryd.pinned (OpenSpec.ofChange lzSmallSpec)

/-- ITS FALSE NEIGHBOUR: 'it returns false'. Refute it at one input. -/
def lzSmallWrong : ChangeSpec := { name := "lzSmall", fn := fun _ => fun
  | [d] => { results := [.lit (.bool false)], args := [d] }
  | _ => none }
def LzSmallWrongFalsely : Prop := lzSmallRow.holds Tryd.pinned (OpenSpec.ofChange lzSmallWrong)

/-- 'packtrainkeep.LzJoins': WHATEVER THE INPUT: true; the input reads as it did. -/
def lzJoinsSpec : ChangeSpec := { name := "lzJoins", fn := fun _ => fun
  | [d1, d2] => { results := [.lit (.bool true)], args := [d1, d2] }
  | _ => none }
def lzJoinsRow : OpenClaim := { program := "ytjhmlmcibpjagaadoor", sum := "bf06a7b52f734b881a45ab749668a822732886bcc63b9250e9b262628a52315f", func := "packtrain/packtrainkeep.LzJoins", spec := "lzJoins", inPlace := ["internal/abi.NoEscape", "internal/reflectlite.ValueOf", "(internal/reflectlite.Value).Type", "(internal/reflectlite.Value).IsNil", "internal/reflectlite.TypeOf", "(internal/reflectlite.Value).Elem", "(internal/reflectlite.Value).Set"], unfollowed := true, recurses := true, named := ["errors.errorType"], apart := false, laid := [("errors.errorType", laid_errors_errorType)] }
def LzJoinsSaid : Prop := lzJoinsRow.holds Tryd.pinned (OpenSpec.ofChange lzJoinsSpec)

/-- ITS FALSE NEIGHBOUR: 'it returns false'. Refute it at one input. -/
def lzJoinsWrong : ChangeSpec := { name := "lzJoins", fn := fun _ => fun
  | [d1, d2] => { results := [.lit (.bool false)], args := [d1, d2] }
  | _ => none }
def LzJoinsWrongFalsely : Prop := lzJoinsRow.holds Tryd.pinned (OpenSpec.ofChange lzJoinsWrong)

/-- 'packtrainkeep.LzLong': WHATEVER THE INPUT: true; the input reads as it did. -/
def lzLongSpec : ChangeSpec := { name := "lzLong", fn := fun _ => fun
  | [d] => { results := [.lit (.bool true)], args := [d] }
  | _ => none }
def lzLongRow : OpenClaim := { program := "ytjhmlmcibpjagaadoor", sum := "bf06a7b52f734b881a45ab749668a822732886bcc63b9250e9b262628a52315f", func := "packtrain/packtrainkeep.LzLong", spec := "lzLong", inPlace := ["internal/abi.NoEscape", "internal/reflectlite.ValueOf", "(internal/reflectlite.Value).Type", "(internal/reflectlite.Value).IsNil", "internal/reflectlite.TypeOf", "(internal/reflectlite.Value).Elem", "(internal/reflectlite.Value).Set"], unfollowed := true, recurses := true, named := ["errors.errorType"], apart := false, laid := [("errors.errorType", laid_errors_errorType)] }
def LzLongSaid : Prop := lzLongRow.holds Tryd.pinned (OpenSpec.ofChange lzLongSpec)

/-- ITS FALSE NEIGHBOUR: 'it returns false'. Refute it at one input. -/
def lzLongWrong : ChangeSpec := { name := "lzLong", fn := fun _ => fun
  | [d] => { results := [.lit (.bool false)], args := [d] }
  | _ => none }
def LzLongWrongFalsely : Prop := lzLongRow.holds Tryd.pinned (OpenSpec.ofChange lzLongWrong)

/- THE SECOND FORM. 'bulk': how many values and letters a reading holds, each counted each time it is reached (what is shared counts as often as it is met; a slice's spare places count too). A statement '..UptoSaid' is the law's where the arguments, and the package variables that the reading takes, are together of bulk at most 1048576: NARROWER than '..Said'. Prove '..Said' where nothing that the law and all that it calls make is longer than what came in: it says more and counts as full. Else prove '..UptoSaid'. A law counts once. -/
mutual
def uptoBulk {H : Type} : DataW H → Nat
  | .lit (.string bytes) => bytes.length + 1
  | .lit _ => 1
  | .nil => 1
  | .ptr d => uptoBulk d + 1
  | .slice elems spare => uptoBulkAll elems + uptoBulkAll spare + 1
  | .agg parts => uptoBulkAll parts + 1
  | .iface _ d => uptoBulk d + 1
  | .map entries => uptoBulkEntries entries + 1
  | .held _ => 1
def uptoBulkAll {H : Type} : List (DataW H) → Nat
  | [] => 0
  | d :: r => uptoBulk d + uptoBulkAll r
def uptoBulkEntries {H : Type} : List (Lit × DataW H) → Nat
  | [] => 0
  | x :: r => uptoBulkEntry x + uptoBulkEntries r
def uptoBulkEntry {H : Type} : Lit × DataW H → Nat
  | (.string bytes, d) => bytes.length + uptoBulk d + 1
  | (_, d) => uptoBulk d + 1
 end
def uptoSmall : (H : Type) → List (DataW H) → Bool := fun _ ds => decide (uptoBulkAll ds ≤ 1048576)
def OpenSpec.upto (s : _root_.Go.ChangeSpec) : _root_.Go.OpenSpec := { _root_.Go.OpenSpec.ofChange s with cond := some uptoSmall }

/-- 'packtrainlaw.LzWrites', WHERE WHAT IT READS IS OF BULK AT MOST 1048576: true; the input reads as it did. -/
def lzWritesUptoRow : OpenClaim := { program := "ytjhmlmcibpjagaadoor", sum := "bf06a7b52f734b881a45ab749668a822732886bcc63b9250e9b262628a52315f", func := "packtrain/packtrainlaw.LzWrites", spec := "lzWrites", inPlace := ["internal/abi.NoEscape", "internal/bytealg.MakeNoZero", "internal/reflectlite.ValueOf", "(internal/reflectlite.Value).Type", "(internal/reflectlite.Value).IsNil", "internal/reflectlite.TypeOf", "(internal/reflectlite.Value).Elem", "(internal/reflectlite.Value).Set"], unfollowed := true, recurses := true, named := ["errors.errorType"], apart := false, laid := [("errors.errorType", laid_errors_errorType)], narrowed := true }
def LzWritesUptoSaid : Prop := lzWritesUptoRow.holds Tryd.pinned (OpenSpec.upto lzWritesSpec)

/-- 'packtrainlaw.LzReads', WHERE WHAT IT READS IS OF BULK AT MOST 1048576: true; the input reads as it did. -/
def lzReadsUptoRow : OpenClaim := { program := "ytjhmlmcibpjagaadoor", sum := "bf06a7b52f734b881a45ab749668a822732886bcc63b9250e9b262628a52315f", func := "packtrain/packtrainlaw.LzReads", spec := "lzReads", inPlace := ["internal/reflectlite.ValueOf", "(internal/reflectlite.Value).Type", "(internal/reflectlite.Value).IsNil", "internal/reflectlite.TypeOf", "(internal/reflectlite.Value).Elem", "(internal/reflectlite.Value).Set"], unfollowed := true, recurses := true, named := ["errors.errorType"], apart := false, laid := [("errors.errorType", laid_errors_errorType)], narrowed := true }
def LzReadsUptoSaid : Prop := lzReadsUptoRow.holds Tryd.pinned (OpenSpec.upto lzReadsSpec)

/-- 'packtrainlaw.LzSqueezes', WHERE WHAT IT READS IS OF BULK AT MOST 1048576: true; the input reads as it did. -/
def lzSqueezesUptoRow : OpenClaim := { program := "ytjhmlmcibpjagaadoor", sum := "bf06a7b52f734b881a45ab749668a822732886bcc63b9250e9b262628a52315f", func := "packtrain/packtrainlaw.LzSqueezes", spec := "lzSqueezes", inPlace := ["internal/abi.NoEscape", "internal/bytealg.MakeNoZero", "internal/reflectlite.ValueOf", "(internal/reflectlite.Value).Type", "(internal/reflectlite.Value).IsNil", "internal/reflectlite.TypeOf", "(internal/reflectlite.Value).Elem", "(internal/reflectlite.Value).Set"], unfollowed := true, recurses := true, named := ["errors.errorType"], apart := false, laid := [("errors.errorType", laid_errors_errorType)], narrowed := true }
def LzSqueezesUptoSaid : Prop := lzSqueezesUptoRow.holds Tryd.pinned (OpenSpec.upto lzSqueezesSpec)

/-- 'packtrainkeep.LzBack', WHERE WHAT IT READS IS OF BULK AT MOST 1048576: true; the input reads as it did. -/
def lzBackUptoRow : OpenClaim := { program := "ytjhmlmcibpjagaadoor", sum := "bf06a7b52f734b881a45ab749668a822732886bcc63b9250e9b262628a52315f", func := "packtrain/packtrainkeep.LzBack", spec := "lzBack", inPlace := ["internal/abi.NoEscape", "internal/reflectlite.ValueOf", "(internal/reflectlite.Value).Type", "(internal/reflectlite.Value).IsNil", "internal/reflectlite.TypeOf", "(internal/reflectlite.Value).Elem", "(internal/reflectlite.Value).Set"], unfollowed := true, recurses := true, named := ["errors.errorType"], apart := false, laid := [("errors.errorType", laid_errors_errorType)], narrowed := true }
def LzBackUptoSaid : Prop := lzBackUptoRow.holds Tryd.pinned (OpenSpec.upto lzBackSpec)

/-- 'packtrainkeep.LzTokens', WHERE WHAT IT READS IS OF BULK AT MOST 1048576: true; the input reads as it did. -/
def lzTokensUptoRow : OpenClaim := { program := "ytjhmlmcibpjagaadoor", sum := "bf06a7b52f734b881a45ab749668a822732886bcc63b9250e9b262628a52315f", func := "packtrain/packtrainkeep.LzTokens", spec := "lzTokens", inPlace := ["internal/abi.NoEscape", "internal/reflectlite.ValueOf", "(internal/reflectlite.Value).Type", "(internal/reflectlite.Value).IsNil", "internal/reflectlite.TypeOf", "(internal/reflectlite.Value).Elem", "(internal/reflectlite.Value).Set"], unfollowed := true, recurses := true, named := ["errors.errorType"], apart := false, laid := [("errors.errorType", laid_errors_errorType)], narrowed := true }
def LzTokensUptoSaid : Prop := lzTokensUptoRow.holds Tryd.pinned (OpenSpec.upto lzTokensSpec)

/-- 'packtrainkeep.LzSmall', WHERE WHAT IT READS IS OF BULK AT MOST 1048576: true; the input reads as it did. -/
def lzSmallUptoRow : OpenClaim := { program := "ytjhmlmcibpjagaadoor", sum := "bf06a7b52f734b881a45ab749668a822732886bcc63b9250e9b262628a52315f", func := "packtrain/packtrainkeep.LzSmall", spec := "lzSmall", inPlace := ["internal/abi.NoEscape", "internal/reflectlite.ValueOf", "(internal/reflectlite.Value).Type", "(internal/reflectlite.Value).IsNil", "internal/reflectlite.TypeOf", "(internal/reflectlite.Value).Elem", "(internal/reflectlite.Value).Set"], unfollowed := true, recurses := true, named := ["errors.errorType"], apart := false, laid := [("errors.errorType", laid_errors_errorType)], narrowed := true }
def LzSmallUptoSaid : Prop := lzSmallUptoRow.holds Tryd.pinned (OpenSpec.upto lzSmallSpec)

/-- 'packtrainkeep.LzJoins', WHERE WHAT IT READS IS OF BULK AT MOST 1048576: true; the input reads as it did. -/
def lzJoinsUptoRow : OpenClaim := { program := "ytjhmlmcibpjagaadoor", sum := "bf06a7b52f734b881a45ab749668a822732886bcc63b9250e9b262628a52315f", func := "packtrain/packtrainkeep.LzJoins", spec := "lzJoins", inPlace := ["internal/abi.NoEscape", "internal/reflectlite.ValueOf", "(internal/reflectlite.Value).Type", "(internal/reflectlite.Value).IsNil", "internal/reflectlite.TypeOf", "(internal/reflectlite.Value).Elem", "(internal/reflectlite.Value).Set"], unfollowed := true, recurses := true, named := ["errors.errorType"], apart := false, laid := [("errors.errorType", laid_errors_errorType)], narrowed := true }
def LzJoinsUptoSaid : Prop := lzJoinsUptoRow.holds Tryd.pinned (OpenSpec.upto lzJoinsSpec)

/-- 'packtrainkeep.LzLong', WHERE WHAT IT READS IS OF BULK AT MOST 1048576: true; the input reads as it did. -/
def lzLongUptoRow : OpenClaim := { program := "ytjhmlmcibpjagaadoor", sum := "bf06a7b52f734b881a45ab749668a822732886bcc63b9250e9b262628a52315f", func := "packtrain/packtrainkeep.LzLong", spec := "lzLong", inPlace := ["internal/abi.NoEscape", "internal/reflectlite.ValueOf", "(internal/reflectlite.Value).Type", "(internal/reflectlite.Value).IsNil", "internal/reflectlite.TypeOf", "(internal/reflectlite.Value).Elem", "(internal/reflectlite.Value).Set"], unfollowed := true, recurses := true, named := ["errors.errorType"], apart := false, laid := [("errors.errorType", laid_errors_errorType)], narrowed := true }
def LzLongUptoSaid : Prop := lzLongUptoRow.holds Tryd.pinned (OpenSpec.upto lzLongSpec)

end Rows
end Go.Proofs.YtjhmlmcibpjagaaDoor
