/-
  DERIVED. GIVEN WITH THE SEED: THE CARDS: each row of YtiipnifnejnhlaaDoorRows.lean that lists a variable, with what it lists TIED to the program's text (the seventh form; the later family's looks); each row that meets fmt, with fmt's text TOLD by the authors' own Lean function (tested against real Go, not proved from fmt's source: count such statements apart). THE CARD IS WHAT COUNTS. Prove the row's statement (the work); the ties are given (YtiipnifnejnhlaaDoorTie.lean); close each card by the builder's one call (the guide's Derived/Test/ToyasCard.lean, 'card_holds'). Laid BY PROGRAM, IN A SANDBOX (cutbox-door.mjs). By AI agents, Wed Nov 11 2026. No macro, syntax, notation, axiom, sorry.
-/
import Derived.Test.YtiipnifnejnhlaaDoorRows
import GoSem.ClaimSeven
namespace Go.Proofs.YtiipnifnejnhlaaDoor
namespace Rows

/-- THE TIED CARD OF 'packtrainlaw.BatchRights'. -/
def batchRightsCard : Claim7 := { stood := { row := batchRightsRow, standIns := [], harness := (true, "3e42b755991ecfb563d261df1216cad6fd39fd18193fa58659cbd0be0e4e3847"), looks := true }, kinds := [], alts := [], laidByText := true, laidKinds := [.data, .data, .data, .handle], laidTests := true, laidLooks := .later }
def BatchRightsCardSaid : Prop := Claim7.holds Tryd.pinned (.plain (OpenSpec.ofChange batchRightsSpec)) batchRightsCard

/-- THE TIED CARD OF 'packtrainkeep.BatchLess'. -/
def batchLessCard : Claim7 := { stood := { row := batchLessRow, standIns := [], harness := (true, "3e42b755991ecfb563d261df1216cad6fd39fd18193fa58659cbd0be0e4e3847"), looks := true }, kinds := [], alts := [], laidByText := true, laidKinds := [.handle], laidTests := true, laidLooks := .later }
def BatchLessCardSaid : Prop := Claim7.holds Tryd.pinned (.plain (OpenSpec.ofChange batchLessSpec)) batchLessCard

/-- THE TIED CARD OF 'packtrainkeep.BatchWide'. -/
def batchWideCard : Claim7 := { stood := { row := batchWideRow, standIns := [], harness := (true, "3e42b755991ecfb563d261df1216cad6fd39fd18193fa58659cbd0be0e4e3847"), looks := true }, kinds := [], alts := [], laidByText := true, laidKinds := [.handle], laidTests := true, laidLooks := .later }
def BatchWideCardSaid : Prop := Claim7.holds Tryd.pinned (.plain (OpenSpec.ofChange batchWideSpec)) batchWideCard

/-- THE TIED CARD OF 'packtrainkeep.BatchSame'. -/
def batchSameCard : Claim7 := { stood := { row := batchSameRow, standIns := [], harness := (true, "3e42b755991ecfb563d261df1216cad6fd39fd18193fa58659cbd0be0e4e3847"), looks := true }, kinds := [], alts := [], laidByText := true, laidKinds := [.handle], laidTests := true, laidLooks := .later }
def BatchSameCardSaid : Prop := Claim7.holds Tryd.pinned (.plain (OpenSpec.ofChange batchSameSpec)) batchSameCard

/-- THE TIED CARD OF 'packtrainkeep.BatchParts'. -/
def batchPartsCard : Claim7 := { stood := { row := batchPartsRow, standIns := [], harness := (true, "3e42b755991ecfb563d261df1216cad6fd39fd18193fa58659cbd0be0e4e3847"), looks := true }, kinds := [], alts := [], laidByText := true, laidKinds := [.handle], laidTests := true, laidLooks := .later }
def BatchPartsCardSaid : Prop := Claim7.holds Tryd.pinned (.plain (OpenSpec.ofChange batchPartsSpec)) batchPartsCard

/-- THE SECOND FORM's CARD OF 'packtrainlaw.BatchRights'. -/
def batchRightsUptoCard : Claim7 := { stood := { row := batchRightsUptoRow, standIns := [], harness := (true, "3e42b755991ecfb563d261df1216cad6fd39fd18193fa58659cbd0be0e4e3847"), looks := true }, kinds := [], alts := [], laidByText := true, laidKinds := [.data, .data, .data, .handle], laidTests := true, laidLooks := .later }
def BatchRightsUptoCardSaid : Prop := Claim7.holds Tryd.pinned (.plain (OpenSpec.upto batchRightsSpec)) batchRightsUptoCard

/-- THE SECOND FORM's CARD OF 'packtrainkeep.BatchLess'. -/
def batchLessUptoCard : Claim7 := { stood := { row := batchLessUptoRow, standIns := [], harness := (true, "3e42b755991ecfb563d261df1216cad6fd39fd18193fa58659cbd0be0e4e3847"), looks := true }, kinds := [], alts := [], laidByText := true, laidKinds := [.handle], laidTests := true, laidLooks := .later }
def BatchLessUptoCardSaid : Prop := Claim7.holds Tryd.pinned (.plain (OpenSpec.upto batchLessSpec)) batchLessUptoCard

/-- THE SECOND FORM's CARD OF 'packtrainkeep.BatchWide'. -/
def batchWideUptoCard : Claim7 := { stood := { row := batchWideUptoRow, standIns := [], harness := (true, "3e42b755991ecfb563d261df1216cad6fd39fd18193fa58659cbd0be0e4e3847"), looks := true }, kinds := [], alts := [], laidByText := true, laidKinds := [.handle], laidTests := true, laidLooks := .later }
def BatchWideUptoCardSaid : Prop := Claim7.holds Tryd.pinned (.plain (OpenSpec.upto batchWideSpec)) batchWideUptoCard

/-- THE SECOND FORM's CARD OF 'packtrainkeep.BatchSame'. -/
def batchSameUptoCard : Claim7 := { stood := { row := batchSameUptoRow, standIns := [], harness := (true, "3e42b755991ecfb563d261df1216cad6fd39fd18193fa58659cbd0be0e4e3847"), looks := true }, kinds := [], alts := [], laidByText := true, laidKinds := [.handle], laidTests := true, laidLooks := .later }
def BatchSameUptoCardSaid : Prop := Claim7.holds Tryd.pinned (.plain (OpenSpec.upto batchSameSpec)) batchSameUptoCard

/-- THE SECOND FORM's CARD OF 'packtrainkeep.BatchParts'. -/
def batchPartsUptoCard : Claim7 := { stood := { row := batchPartsUptoRow, standIns := [], harness := (true, "3e42b755991ecfb563d261df1216cad6fd39fd18193fa58659cbd0be0e4e3847"), looks := true }, kinds := [], alts := [], laidByText := true, laidKinds := [.handle], laidTests := true, laidLooks := .later }
def BatchPartsUptoCardSaid : Prop := Claim7.holds Tryd.pinned (.plain (OpenSpec.upto batchPartsSpec)) batchPartsUptoCard
end Rows
end Go.Proofs.YtiipnifnejnhlaaDoor
