/-
  DERIVED. GIVEN WITH THE SEED: THE CARDS: each row of YtgelfjcmggicdaaGreatDoorRows.lean that lists a variable, with what it lists TIED to the program's text (the seventh form; the later family's looks); each row that meets fmt, with fmt's text TOLD by the authors' own Lean function (tested against real Go, not proved from fmt's source: count such statements apart). THE CARD IS WHAT COUNTS. Prove the row's statement (the work); the ties are given (YtgelfjcmggicdaaGreatDoorTie.lean); close each card by the builder's one call (the guide's Derived/Test/ToyasCard.lean, 'card_holds'). Laid BY PROGRAM, IN A SANDBOX (cutbox-door.mjs). By AI agents, Wed Nov 11 2026. No macro, syntax, notation, axiom, sorry.
-/
import Derived.Test.YtgelfjcmggicdaaGreatDoorRows
import GoSem.ClaimSeven
namespace Go.Proofs.YtgelfjcmggicdaaGreatDoor
namespace Rows

/-- THE TIED CARD OF 'packtrainlaw.BodyWrites'. -/
def bodyWritesCard : Claim7 := { stood := { row := bodyWritesRow, standIns := [], harness := (true, "92c1af19b6ca67441748efc5a9bc24f374debc9f65e84daea39f0ec1c135c3cd"), looks := true }, kinds := [], alts := [], laidByText := true, laidKinds := [.data, .data, .data, .handle], laidTests := true, laidLooks := .later }
def BodyWritesCardSaid : Prop := Claim7.holds Tryz.pinned (.plain (OpenSpec.ofChange bodyWritesSpec)) bodyWritesCard

/-- THE TIED CARD OF 'packtrainlaw.BodyReads'. -/
def bodyReadsCard : Claim7 := { stood := { row := bodyReadsRow, standIns := [], harness := (true, "92c1af19b6ca67441748efc5a9bc24f374debc9f65e84daea39f0ec1c135c3cd"), looks := true }, kinds := [], alts := [], laidByText := true, laidKinds := [.data, .data, .data, .handle], laidTests := true, laidLooks := .later }
def BodyReadsCardSaid : Prop := Claim7.holds Tryz.pinned (.plain (OpenSpec.ofChange bodyReadsSpec)) bodyReadsCard

/-- THE TIED CARD OF 'packtrainkeep.BodyBack'. -/
def bodyBackCard : Claim7 := { stood := { row := bodyBackRow, standIns := [], harness := (true, "92c1af19b6ca67441748efc5a9bc24f374debc9f65e84daea39f0ec1c135c3cd"), looks := true }, kinds := [], alts := [], laidByText := true, laidKinds := [.handle], laidTests := true, laidLooks := .later }
def BodyBackCardSaid : Prop := Claim7.holds Tryz.pinned (.plain (OpenSpec.ofChange bodyBackSpec)) bodyBackCard

/-- THE TIED CARD OF 'packtrainkeep.BodyOnly'. -/
def bodyOnlyCard : Claim7 := { stood := { row := bodyOnlyRow, standIns := [], harness := (true, "92c1af19b6ca67441748efc5a9bc24f374debc9f65e84daea39f0ec1c135c3cd"), looks := true }, kinds := [], alts := [], laidByText := true, laidKinds := [.handle], laidTests := true, laidLooks := .later }
def BodyOnlyCardSaid : Prop := Claim7.holds Tryz.pinned (.plain (OpenSpec.ofChange bodyOnlySpec)) bodyOnlyCard

/-- THE TIED CARD OF 'packtrainkeep.BodyCut'. -/
def bodyCutCard : Claim7 := { stood := { row := bodyCutRow, standIns := [], harness := (true, "92c1af19b6ca67441748efc5a9bc24f374debc9f65e84daea39f0ec1c135c3cd"), looks := true }, kinds := [], alts := [], laidByText := true, laidKinds := [.handle], laidTests := true, laidLooks := .later }
def BodyCutCardSaid : Prop := Claim7.holds Tryz.pinned (.plain (OpenSpec.ofChange bodyCutSpec)) bodyCutCard

/-- THE TIED CARD OF 'packtrainkeep.BodyKeys'. -/
def bodyKeysCard : Claim7 := { stood := { row := bodyKeysRow, standIns := [], harness := (true, "92c1af19b6ca67441748efc5a9bc24f374debc9f65e84daea39f0ec1c135c3cd"), looks := true }, kinds := [], alts := [], laidByText := true, laidKinds := [.handle], laidTests := true, laidLooks := .later }
def BodyKeysCardSaid : Prop := Claim7.holds Tryz.pinned (.plain (OpenSpec.ofChange bodyKeysSpec)) bodyKeysCard

/-- THE TIED CARD OF 'packtrainkeep.BodyHead'. -/
def bodyHeadCard : Claim7 := { stood := { row := bodyHeadRow, standIns := [], harness := (true, "92c1af19b6ca67441748efc5a9bc24f374debc9f65e84daea39f0ec1c135c3cd"), looks := true }, kinds := [], alts := [], laidByText := true, laidKinds := [.handle], laidTests := true, laidLooks := .later }
def BodyHeadCardSaid : Prop := Claim7.holds Tryz.pinned (.plain (OpenSpec.ofChange bodyHeadSpec)) bodyHeadCard

/-- THE TIED CARD OF 'packtrainkeep.BodyValues'. -/
def bodyValuesCard : Claim7 := { stood := { row := bodyValuesRow, standIns := [], harness := (true, "92c1af19b6ca67441748efc5a9bc24f374debc9f65e84daea39f0ec1c135c3cd"), looks := true }, kinds := [], alts := [], laidByText := true, laidKinds := [.handle], laidTests := true, laidLooks := .later }
def BodyValuesCardSaid : Prop := Claim7.holds Tryz.pinned (.plain (OpenSpec.ofChange bodyValuesSpec)) bodyValuesCard

/-- THE SECOND FORM's CARD OF 'packtrainlaw.BodyWrites'. -/
def bodyWritesUptoCard : Claim7 := { stood := { row := bodyWritesUptoRow, standIns := [], harness := (true, "92c1af19b6ca67441748efc5a9bc24f374debc9f65e84daea39f0ec1c135c3cd"), looks := true }, kinds := [], alts := [], laidByText := true, laidKinds := [.data, .data, .data, .handle], laidTests := true, laidLooks := .later }
def BodyWritesUptoCardSaid : Prop := Claim7.holds Tryz.pinned (.plain (OpenSpec.upto bodyWritesSpec)) bodyWritesUptoCard

/-- THE SECOND FORM's CARD OF 'packtrainlaw.BodyReads'. -/
def bodyReadsUptoCard : Claim7 := { stood := { row := bodyReadsUptoRow, standIns := [], harness := (true, "92c1af19b6ca67441748efc5a9bc24f374debc9f65e84daea39f0ec1c135c3cd"), looks := true }, kinds := [], alts := [], laidByText := true, laidKinds := [.data, .data, .data, .handle], laidTests := true, laidLooks := .later }
def BodyReadsUptoCardSaid : Prop := Claim7.holds Tryz.pinned (.plain (OpenSpec.upto bodyReadsSpec)) bodyReadsUptoCard

/-- THE SECOND FORM's CARD OF 'packtrainkeep.BodyBack'. -/
def bodyBackUptoCard : Claim7 := { stood := { row := bodyBackUptoRow, standIns := [], harness := (true, "92c1af19b6ca67441748efc5a9bc24f374debc9f65e84daea39f0ec1c135c3cd"), looks := true }, kinds := [], alts := [], laidByText := true, laidKinds := [.handle], laidTests := true, laidLooks := .later }
def BodyBackUptoCardSaid : Prop := Claim7.holds Tryz.pinned (.plain (OpenSpec.upto bodyBackSpec)) bodyBackUptoCard

/-- THE SECOND FORM's CARD OF 'packtrainkeep.BodyOnly'. -/
def bodyOnlyUptoCard : Claim7 := { stood := { row := bodyOnlyUptoRow, standIns := [], harness := (true, "92c1af19b6ca67441748efc5a9bc24f374debc9f65e84daea39f0ec1c135c3cd"), looks := true }, kinds := [], alts := [], laidByText := true, laidKinds := [.handle], laidTests := true, laidLooks := .later }
def BodyOnlyUptoCardSaid : Prop := Claim7.holds Tryz.pinned (.plain (OpenSpec.upto bodyOnlySpec)) bodyOnlyUptoCard

/-- THE SECOND FORM's CARD OF 'packtrainkeep.BodyCut'. -/
def bodyCutUptoCard : Claim7 := { stood := { row := bodyCutUptoRow, standIns := [], harness := (true, "92c1af19b6ca67441748efc5a9bc24f374debc9f65e84daea39f0ec1c135c3cd"), looks := true }, kinds := [], alts := [], laidByText := true, laidKinds := [.handle], laidTests := true, laidLooks := .later }
def BodyCutUptoCardSaid : Prop := Claim7.holds Tryz.pinned (.plain (OpenSpec.upto bodyCutSpec)) bodyCutUptoCard

/-- THE SECOND FORM's CARD OF 'packtrainkeep.BodyKeys'. -/
def bodyKeysUptoCard : Claim7 := { stood := { row := bodyKeysUptoRow, standIns := [], harness := (true, "92c1af19b6ca67441748efc5a9bc24f374debc9f65e84daea39f0ec1c135c3cd"), looks := true }, kinds := [], alts := [], laidByText := true, laidKinds := [.handle], laidTests := true, laidLooks := .later }
def BodyKeysUptoCardSaid : Prop := Claim7.holds Tryz.pinned (.plain (OpenSpec.upto bodyKeysSpec)) bodyKeysUptoCard

/-- THE SECOND FORM's CARD OF 'packtrainkeep.BodyHead'. -/
def bodyHeadUptoCard : Claim7 := { stood := { row := bodyHeadUptoRow, standIns := [], harness := (true, "92c1af19b6ca67441748efc5a9bc24f374debc9f65e84daea39f0ec1c135c3cd"), looks := true }, kinds := [], alts := [], laidByText := true, laidKinds := [.handle], laidTests := true, laidLooks := .later }
def BodyHeadUptoCardSaid : Prop := Claim7.holds Tryz.pinned (.plain (OpenSpec.upto bodyHeadSpec)) bodyHeadUptoCard

/-- THE SECOND FORM's CARD OF 'packtrainkeep.BodyValues'. -/
def bodyValuesUptoCard : Claim7 := { stood := { row := bodyValuesUptoRow, standIns := [], harness := (true, "92c1af19b6ca67441748efc5a9bc24f374debc9f65e84daea39f0ec1c135c3cd"), looks := true }, kinds := [], alts := [], laidByText := true, laidKinds := [.handle], laidTests := true, laidLooks := .later }
def BodyValuesUptoCardSaid : Prop := Claim7.holds Tryz.pinned (.plain (OpenSpec.upto bodyValuesSpec)) bodyValuesUptoCard
end Rows
end Go.Proofs.YtgelfjcmggicdaaGreatDoor
