/-
  DERIVED. GIVEN WITH THE SEED: THE CARDS: each row of YtjkbmfpomgcblaaGreatDoorRows.lean that lists a variable, with what it lists TIED to the program's text (the seventh form; the later family's looks); each row that meets fmt, with fmt's text TOLD by the authors' own Lean function (tested against real Go, not proved from fmt's source: count such statements apart). THE CARD IS WHAT COUNTS. Prove the row's statement (the work); the ties are given (YtjkbmfpomgcblaaGreatDoorTie.lean); close each card by the builder's one call (the guide's Derived/Test/ToyasCard.lean, 'card_holds'). Laid BY PROGRAM, IN A SANDBOX (cutbox-door.mjs). By AI agents, Wed Nov 11 2026. No macro, syntax, notation, axiom, sorry.
-/
import Derived.Test.YtjkbmfpomgcblaaGreatDoorRows
import GoSem.ClaimSeven
namespace Go.Proofs.YtjkbmfpomgcblaaGreatDoor
namespace Rows

/-- THE TIED CARD OF 'packtrainkeep.FrameBack'. -/
def frameBackCard : Claim7 := { stood := { row := frameBackRow, standIns := [], harness := (true, "8dee4001d6f1307056358321be2873f61f806532ad9d2ec7b42849f4c5189505"), looks := true }, kinds := [], alts := [], laidByText := true, laidKinds := [.handle], laidTests := true, laidLooks := .later }
def FrameBackCardSaid : Prop := Claim7.holds Tryz.pinned (.plain (OpenSpec.ofChange frameBackSpec)) frameBackCard

/-- THE TIED CARD OF 'packtrainkeep.FrameTurned'. -/
def frameTurnedCard : Claim7 := { stood := { row := frameTurnedRow, standIns := [], harness := (true, "8dee4001d6f1307056358321be2873f61f806532ad9d2ec7b42849f4c5189505"), looks := true }, kinds := [], alts := [], laidByText := true, laidKinds := [.handle], laidTests := true, laidLooks := .later }
def FrameTurnedCardSaid : Prop := Claim7.holds Tryz.pinned (.plain (OpenSpec.ofChange frameTurnedSpec)) frameTurnedCard

/-- THE TIED CARD OF 'packtrainkeep.FrameInside'. -/
def frameInsideCard : Claim7 := { stood := { row := frameInsideRow, standIns := [], harness := (true, "8dee4001d6f1307056358321be2873f61f806532ad9d2ec7b42849f4c5189505"), looks := true }, kinds := [], alts := [], laidByText := true, laidKinds := [.handle], laidTests := true, laidLooks := .later }
def FrameInsideCardSaid : Prop := Claim7.holds Tryz.pinned (.plain (OpenSpec.ofChange frameInsideSpec)) frameInsideCard

/-- THE TIED CARD OF 'packtrainlaw.OldWrites'. -/
def oldWritesCard : Claim7 := { stood := { row := oldWritesRow, standIns := [], harness := (true, "8dee4001d6f1307056358321be2873f61f806532ad9d2ec7b42849f4c5189505"), looks := true }, kinds := [], alts := [], laidByText := true, laidKinds := [.data, .data, .data, .handle], laidTests := true, laidLooks := .later }
def OldWritesCardSaid : Prop := Claim7.holds Tryz.pinned (.plain (OpenSpec.ofChange oldWritesSpec)) oldWritesCard

/-- THE TIED CARD OF 'packtrainlaw.OldReads'. -/
def oldReadsCard : Claim7 := { stood := { row := oldReadsRow, standIns := [], harness := (true, "8dee4001d6f1307056358321be2873f61f806532ad9d2ec7b42849f4c5189505"), looks := true }, kinds := [], alts := [], laidByText := true, laidKinds := [.data, .data, .data, .handle], laidTests := true, laidLooks := .later }
def OldReadsCardSaid : Prop := Claim7.holds Tryz.pinned (.plain (OpenSpec.ofChange oldReadsSpec)) oldReadsCard

/-- THE TIED CARD OF 'packtrainlaw.OldLifts'. -/
def oldLiftsCard : Claim7 := { stood := { row := oldLiftsRow, standIns := [], harness := (true, "8dee4001d6f1307056358321be2873f61f806532ad9d2ec7b42849f4c5189505"), looks := true }, kinds := [], alts := [], laidByText := true, laidKinds := [.data, .data, .data, .handle], laidTests := true, laidLooks := .later }
def OldLiftsCardSaid : Prop := Claim7.holds Tryz.pinned (.plain (OpenSpec.ofChange oldLiftsSpec)) oldLiftsCard

/-- THE TIED CARD OF 'packtrainkeep.OldLift'. -/
def oldLiftCard : Claim7 := { stood := { row := oldLiftRow, standIns := [], harness := (true, "8dee4001d6f1307056358321be2873f61f806532ad9d2ec7b42849f4c5189505"), looks := true }, kinds := [], alts := [], laidByText := true, laidKinds := [.handle], laidTests := true, laidLooks := .later }
def OldLiftCardSaid : Prop := Claim7.holds Tryz.pinned (.plain (OpenSpec.ofChange oldLiftSpec)) oldLiftCard

/-- THE TIED CARD OF 'packtrainkeep.OldOnly'. -/
def oldOnlyCard : Claim7 := { stood := { row := oldOnlyRow, standIns := [], harness := (true, "8dee4001d6f1307056358321be2873f61f806532ad9d2ec7b42849f4c5189505"), looks := true }, kinds := [], alts := [], laidByText := true, laidKinds := [.handle], laidTests := true, laidLooks := .later }
def OldOnlyCardSaid : Prop := Claim7.holds Tryz.pinned (.plain (OpenSpec.ofChange oldOnlySpec)) oldOnlyCard

/-- THE TIED CARD OF 'packtrainkeep.OldApart'. -/
def oldApartCard : Claim7 := { stood := { row := oldApartRow, standIns := [], harness := (true, "8dee4001d6f1307056358321be2873f61f806532ad9d2ec7b42849f4c5189505"), looks := true }, kinds := [], alts := [], laidByText := true, laidKinds := [.handle], laidTests := true, laidLooks := .later }
def OldApartCardSaid : Prop := Claim7.holds Tryz.pinned (.plain (OpenSpec.ofChange oldApartSpec)) oldApartCard

/-- THE SECOND FORM's CARD OF 'packtrainkeep.FrameBack'. -/
def frameBackUptoCard : Claim7 := { stood := { row := frameBackUptoRow, standIns := [], harness := (true, "8dee4001d6f1307056358321be2873f61f806532ad9d2ec7b42849f4c5189505"), looks := true }, kinds := [], alts := [], laidByText := true, laidKinds := [.handle], laidTests := true, laidLooks := .later }
def FrameBackUptoCardSaid : Prop := Claim7.holds Tryz.pinned (.plain (OpenSpec.upto frameBackSpec)) frameBackUptoCard

/-- THE SECOND FORM's CARD OF 'packtrainkeep.FrameTurned'. -/
def frameTurnedUptoCard : Claim7 := { stood := { row := frameTurnedUptoRow, standIns := [], harness := (true, "8dee4001d6f1307056358321be2873f61f806532ad9d2ec7b42849f4c5189505"), looks := true }, kinds := [], alts := [], laidByText := true, laidKinds := [.handle], laidTests := true, laidLooks := .later }
def FrameTurnedUptoCardSaid : Prop := Claim7.holds Tryz.pinned (.plain (OpenSpec.upto frameTurnedSpec)) frameTurnedUptoCard

/-- THE SECOND FORM's CARD OF 'packtrainkeep.FrameInside'. -/
def frameInsideUptoCard : Claim7 := { stood := { row := frameInsideUptoRow, standIns := [], harness := (true, "8dee4001d6f1307056358321be2873f61f806532ad9d2ec7b42849f4c5189505"), looks := true }, kinds := [], alts := [], laidByText := true, laidKinds := [.handle], laidTests := true, laidLooks := .later }
def FrameInsideUptoCardSaid : Prop := Claim7.holds Tryz.pinned (.plain (OpenSpec.upto frameInsideSpec)) frameInsideUptoCard

/-- THE SECOND FORM's CARD OF 'packtrainlaw.OldWrites'. -/
def oldWritesUptoCard : Claim7 := { stood := { row := oldWritesUptoRow, standIns := [], harness := (true, "8dee4001d6f1307056358321be2873f61f806532ad9d2ec7b42849f4c5189505"), looks := true }, kinds := [], alts := [], laidByText := true, laidKinds := [.data, .data, .data, .handle], laidTests := true, laidLooks := .later }
def OldWritesUptoCardSaid : Prop := Claim7.holds Tryz.pinned (.plain (OpenSpec.upto oldWritesSpec)) oldWritesUptoCard

/-- THE SECOND FORM's CARD OF 'packtrainlaw.OldReads'. -/
def oldReadsUptoCard : Claim7 := { stood := { row := oldReadsUptoRow, standIns := [], harness := (true, "8dee4001d6f1307056358321be2873f61f806532ad9d2ec7b42849f4c5189505"), looks := true }, kinds := [], alts := [], laidByText := true, laidKinds := [.data, .data, .data, .handle], laidTests := true, laidLooks := .later }
def OldReadsUptoCardSaid : Prop := Claim7.holds Tryz.pinned (.plain (OpenSpec.upto oldReadsSpec)) oldReadsUptoCard

/-- THE SECOND FORM's CARD OF 'packtrainlaw.OldLifts'. -/
def oldLiftsUptoCard : Claim7 := { stood := { row := oldLiftsUptoRow, standIns := [], harness := (true, "8dee4001d6f1307056358321be2873f61f806532ad9d2ec7b42849f4c5189505"), looks := true }, kinds := [], alts := [], laidByText := true, laidKinds := [.data, .data, .data, .handle], laidTests := true, laidLooks := .later }
def OldLiftsUptoCardSaid : Prop := Claim7.holds Tryz.pinned (.plain (OpenSpec.upto oldLiftsSpec)) oldLiftsUptoCard

/-- THE SECOND FORM's CARD OF 'packtrainkeep.OldLift'. -/
def oldLiftUptoCard : Claim7 := { stood := { row := oldLiftUptoRow, standIns := [], harness := (true, "8dee4001d6f1307056358321be2873f61f806532ad9d2ec7b42849f4c5189505"), looks := true }, kinds := [], alts := [], laidByText := true, laidKinds := [.handle], laidTests := true, laidLooks := .later }
def OldLiftUptoCardSaid : Prop := Claim7.holds Tryz.pinned (.plain (OpenSpec.upto oldLiftSpec)) oldLiftUptoCard

/-- THE SECOND FORM's CARD OF 'packtrainkeep.OldOnly'. -/
def oldOnlyUptoCard : Claim7 := { stood := { row := oldOnlyUptoRow, standIns := [], harness := (true, "8dee4001d6f1307056358321be2873f61f806532ad9d2ec7b42849f4c5189505"), looks := true }, kinds := [], alts := [], laidByText := true, laidKinds := [.handle], laidTests := true, laidLooks := .later }
def OldOnlyUptoCardSaid : Prop := Claim7.holds Tryz.pinned (.plain (OpenSpec.upto oldOnlySpec)) oldOnlyUptoCard

/-- THE SECOND FORM's CARD OF 'packtrainkeep.OldApart'. -/
def oldApartUptoCard : Claim7 := { stood := { row := oldApartUptoRow, standIns := [], harness := (true, "8dee4001d6f1307056358321be2873f61f806532ad9d2ec7b42849f4c5189505"), looks := true }, kinds := [], alts := [], laidByText := true, laidKinds := [.handle], laidTests := true, laidLooks := .later }
def OldApartUptoCardSaid : Prop := Claim7.holds Tryz.pinned (.plain (OpenSpec.upto oldApartSpec)) oldApartUptoCard
end Rows
end Go.Proofs.YtjkbmfpomgcblaaGreatDoor
