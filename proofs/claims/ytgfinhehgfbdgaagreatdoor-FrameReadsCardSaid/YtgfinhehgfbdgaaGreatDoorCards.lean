/-
  DERIVED. GIVEN WITH THE SEED: THE CARDS: each row of YtgfinhehgfbdgaaGreatDoorRows.lean that lists a variable, with what it lists TIED to the program's text (the seventh form; the later family's looks); each row that meets fmt, with fmt's text TOLD by the authors' own Lean function (tested against real Go, not proved from fmt's source: count such statements apart). THE CARD IS WHAT COUNTS. Prove the row's statement (the work); the ties are given (YtgfinhehgfbdgaaGreatDoorTie.lean); close each card by the builder's one call (the guide's Derived/Test/ToyasCard.lean, 'card_holds'). Laid BY PROGRAM, IN A SANDBOX (cutbox-door.mjs). By AI agents, Wed Nov 11 2026. No macro, syntax, notation, axiom, sorry.
-/
import Derived.Test.YtgfinhehgfbdgaaGreatDoorRows
import GoSem.ClaimSeven
namespace Go.Proofs.YtgfinhehgfbdgaaGreatDoor
namespace Rows

/-- THE TIED CARD OF 'packtrainlaw.FrameWrites'. -/
def frameWritesCard : Claim7 := { stood := { row := frameWritesRow, standIns := [], harness := (true, "b696088af41030e69fa40097ef98f12045a12e9887aa6bf9f89466c8bc1f20fb"), looks := true }, kinds := [], alts := [], laidByText := true, laidKinds := [.data, .data, .data, .handle], laidTests := true, laidLooks := .later }
def FrameWritesCardSaid : Prop := Claim7.holds Tryz.pinned (.plain (OpenSpec.ofChange frameWritesSpec)) frameWritesCard

/-- THE TIED CARD OF 'packtrainlaw.FrameReads'. -/
def frameReadsCard : Claim7 := { stood := { row := frameReadsRow, standIns := [], harness := (true, "b696088af41030e69fa40097ef98f12045a12e9887aa6bf9f89466c8bc1f20fb"), looks := true }, kinds := [], alts := [], laidByText := true, laidKinds := [.data, .data, .data, .handle], laidTests := true, laidLooks := .later }
def FrameReadsCardSaid : Prop := Claim7.holds Tryz.pinned (.plain (OpenSpec.ofChange frameReadsSpec)) frameReadsCard

/-- THE TIED CARD OF 'packtrainkeep.FrameOnly'. -/
def frameOnlyCard : Claim7 := { stood := { row := frameOnlyRow, standIns := [], harness := (true, "b696088af41030e69fa40097ef98f12045a12e9887aa6bf9f89466c8bc1f20fb"), looks := true }, kinds := [], alts := [], laidByText := true, laidKinds := [.handle], laidTests := true, laidLooks := .later }
def FrameOnlyCardSaid : Prop := Claim7.holds Tryz.pinned (.plain (OpenSpec.ofChange frameOnlySpec)) frameOnlyCard

/-- THE TIED CARD OF 'packtrainkeep.FrameSmall'. -/
def frameSmallCard : Claim7 := { stood := { row := frameSmallRow, standIns := [], harness := (true, "b696088af41030e69fa40097ef98f12045a12e9887aa6bf9f89466c8bc1f20fb"), looks := true }, kinds := [], alts := [], laidByText := true, laidKinds := [.handle], laidTests := true, laidLooks := .later }
def FrameSmallCardSaid : Prop := Claim7.holds Tryz.pinned (.plain (OpenSpec.ofChange frameSmallSpec)) frameSmallCard

/-- THE TIED CARD OF 'packtrainkeep.FrameCut'. -/
def frameCutCard : Claim7 := { stood := { row := frameCutRow, standIns := [], harness := (true, "b696088af41030e69fa40097ef98f12045a12e9887aa6bf9f89466c8bc1f20fb"), looks := true }, kinds := [], alts := [], laidByText := true, laidKinds := [.handle], laidTests := true, laidLooks := .later }
def FrameCutCardSaid : Prop := Claim7.holds Tryz.pinned (.plain (OpenSpec.ofChange frameCutSpec)) frameCutCard

/-- THE TIED CARD OF 'packtrainkeep.FrameStored'. -/
def frameStoredCard : Claim7 := { stood := { row := frameStoredRow, standIns := [], harness := (true, "b696088af41030e69fa40097ef98f12045a12e9887aa6bf9f89466c8bc1f20fb"), looks := true }, kinds := [], alts := [], laidByText := true, laidKinds := [.handle], laidTests := true, laidLooks := .later }
def FrameStoredCardSaid : Prop := Claim7.holds Tryz.pinned (.plain (OpenSpec.ofChange frameStoredSpec)) frameStoredCard

/-- THE TIED CARD OF 'packtrainkeep.FrameVersions'. -/
def frameVersionsCard : Claim7 := { stood := { row := frameVersionsRow, standIns := [], harness := (true, "b696088af41030e69fa40097ef98f12045a12e9887aa6bf9f89466c8bc1f20fb"), looks := true }, kinds := [], alts := [], laidByText := true, laidKinds := [.handle], laidTests := true, laidLooks := .later }
def FrameVersionsCardSaid : Prop := Claim7.holds Tryz.pinned (.plain (OpenSpec.ofChange frameVersionsSpec)) frameVersionsCard

/-- THE SECOND FORM's CARD OF 'packtrainlaw.FrameWrites'. -/
def frameWritesUptoCard : Claim7 := { stood := { row := frameWritesUptoRow, standIns := [], harness := (true, "b696088af41030e69fa40097ef98f12045a12e9887aa6bf9f89466c8bc1f20fb"), looks := true }, kinds := [], alts := [], laidByText := true, laidKinds := [.data, .data, .data, .handle], laidTests := true, laidLooks := .later }
def FrameWritesUptoCardSaid : Prop := Claim7.holds Tryz.pinned (.plain (OpenSpec.upto frameWritesSpec)) frameWritesUptoCard

/-- THE SECOND FORM's CARD OF 'packtrainlaw.FrameReads'. -/
def frameReadsUptoCard : Claim7 := { stood := { row := frameReadsUptoRow, standIns := [], harness := (true, "b696088af41030e69fa40097ef98f12045a12e9887aa6bf9f89466c8bc1f20fb"), looks := true }, kinds := [], alts := [], laidByText := true, laidKinds := [.data, .data, .data, .handle], laidTests := true, laidLooks := .later }
def FrameReadsUptoCardSaid : Prop := Claim7.holds Tryz.pinned (.plain (OpenSpec.upto frameReadsSpec)) frameReadsUptoCard

/-- THE SECOND FORM's CARD OF 'packtrainkeep.FrameOnly'. -/
def frameOnlyUptoCard : Claim7 := { stood := { row := frameOnlyUptoRow, standIns := [], harness := (true, "b696088af41030e69fa40097ef98f12045a12e9887aa6bf9f89466c8bc1f20fb"), looks := true }, kinds := [], alts := [], laidByText := true, laidKinds := [.handle], laidTests := true, laidLooks := .later }
def FrameOnlyUptoCardSaid : Prop := Claim7.holds Tryz.pinned (.plain (OpenSpec.upto frameOnlySpec)) frameOnlyUptoCard

/-- THE SECOND FORM's CARD OF 'packtrainkeep.FrameSmall'. -/
def frameSmallUptoCard : Claim7 := { stood := { row := frameSmallUptoRow, standIns := [], harness := (true, "b696088af41030e69fa40097ef98f12045a12e9887aa6bf9f89466c8bc1f20fb"), looks := true }, kinds := [], alts := [], laidByText := true, laidKinds := [.handle], laidTests := true, laidLooks := .later }
def FrameSmallUptoCardSaid : Prop := Claim7.holds Tryz.pinned (.plain (OpenSpec.upto frameSmallSpec)) frameSmallUptoCard

/-- THE SECOND FORM's CARD OF 'packtrainkeep.FrameCut'. -/
def frameCutUptoCard : Claim7 := { stood := { row := frameCutUptoRow, standIns := [], harness := (true, "b696088af41030e69fa40097ef98f12045a12e9887aa6bf9f89466c8bc1f20fb"), looks := true }, kinds := [], alts := [], laidByText := true, laidKinds := [.handle], laidTests := true, laidLooks := .later }
def FrameCutUptoCardSaid : Prop := Claim7.holds Tryz.pinned (.plain (OpenSpec.upto frameCutSpec)) frameCutUptoCard

/-- THE SECOND FORM's CARD OF 'packtrainkeep.FrameStored'. -/
def frameStoredUptoCard : Claim7 := { stood := { row := frameStoredUptoRow, standIns := [], harness := (true, "b696088af41030e69fa40097ef98f12045a12e9887aa6bf9f89466c8bc1f20fb"), looks := true }, kinds := [], alts := [], laidByText := true, laidKinds := [.handle], laidTests := true, laidLooks := .later }
def FrameStoredUptoCardSaid : Prop := Claim7.holds Tryz.pinned (.plain (OpenSpec.upto frameStoredSpec)) frameStoredUptoCard

/-- THE SECOND FORM's CARD OF 'packtrainkeep.FrameVersions'. -/
def frameVersionsUptoCard : Claim7 := { stood := { row := frameVersionsUptoRow, standIns := [], harness := (true, "b696088af41030e69fa40097ef98f12045a12e9887aa6bf9f89466c8bc1f20fb"), looks := true }, kinds := [], alts := [], laidByText := true, laidKinds := [.handle], laidTests := true, laidLooks := .later }
def FrameVersionsUptoCardSaid : Prop := Claim7.holds Tryz.pinned (.plain (OpenSpec.upto frameVersionsSpec)) frameVersionsUptoCard
end Rows
end Go.Proofs.YtgfinhehgfbdgaaGreatDoor
