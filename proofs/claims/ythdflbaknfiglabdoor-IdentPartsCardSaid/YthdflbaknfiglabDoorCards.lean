/-
  DERIVED. GIVEN WITH THE SEED: THE CARDS: each row of YthdflbaknfiglabDoorRows.lean that lists a variable, with what it lists TIED to the program's text (the seventh form; the later family's looks); each row that meets fmt, with fmt's text TOLD by the authors' own Lean function (tested against real Go, not proved from fmt's source: count such statements apart). THE CARD IS WHAT COUNTS. Prove the row's statement (the work); the ties are given (YthdflbaknfiglabDoorTie.lean); close each card by the builder's one call (the guide's Derived/Test/ToyasCard.lean, 'card_holds'). Laid BY PROGRAM, IN A SANDBOX (cutbox-door.mjs). By AI agents, Wed Nov 11 2026. No macro, syntax, notation, axiom, sorry.
-/
import Derived.Test.YthdflbaknfiglabDoorRows
import GoSem.ClaimSeven
namespace Go.Proofs.YthdflbaknfiglabDoor
namespace Rows

/-- THE TIED CARD OF 'packtrainkeep.IdentParts'. -/
def identPartsCard : Claim7 := { stood := { row := identPartsRow, standIns := [], harness := (true, "011e6751e61b1982f5dd1d64677921e6e8fc4fd8acbc905f6b19c2438bb79f4b"), looks := true }, kinds := [], alts := [], laidByText := true, laidKinds := [.handle], laidTests := true, laidLooks := .later }
def IdentPartsCardSaid : Prop := Claim7.holds Tryd.pinned (.plain (OpenSpec.ofChange identPartsSpec)) identPartsCard

/-- THE SECOND FORM's CARD OF 'packtrainkeep.IdentParts'. -/
def identPartsUptoCard : Claim7 := { stood := { row := identPartsUptoRow, standIns := [], harness := (true, "011e6751e61b1982f5dd1d64677921e6e8fc4fd8acbc905f6b19c2438bb79f4b"), looks := true }, kinds := [], alts := [], laidByText := true, laidKinds := [.handle], laidTests := true, laidLooks := .later }
def IdentPartsUptoCardSaid : Prop := Claim7.holds Tryd.pinned (.plain (OpenSpec.upto identPartsSpec)) identPartsUptoCard
end Rows
end Go.Proofs.YthdflbaknfiglabDoor
