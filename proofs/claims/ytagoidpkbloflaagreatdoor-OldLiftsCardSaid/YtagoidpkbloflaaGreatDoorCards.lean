/-
  DERIVED. GIVEN WITH THE SEED: THE CARDS: each row of YtagoidpkbloflaaGreatDoorRows.lean that lists a variable, with what it lists TIED to the program's text (the seventh form; the later family's looks); each row that meets fmt, with fmt's text TOLD by the authors' own Lean function (tested against real Go, not proved from fmt's source: count such statements apart). THE CARD IS WHAT COUNTS. Prove the row's statement (the work); the ties are given (YtagoidpkbloflaaGreatDoorTie.lean); close each card by the builder's one call (the guide's Derived/Test/ToyasCard.lean, 'card_holds'). Laid BY PROGRAM, IN A SANDBOX (cutbox-door.mjs). By AI agents, Wed Nov 11 2026. No macro, syntax, notation, axiom, sorry.
-/
import Derived.Test.YtagoidpkbloflaaGreatDoorRows
import GoSem.ClaimSeven
namespace Go.Proofs.YtagoidpkbloflaaGreatDoor
namespace Rows

/-- THE TIED CARD OF 'packtrainlaw.OldLifts'. -/
def oldLiftsCard : Claim7 := { stood := { row := oldLiftsRow, standIns := [], harness := (true, "dfa4e3932d06b8fce5858ea39ee5cda6b7cd6fb74d5a689f67f11cc1addfd315"), looks := true }, kinds := [], alts := [], laidByText := true, laidKinds := [.data, .data, .data, .handle], laidTests := true, laidLooks := .later }
def OldLiftsCardSaid : Prop := Claim7.holds Tryz.pinned (.plain (OpenSpec.ofChange oldLiftsSpec)) oldLiftsCard

/-- THE SECOND FORM's CARD OF 'packtrainlaw.OldLifts'. -/
def oldLiftsUptoCard : Claim7 := { stood := { row := oldLiftsUptoRow, standIns := [], harness := (true, "dfa4e3932d06b8fce5858ea39ee5cda6b7cd6fb74d5a689f67f11cc1addfd315"), looks := true }, kinds := [], alts := [], laidByText := true, laidKinds := [.data, .data, .data, .handle], laidTests := true, laidLooks := .later }
def OldLiftsUptoCardSaid : Prop := Claim7.holds Tryz.pinned (.plain (OpenSpec.upto oldLiftsSpec)) oldLiftsUptoCard
end Rows
end Go.Proofs.YtagoidpkbloflaaGreatDoor
