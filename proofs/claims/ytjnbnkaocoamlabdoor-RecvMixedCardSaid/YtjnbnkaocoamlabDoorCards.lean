/-
  DERIVED. GIVEN WITH THE SEED: THE CARDS: each row of YtjnbnkaocoamlabDoorRows.lean that lists a variable, with what it lists TIED to the program's text (the seventh form; the later family's looks); each row that meets fmt, with fmt's text TOLD by the authors' own Lean function (tested against real Go, not proved from fmt's source: count such statements apart). THE CARD IS WHAT COUNTS. Prove the row's statement (the work); the ties are given (YtjnbnkaocoamlabDoorTie.lean); close each card by the builder's one call (the guide's Derived/Test/ToyasCard.lean, 'card_holds'). Laid BY PROGRAM, IN A SANDBOX (cutbox-door.mjs). By AI agents, Wed Nov 11 2026. No macro, syntax, notation, axiom, sorry.
-/
import Derived.Test.YtjnbnkaocoamlabDoorRows
import GoSem.ClaimSeven
namespace Go.Proofs.YtjnbnkaocoamlabDoor
namespace Rows

/-- THE TIED CARD OF 'packtrainkeep.RecvMixed'. -/
def recvMixedCard : Claim7 := { stood := { row := recvMixedRow, standIns := [], harness := (true, "2501b5cb58da5fcedda69148e726434b0caee8974fe00a4baff52d077d8b63ae"), looks := true }, kinds := [], alts := [], laidByText := true, laidKinds := [.handle], laidTests := true, laidLooks := .later }
def RecvMixedCardSaid : Prop := Claim7.holds Tryd.pinned (.plain (OpenSpec.ofChange recvMixedSpec)) recvMixedCard

/-- THE SECOND FORM's CARD OF 'packtrainkeep.RecvMixed'. -/
def recvMixedUptoCard : Claim7 := { stood := { row := recvMixedUptoRow, standIns := [], harness := (true, "2501b5cb58da5fcedda69148e726434b0caee8974fe00a4baff52d077d8b63ae"), looks := true }, kinds := [], alts := [], laidByText := true, laidKinds := [.handle], laidTests := true, laidLooks := .later }
def RecvMixedUptoCardSaid : Prop := Claim7.holds Tryd.pinned (.plain (OpenSpec.upto recvMixedSpec)) recvMixedUptoCard
end Rows
end Go.Proofs.YtjnbnkaocoamlabDoor
