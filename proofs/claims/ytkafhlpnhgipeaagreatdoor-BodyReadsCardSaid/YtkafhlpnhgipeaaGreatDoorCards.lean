/-
  DERIVED. GIVEN WITH THE SEED: THE CARDS: each row of YtkafhlpnhgipeaaGreatDoorRows.lean that lists a variable, with what it lists TIED to the program's text (the seventh form; the later family's looks); each row that meets fmt, with fmt's text TOLD by the authors' own Lean function (tested against real Go, not proved from fmt's source: count such statements apart). THE CARD IS WHAT COUNTS. Prove the row's statement (the work); the ties are given (YtkafhlpnhgipeaaGreatDoorTie.lean); close each card by the builder's one call (the guide's Derived/Test/ToyasCard.lean, 'card_holds'). Laid BY PROGRAM, IN A SANDBOX (cutbox-door.mjs). By AI agents, Wed Nov 11 2026. No macro, syntax, notation, axiom, sorry.
-/
import Derived.Test.YtkafhlpnhgipeaaGreatDoorRows
import GoSem.ClaimSeven
namespace Go.Proofs.YtkafhlpnhgipeaaGreatDoor
namespace Rows

/-- THE TIED CARD OF 'packtrainlaw.BodyWrites'. -/
def bodyWritesCard : Claim7 := { stood := { row := bodyWritesRow, standIns := [], harness := (true, "1e8c08707f54affaf94b0b73d4b2b38faada955a3ba2763f21e53ebb40a454f8"), looks := true }, kinds := [], alts := [], laidByText := true, laidKinds := [.data, .data, .data, .handle], laidTests := true, laidLooks := .later }
def BodyWritesCardSaid : Prop := Claim7.holds Tryz.pinned (.plain (OpenSpec.ofChange bodyWritesSpec)) bodyWritesCard

/-- THE TIED CARD OF 'packtrainlaw.BodyReads'. -/
def bodyReadsCard : Claim7 := { stood := { row := bodyReadsRow, standIns := [], harness := (true, "1e8c08707f54affaf94b0b73d4b2b38faada955a3ba2763f21e53ebb40a454f8"), looks := true }, kinds := [], alts := [], laidByText := true, laidKinds := [.data, .data, .data, .handle], laidTests := true, laidLooks := .later }
def BodyReadsCardSaid : Prop := Claim7.holds Tryz.pinned (.plain (OpenSpec.ofChange bodyReadsSpec)) bodyReadsCard

/-- THE SECOND FORM's CARD OF 'packtrainlaw.BodyWrites'. -/
def bodyWritesUptoCard : Claim7 := { stood := { row := bodyWritesUptoRow, standIns := [], harness := (true, "1e8c08707f54affaf94b0b73d4b2b38faada955a3ba2763f21e53ebb40a454f8"), looks := true }, kinds := [], alts := [], laidByText := true, laidKinds := [.data, .data, .data, .handle], laidTests := true, laidLooks := .later }
def BodyWritesUptoCardSaid : Prop := Claim7.holds Tryz.pinned (.plain (OpenSpec.upto bodyWritesSpec)) bodyWritesUptoCard

/-- THE SECOND FORM's CARD OF 'packtrainlaw.BodyReads'. -/
def bodyReadsUptoCard : Claim7 := { stood := { row := bodyReadsUptoRow, standIns := [], harness := (true, "1e8c08707f54affaf94b0b73d4b2b38faada955a3ba2763f21e53ebb40a454f8"), looks := true }, kinds := [], alts := [], laidByText := true, laidKinds := [.data, .data, .data, .handle], laidTests := true, laidLooks := .later }
def BodyReadsUptoCardSaid : Prop := Claim7.holds Tryz.pinned (.plain (OpenSpec.upto bodyReadsSpec)) bodyReadsUptoCard
end Rows
end Go.Proofs.YtkafhlpnhgipeaaGreatDoor
