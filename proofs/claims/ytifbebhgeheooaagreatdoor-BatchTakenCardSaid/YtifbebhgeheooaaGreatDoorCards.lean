/-
  DERIVED. GIVEN WITH THE SEED: THE CARDS: each row of YtifbebhgeheooaaGreatDoorRows.lean that lists a variable, with what it lists TIED to the program's text (the seventh form; the later family's looks); each row that meets fmt, with fmt's text TOLD by the authors' own Lean function (tested against real Go, not proved from fmt's source: count such statements apart). THE CARD IS WHAT COUNTS. Prove the row's statement (the work); the ties are given (YtifbebhgeheooaaGreatDoorTie.lean); close each card by the builder's one call (the guide's Derived/Test/ToyasCard.lean, 'card_holds'). Laid BY PROGRAM, IN A SANDBOX (cutbox-door.mjs). By AI agents, Wed Nov 11 2026. No macro, syntax, notation, axiom, sorry.
-/
import Derived.Test.YtifbebhgeheooaaGreatDoorRows
import GoSem.ClaimSeven
namespace Go.Proofs.YtifbebhgeheooaaGreatDoor
namespace Rows

/-- THE TIED CARD OF 'packtrainkeep.LogTwo'. -/
def logTwoCard : Claim7 := { stood := { row := logTwoRow, standIns := [], harness := (true, "c4515bd953498166ffcb44d5c38c86429b609bd4d950a6bbb44fcd70e716f721"), looks := true }, kinds := [], alts := [], laidByText := true, laidKinds := [.handle], laidTests := true, laidLooks := .later }
def LogTwoCardSaid : Prop := Claim7.holds Tryz.pinned (.plain (OpenSpec.ofChange logTwoSpec)) logTwoCard

/-- THE TIED CARD OF 'packtrainkeep.LogFull'. -/
def logFullCard : Claim7 := { stood := { row := logFullRow, standIns := [], harness := (true, "c4515bd953498166ffcb44d5c38c86429b609bd4d950a6bbb44fcd70e716f721"), looks := true }, kinds := [], alts := [], laidByText := true, laidKinds := [.handle], laidTests := true, laidLooks := .later }
def LogFullCardSaid : Prop := Claim7.holds Tryz.pinned (.plain (OpenSpec.ofChange logFullSpec)) logFullCard

/-- THE TIED CARD OF 'packtrainkeep.LogLong'. -/
def logLongCard : Claim7 := { stood := { row := logLongRow, standIns := [], harness := (true, "c4515bd953498166ffcb44d5c38c86429b609bd4d950a6bbb44fcd70e716f721"), looks := true }, kinds := [], alts := [], laidByText := true, laidKinds := [.handle], laidTests := true, laidLooks := .later }
def LogLongCardSaid : Prop := Claim7.holds Tryz.pinned (.plain (OpenSpec.ofChange logLongSpec)) logLongCard

/-- THE TIED CARD OF 'packtrainkeep.BatchTaken'. -/
def batchTakenCard : Claim7 := { stood := { row := batchTakenRow, standIns := [], harness := (true, "c4515bd953498166ffcb44d5c38c86429b609bd4d950a6bbb44fcd70e716f721"), looks := true }, kinds := [], alts := [], laidByText := true, laidKinds := [.handle], laidTests := true, laidLooks := .later }
def BatchTakenCardSaid : Prop := Claim7.holds Tryz.pinned (.plain (OpenSpec.ofChange batchTakenSpec)) batchTakenCard

/-- THE TIED CARD OF 'packtrainlaw.LogPlays'. -/
def logPlaysCard : Claim7 := { stood := { row := logPlaysRow, standIns := [], harness := (true, "c4515bd953498166ffcb44d5c38c86429b609bd4d950a6bbb44fcd70e716f721"), looks := true }, kinds := [], alts := [], laidByText := true, laidKinds := [.data, .data, .data, .handle], laidTests := true, laidLooks := .later }
def LogPlaysCardSaid : Prop := Claim7.holds Tryz.pinned (.plain (OpenSpec.ofChange logPlaysSpec)) logPlaysCard

/-- THE SECOND FORM's CARD OF 'packtrainkeep.LogTwo'. -/
def logTwoUptoCard : Claim7 := { stood := { row := logTwoUptoRow, standIns := [], harness := (true, "c4515bd953498166ffcb44d5c38c86429b609bd4d950a6bbb44fcd70e716f721"), looks := true }, kinds := [], alts := [], laidByText := true, laidKinds := [.handle], laidTests := true, laidLooks := .later }
def LogTwoUptoCardSaid : Prop := Claim7.holds Tryz.pinned (.plain (OpenSpec.upto logTwoSpec)) logTwoUptoCard

/-- THE SECOND FORM's CARD OF 'packtrainkeep.LogFull'. -/
def logFullUptoCard : Claim7 := { stood := { row := logFullUptoRow, standIns := [], harness := (true, "c4515bd953498166ffcb44d5c38c86429b609bd4d950a6bbb44fcd70e716f721"), looks := true }, kinds := [], alts := [], laidByText := true, laidKinds := [.handle], laidTests := true, laidLooks := .later }
def LogFullUptoCardSaid : Prop := Claim7.holds Tryz.pinned (.plain (OpenSpec.upto logFullSpec)) logFullUptoCard

/-- THE SECOND FORM's CARD OF 'packtrainkeep.LogLong'. -/
def logLongUptoCard : Claim7 := { stood := { row := logLongUptoRow, standIns := [], harness := (true, "c4515bd953498166ffcb44d5c38c86429b609bd4d950a6bbb44fcd70e716f721"), looks := true }, kinds := [], alts := [], laidByText := true, laidKinds := [.handle], laidTests := true, laidLooks := .later }
def LogLongUptoCardSaid : Prop := Claim7.holds Tryz.pinned (.plain (OpenSpec.upto logLongSpec)) logLongUptoCard

/-- THE SECOND FORM's CARD OF 'packtrainkeep.BatchTaken'. -/
def batchTakenUptoCard : Claim7 := { stood := { row := batchTakenUptoRow, standIns := [], harness := (true, "c4515bd953498166ffcb44d5c38c86429b609bd4d950a6bbb44fcd70e716f721"), looks := true }, kinds := [], alts := [], laidByText := true, laidKinds := [.handle], laidTests := true, laidLooks := .later }
def BatchTakenUptoCardSaid : Prop := Claim7.holds Tryz.pinned (.plain (OpenSpec.upto batchTakenSpec)) batchTakenUptoCard

/-- THE SECOND FORM's CARD OF 'packtrainlaw.LogPlays'. -/
def logPlaysUptoCard : Claim7 := { stood := { row := logPlaysUptoRow, standIns := [], harness := (true, "c4515bd953498166ffcb44d5c38c86429b609bd4d950a6bbb44fcd70e716f721"), looks := true }, kinds := [], alts := [], laidByText := true, laidKinds := [.data, .data, .data, .handle], laidTests := true, laidLooks := .later }
def LogPlaysUptoCardSaid : Prop := Claim7.holds Tryz.pinned (.plain (OpenSpec.upto logPlaysSpec)) logPlaysUptoCard
end Rows
end Go.Proofs.YtifbebhgeheooaaGreatDoor
