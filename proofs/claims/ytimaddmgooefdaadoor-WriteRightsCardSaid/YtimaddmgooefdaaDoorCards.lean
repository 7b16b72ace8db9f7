/-
  DERIVED. GIVEN WITH THE SEED: THE CARDS: each row of YtimaddmgooefdaaDoorRows.lean that lists a variable, with what it lists TIED to the program's text (the seventh form; the later family's looks); each row that meets fmt, with fmt's text TOLD by the authors' own Lean function (tested against real Go, not proved from fmt's source: count such statements apart). THE CARD IS WHAT COUNTS. Prove the row's statement (the work); the ties are given (YtimaddmgooefdaaDoorTie.lean); close each card by the builder's one call (the guide's Derived/Test/ToyasCard.lean, 'card_holds'). Laid BY PROGRAM, IN A SANDBOX (cutbox-door.mjs). By AI agents, Wed Nov 11 2026. No macro, syntax, notation, axiom, sorry.
-/
import Derived.Test.YtimaddmgooefdaaDoorRows
import GoSem.ClaimSeven
namespace Go.Proofs.YtimaddmgooefdaaDoor
namespace Rows

/-- THE TIED CARD OF 'packtrainlaw.KeysLists'. -/
def keysListsCard : Claim7 := { stood := { row := keysListsRow, standIns := [], harness := (true, "d6fefe12772d91925877ebfa780c57257388450f562fab335005d97ab76afb84"), looks := true }, kinds := [], alts := [], laidByText := true, laidKinds := [.handle], laidTests := true, laidLooks := .later }
def KeysListsCardSaid : Prop := Claim7.holds Tryd.pinned (.plain (OpenSpec.ofChange keysListsSpec)) keysListsCard

/-- THE TIED CARD OF 'packtrainkeep.KeysBack'. -/
def keysBackCard : Claim7 := { stood := { row := keysBackRow, standIns := [], harness := (true, "d6fefe12772d91925877ebfa780c57257388450f562fab335005d97ab76afb84"), looks := true }, kinds := [], alts := [], laidByText := true, laidKinds := [.handle], laidTests := true, laidLooks := .later }
def KeysBackCardSaid : Prop := Claim7.holds Tryd.pinned (.plain (OpenSpec.ofChange keysBackSpec)) keysBackCard

/-- THE TIED CARD OF 'packtrainkeep.KeysOnly'. -/
def keysOnlyCard : Claim7 := { stood := { row := keysOnlyRow, standIns := [], harness := (true, "d6fefe12772d91925877ebfa780c57257388450f562fab335005d97ab76afb84"), looks := true }, kinds := [], alts := [], laidByText := true, laidKinds := [.handle], laidTests := true, laidLooks := .later }
def KeysOnlyCardSaid : Prop := Claim7.holds Tryd.pinned (.plain (OpenSpec.ofChange keysOnlySpec)) keysOnlyCard

/-- THE TIED CARD OF 'packtrainkeep.KeysFew'. -/
def keysFewCard : Claim7 := { stood := { row := keysFewRow, standIns := [], harness := (true, "d6fefe12772d91925877ebfa780c57257388450f562fab335005d97ab76afb84"), looks := true }, kinds := [], alts := [], laidByText := true, laidKinds := [.handle], laidTests := true, laidLooks := .later }
def KeysFewCardSaid : Prop := Claim7.holds Tryd.pinned (.plain (OpenSpec.ofChange keysFewSpec)) keysFewCard

/-- THE TIED CARD OF 'packtrainkeep.KeysNumbers'. -/
def keysNumbersCard : Claim7 := { stood := { row := keysNumbersRow, standIns := [], harness := (true, "d6fefe12772d91925877ebfa780c57257388450f562fab335005d97ab76afb84"), looks := true }, kinds := [], alts := [], laidByText := true, laidKinds := [.handle], laidTests := true, laidLooks := .later }
def KeysNumbersCardSaid : Prop := Claim7.holds Tryd.pinned (.plain (OpenSpec.ofChange keysNumbersSpec)) keysNumbersCard

/-- THE TIED CARD OF 'packtrainlaw.WriteRights'. -/
def writeRightsCard : Claim7 := { stood := { row := writeRightsRow, standIns := [], harness := (true, "d6fefe12772d91925877ebfa780c57257388450f562fab335005d97ab76afb84"), looks := true }, kinds := [], alts := [], laidByText := true, laidKinds := [.data, .data, .data, .handle], laidTests := true, laidLooks := .later }
def WriteRightsCardSaid : Prop := Claim7.holds Tryd.pinned (.plain (OpenSpec.ofChange writeRightsSpec)) writeRightsCard

/-- THE TIED CARD OF 'packtrainlaw.WriteFills'. -/
def writeFillsCard : Claim7 := { stood := { row := writeFillsRow, standIns := [], harness := (true, "d6fefe12772d91925877ebfa780c57257388450f562fab335005d97ab76afb84"), looks := true }, kinds := [], alts := [], laidByText := true, laidKinds := [.data, .data, .data, .handle], laidTests := true, laidLooks := .later }
def WriteFillsCardSaid : Prop := Claim7.holds Tryd.pinned (.plain (OpenSpec.ofChange writeFillsSpec)) writeFillsCard

/-- THE SECOND FORM's CARD OF 'packtrainlaw.KeysLists'. -/
def keysListsUptoCard : Claim7 := { stood := { row := keysListsUptoRow, standIns := [], harness := (true, "d6fefe12772d91925877ebfa780c57257388450f562fab335005d97ab76afb84"), looks := true }, kinds := [], alts := [], laidByText := true, laidKinds := [.handle], laidTests := true, laidLooks := .later }
def KeysListsUptoCardSaid : Prop := Claim7.holds Tryd.pinned (.plain (OpenSpec.upto keysListsSpec)) keysListsUptoCard

/-- THE SECOND FORM's CARD OF 'packtrainkeep.KeysBack'. -/
def keysBackUptoCard : Claim7 := { stood := { row := keysBackUptoRow, standIns := [], harness := (true, "d6fefe12772d91925877ebfa780c57257388450f562fab335005d97ab76afb84"), looks := true }, kinds := [], alts := [], laidByText := true, laidKinds := [.handle], laidTests := true, laidLooks := .later }
def KeysBackUptoCardSaid : Prop := Claim7.holds Tryd.pinned (.plain (OpenSpec.upto keysBackSpec)) keysBackUptoCard

/-- THE SECOND FORM's CARD OF 'packtrainkeep.KeysOnly'. -/
def keysOnlyUptoCard : Claim7 := { stood := { row := keysOnlyUptoRow, standIns := [], harness := (true, "d6fefe12772d91925877ebfa780c57257388450f562fab335005d97ab76afb84"), looks := true }, kinds := [], alts := [], laidByText := true, laidKinds := [.handle], laidTests := true, laidLooks := .later }
def KeysOnlyUptoCardSaid : Prop := Claim7.holds Tryd.pinned (.plain (OpenSpec.upto keysOnlySpec)) keysOnlyUptoCard

/-- THE SECOND FORM's CARD OF 'packtrainkeep.KeysFew'. -/
def keysFewUptoCard : Claim7 := { stood := { row := keysFewUptoRow, standIns := [], harness := (true, "d6fefe12772d91925877ebfa780c57257388450f562fab335005d97ab76afb84"), looks := true }, kinds := [], alts := [], laidByText := true, laidKinds := [.handle], laidTests := true, laidLooks := .later }
def KeysFewUptoCardSaid : Prop := Claim7.holds Tryd.pinned (.plain (OpenSpec.upto keysFewSpec)) keysFewUptoCard

/-- THE SECOND FORM's CARD OF 'packtrainkeep.KeysNumbers'. -/
def keysNumbersUptoCard : Claim7 := { stood := { row := keysNumbersUptoRow, standIns := [], harness := (true, "d6fefe12772d91925877ebfa780c57257388450f562fab335005d97ab76afb84"), looks := true }, kinds := [], alts := [], laidByText := true, laidKinds := [.handle], laidTests := true, laidLooks := .later }
def KeysNumbersUptoCardSaid : Prop := Claim7.holds Tryd.pinned (.plain (OpenSpec.upto keysNumbersSpec)) keysNumbersUptoCard

/-- THE SECOND FORM's CARD OF 'packtrainlaw.WriteRights'. -/
def writeRightsUptoCard : Claim7 := { stood := { row := writeRightsUptoRow, standIns := [], harness := (true, "d6fefe12772d91925877ebfa780c57257388450f562fab335005d97ab76afb84"), looks := true }, kinds := [], alts := [], laidByText := true, laidKinds := [.data, .data, .data, .handle], laidTests := true, laidLooks := .later }
def WriteRightsUptoCardSaid : Prop := Claim7.holds Tryd.pinned (.plain (OpenSpec.upto writeRightsSpec)) writeRightsUptoCard

/-- THE SECOND FORM's CARD OF 'packtrainlaw.WriteFills'. -/
def writeFillsUptoCard : Claim7 := { stood := { row := writeFillsUptoRow, standIns := [], harness := (true, "d6fefe12772d91925877ebfa780c57257388450f562fab335005d97ab76afb84"), looks := true }, kinds := [], alts := [], laidByText := true, laidKinds := [.data, .data, .data, .handle], laidTests := true, laidLooks := .later }
def WriteFillsUptoCardSaid : Prop := Claim7.holds Tryd.pinned (.plain (OpenSpec.upto writeFillsSpec)) writeFillsUptoCard
end Rows
end Go.Proofs.YtimaddmgooefdaaDoor
