/-
  DERIVED. GIVEN WITH THE SEED: THE CARDS: each row of YtjhmlmcibpjagaaDoorRows.lean that lists a variable, with what it lists TIED to the program's text (the seventh form; the later family's looks); each row that meets fmt, with fmt's text TOLD by the authors' own Lean function (tested against real Go, not proved from fmt's source: count such statements apart). THE CARD IS WHAT COUNTS. Prove the row's statement (the work); the ties are given (YtjhmlmcibpjagaaDoorTie.lean); close each card by the builder's one call (the guide's Derived/Test/ToyasCard.lean, 'card_holds'). Laid BY PROGRAM, IN A SANDBOX (cutbox-door.mjs). By AI agents, Wed Nov 11 2026. No macro, syntax, notation, axiom, sorry.
-/
import Derived.Test.YtjhmlmcibpjagaaDoorRows
import GoSem.ClaimSeven
namespace Go.Proofs.YtjhmlmcibpjagaaDoor
namespace Rows

/-- THE TIED CARD OF 'packtrainlaw.LzWrites'. -/
def lzWritesCard : Claim7 := { stood := { row := lzWritesRow, standIns := [], harness := (true, "c9c99e783a32580672c0e9c7e325b276fe59d74404929ec0c66d47f2fc3157d2"), looks := true }, kinds := [], alts := [], laidByText := true, laidKinds := [.handle], laidTests := true, laidLooks := .later }
def LzWritesCardSaid : Prop := Claim7.holds Tryd.pinned (.plain (OpenSpec.ofChange lzWritesSpec)) lzWritesCard

/-- THE TIED CARD OF 'packtrainlaw.LzReads'. -/
def lzReadsCard : Claim7 := { stood := { row := lzReadsRow, standIns := [], harness := (true, "c9c99e783a32580672c0e9c7e325b276fe59d74404929ec0c66d47f2fc3157d2"), looks := true }, kinds := [], alts := [], laidByText := true, laidKinds := [.handle], laidTests := true, laidLooks := .later }
def LzReadsCardSaid : Prop := Claim7.holds Tryd.pinned (.plain (OpenSpec.ofChange lzReadsSpec)) lzReadsCard

/-- THE TIED CARD OF 'packtrainlaw.LzSqueezes'. -/
def lzSqueezesCard : Claim7 := { stood := { row := lzSqueezesRow, standIns := [], harness := (true, "c9c99e783a32580672c0e9c7e325b276fe59d74404929ec0c66d47f2fc3157d2"), looks := true }, kinds := [], alts := [], laidByText := true, laidKinds := [.handle], laidTests := true, laidLooks := .later }
def LzSqueezesCardSaid : Prop := Claim7.holds Tryd.pinned (.plain (OpenSpec.ofChange lzSqueezesSpec)) lzSqueezesCard

/-- THE TIED CARD OF 'packtrainkeep.LzBack'. -/
def lzBackCard : Claim7 := { stood := { row := lzBackRow, standIns := [], harness := (true, "c9c99e783a32580672c0e9c7e325b276fe59d74404929ec0c66d47f2fc3157d2"), looks := true }, kinds := [], alts := [], laidByText := true, laidKinds := [.handle], laidTests := true, laidLooks := .later }
def LzBackCardSaid : Prop := Claim7.holds Tryd.pinned (.plain (OpenSpec.ofChange lzBackSpec)) lzBackCard

/-- THE TIED CARD OF 'packtrainkeep.LzTokens'. -/
def lzTokensCard : Claim7 := { stood := { row := lzTokensRow, standIns := [], harness := (true, "c9c99e783a32580672c0e9c7e325b276fe59d74404929ec0c66d47f2fc3157d2"), looks := true }, kinds := [], alts := [], laidByText := true, laidKinds := [.handle], laidTests := true, laidLooks := .later }
def LzTokensCardSaid : Prop := Claim7.holds Tryd.pinned (.plain (OpenSpec.ofChange lzTokensSpec)) lzTokensCard

/-- THE TIED CARD OF 'packtrainkeep.LzSmall'. -/
def lzSmallCard : Claim7 := { stood := { row := lzSmallRow, standIns := [], harness := (true, "c9c99e783a32580672c0e9c7e325b276fe59d74404929ec0c66d47f2fc3157d2"), looks := true }, kinds := [], alts := [], laidByText := true, laidKinds := [.handle], laidTests := true, laidLooks := .later }
def LzSmallCardSaid : Prop := Claim7.holds Tryd.pinned (.plain (OpenSpec.ofChange lzSmallSpec)) lzSmallCard

/-- THE TIED CARD OF 'packtrainkeep.LzJoins'. -/
def lzJoinsCard : Claim7 := { stood := { row := lzJoinsRow, standIns := [], harness := (true, "c9c99e783a32580672c0e9c7e325b276fe59d74404929ec0c66d47f2fc3157d2"), looks := true }, kinds := [], alts := [], laidByText := true, laidKinds := [.handle], laidTests := true, laidLooks := .later }
def LzJoinsCardSaid : Prop := Claim7.holds Tryd.pinned (.plain (OpenSpec.ofChange lzJoinsSpec)) lzJoinsCard

/-- THE TIED CARD OF 'packtrainkeep.LzLong'. -/
def lzLongCard : Claim7 := { stood := { row := lzLongRow, standIns := [], harness := (true, "c9c99e783a32580672c0e9c7e325b276fe59d74404929ec0c66d47f2fc3157d2"), looks := true }, kinds := [], alts := [], laidByText := true, laidKinds := [.handle], laidTests := true, laidLooks := .later }
def LzLongCardSaid : Prop := Claim7.holds Tryd.pinned (.plain (OpenSpec.ofChange lzLongSpec)) lzLongCard

/-- THE SECOND FORM's CARD OF 'packtrainlaw.LzWrites'. -/
def lzWritesUptoCard : Claim7 := { stood := { row := lzWritesUptoRow, standIns := [], harness := (true, "c9c99e783a32580672c0e9c7e325b276fe59d74404929ec0c66d47f2fc3157d2"), looks := true }, kinds := [], alts := [], laidByText := true, laidKinds := [.handle], laidTests := true, laidLooks := .later }
def LzWritesUptoCardSaid : Prop := Claim7.holds Tryd.pinned (.plain (OpenSpec.upto lzWritesSpec)) lzWritesUptoCard

/-- THE SECOND FORM's CARD OF 'packtrainlaw.LzReads'. -/
def lzReadsUptoCard : Claim7 := { stood := { row := lzReadsUptoRow, standIns := [], harness := (true, "c9c99e783a32580672c0e9c7e325b276fe59d74404929ec0c66d47f2fc3157d2"), looks := true }, kinds := [], alts := [], laidByText := true, laidKinds := [.handle], laidTests := true, laidLooks := .later }
def LzReadsUptoCardSaid : Prop := Claim7.holds Tryd.pinned (.plain (OpenSpec.upto lzReadsSpec)) lzReadsUptoCard

/-- THE SECOND FORM's CARD OF 'packtrainlaw.LzSqueezes'. -/
def lzSqueezesUptoCard : Claim7 := { stood := { row := lzSqueezesUptoRow, standIns := [], harness := (true, "c9c99e783a32580672c0e9c7e325b276fe59d74404929ec0c66d47f2fc3157d2"), looks := true }, kinds := [], alts := [], laidByText := true, laidKinds := [.handle], laidTests := true, laidLooks := .later }
def LzSqueezesUptoCardSaid : Prop := Claim7.holds Tryd.pinned (.plain (OpenSpec.upto lzSqueezesSpec)) lzSqueezesUptoCard

/-- THE SECOND FORM's CARD OF 'packtrainkeep.LzBack'. -/
def lzBackUptoCard : Claim7 := { stood := { row := lzBackUptoRow, standIns := [], harness := (true, "c9c99e783a32580672c0e9c7e325b276fe59d74404929ec0c66d47f2fc3157d2"), looks := true }, kinds := [], alts := [], laidByText := true, laidKinds := [.handle], laidTests := true, laidLooks := .later }
def LzBackUptoCardSaid : Prop := Claim7.holds Tryd.pinned (.plain (OpenSpec.upto lzBackSpec)) lzBackUptoCard

/-- THE SECOND FORM's CARD OF 'packtrainkeep.LzTokens'. -/
def lzTokensUptoCard : Claim7 := { stood := { row := lzTokensUptoRow, standIns := [], harness := (true, "c9c99e783a32580672c0e9c7e325b276fe59d74404929ec0c66d47f2fc3157d2"), looks := true }, kinds := [], alts := [], laidByText := true, laidKinds := [.handle], laidTests := true, laidLooks := .later }
def LzTokensUptoCardSaid : Prop := Claim7.holds Tryd.pinned (.plain (OpenSpec.upto lzTokensSpec)) lzTokensUptoCard

/-- THE SECOND FORM's CARD OF 'packtrainkeep.LzSmall'. -/
def lzSmallUptoCard : Claim7 := { stood := { row := lzSmallUptoRow, standIns := [], harness := (true, "c9c99e783a32580672c0e9c7e325b276fe59d74404929ec0c66d47f2fc3157d2"), looks := true }, kinds := [], alts := [], laidByText := true, laidKinds := [.handle], laidTests := true, laidLooks := .later }
def LzSmallUptoCardSaid : Prop := Claim7.holds Tryd.pinned (.plain (OpenSpec.upto lzSmallSpec)) lzSmallUptoCard

/-- THE SECOND FORM's CARD OF 'packtrainkeep.LzJoins'. -/
def lzJoinsUptoCard : Claim7 := { stood := { row := lzJoinsUptoRow, standIns := [], harness := (true, "c9c99e783a32580672c0e9c7e325b276fe59d74404929ec0c66d47f2fc3157d2"), looks := true }, kinds := [], alts := [], laidByText := true, laidKinds := [.handle], laidTests := true, laidLooks := .later }
def LzJoinsUptoCardSaid : Prop := Claim7.holds Tryd.pinned (.plain (OpenSpec.upto lzJoinsSpec)) lzJoinsUptoCard

/-- THE SECOND FORM's CARD OF 'packtrainkeep.LzLong'. -/
def lzLongUptoCard : Claim7 := { stood := { row := lzLongUptoRow, standIns := [], harness := (true, "c9c99e783a32580672c0e9c7e325b276fe59d74404929ec0c66d47f2fc3157d2"), looks := true }, kinds := [], alts := [], laidByText := true, laidKinds := [.handle], laidTests := true, laidLooks := .later }
def LzLongUptoCardSaid : Prop := Claim7.holds Tryd.pinned (.plain (OpenSpec.upto lzLongSpec)) lzLongUptoCard
end Rows
end Go.Proofs.YtjhmlmcibpjagaaDoor
