/-
  DERIVED. GIVEN WITH THE SEED: THE CARDS: each row of YthdflbaknfiglaaDoorRows.lean that lists a variable, with what it lists TIED to the program's text (the seventh form; the later family's looks); each row that meets fmt, with fmt's text TOLD by the authors' own Lean function (tested against real Go, not proved from fmt's source: count such statements apart). THE CARD IS WHAT COUNTS. Prove the row's statement (the work); the ties are given (YthdflbaknfiglaaDoorTie.lean); close each card by the builder's one call (the guide's Derived/Test/ToyasCard.lean, 'card_holds'). Laid BY PROGRAM, IN A SANDBOX (cutbox-door.mjs). By AI agents, Wed Nov 11 2026. No macro, syntax, notation, axiom, sorry.
-/
import Derived.Test.YthdflbaknfiglaaDoorRows
import GoSem.ClaimSeven
namespace Go.Proofs.YthdflbaknfiglaaDoor
namespace Rows

/-- THE TIED CARD OF 'packtrainlaw.VectorRights'. -/
def vectorRightsCard : Claim7 := { stood := { row := vectorRightsRow, standIns := [], harness := (true, "7b2046a3578c7a77eabbc723d927e7e9f48996fe6ea6882f72384b99003d8fe0"), looks := true }, kinds := [], alts := [], laidByText := true, laidKinds := [.handle], laidTests := true, laidLooks := .later }
def VectorRightsCardSaid : Prop := Claim7.holds Tryd.pinned (.plain (OpenSpec.ofChange vectorRightsSpec)) vectorRightsCard

/-- THE TIED CARD OF 'packtrainlaw.VectorJoins'. -/
def vectorJoinsCard : Claim7 := { stood := { row := vectorJoinsRow, standIns := [], harness := (true, "7b2046a3578c7a77eabbc723d927e7e9f48996fe6ea6882f72384b99003d8fe0"), looks := true }, kinds := [], alts := [], laidByText := true, laidKinds := [.handle], laidTests := true, laidLooks := .later }
def VectorJoinsCardSaid : Prop := Claim7.holds Tryd.pinned (.plain (OpenSpec.ofChange vectorJoinsSpec)) vectorJoinsCard

/-- THE TIED CARD OF 'packtrainlaw.VectorWrites'. -/
def vectorWritesCard : Claim7 := { stood := { row := vectorWritesRow, standIns := [], harness := (true, "7b2046a3578c7a77eabbc723d927e7e9f48996fe6ea6882f72384b99003d8fe0"), looks := true }, kinds := [], alts := [], laidByText := true, laidKinds := [.handle], laidTests := true, laidLooks := .later }
def VectorWritesCardSaid : Prop := Claim7.holds Tryd.pinned (.plain (OpenSpec.ofChange vectorWritesSpec)) vectorWritesCard

/-- THE TIED CARD OF 'packtrainlaw.VectorReads'. -/
def vectorReadsCard : Claim7 := { stood := { row := vectorReadsRow, standIns := [], harness := (true, "7b2046a3578c7a77eabbc723d927e7e9f48996fe6ea6882f72384b99003d8fe0"), looks := true }, kinds := [], alts := [], laidByText := true, laidKinds := [.handle], laidTests := true, laidLooks := .later }
def VectorReadsCardSaid : Prop := Claim7.holds Tryd.pinned (.plain (OpenSpec.ofChange vectorReadsSpec)) vectorReadsCard

/-- THE TIED CARD OF 'packtrainkeep.VectorBack'. -/
def vectorBackCard : Claim7 := { stood := { row := vectorBackRow, standIns := [], harness := (true, "7b2046a3578c7a77eabbc723d927e7e9f48996fe6ea6882f72384b99003d8fe0"), looks := true }, kinds := [], alts := [], laidByText := true, laidKinds := [.handle], laidTests := true, laidLooks := .later }
def VectorBackCardSaid : Prop := Claim7.holds Tryd.pinned (.plain (OpenSpec.ofChange vectorBackSpec)) vectorBackCard

/-- THE TIED CARD OF 'packtrainkeep.VectorOnly'. -/
def vectorOnlyCard : Claim7 := { stood := { row := vectorOnlyRow, standIns := [], harness := (true, "7b2046a3578c7a77eabbc723d927e7e9f48996fe6ea6882f72384b99003d8fe0"), looks := true }, kinds := [], alts := [], laidByText := true, laidKinds := [.handle], laidTests := true, laidLooks := .later }
def VectorOnlyCardSaid : Prop := Claim7.holds Tryd.pinned (.plain (OpenSpec.ofChange vectorOnlySpec)) vectorOnlyCard

/-- THE TIED CARD OF 'packtrainkeep.VectorSame'. -/
def vectorSameCard : Claim7 := { stood := { row := vectorSameRow, standIns := [], harness := (true, "7b2046a3578c7a77eabbc723d927e7e9f48996fe6ea6882f72384b99003d8fe0"), looks := true }, kinds := [], alts := [], laidByText := true, laidKinds := [.handle], laidTests := true, laidLooks := .later }
def VectorSameCardSaid : Prop := Claim7.holds Tryd.pinned (.plain (OpenSpec.ofChange vectorSameSpec)) vectorSameCard

/-- THE TIED CARD OF 'packtrainkeep.VectorLeast'. -/
def vectorLeastCard : Claim7 := { stood := { row := vectorLeastRow, standIns := [], harness := (true, "7b2046a3578c7a77eabbc723d927e7e9f48996fe6ea6882f72384b99003d8fe0"), looks := true }, kinds := [], alts := [], laidByText := true, laidKinds := [.handle], laidTests := true, laidLooks := .later }
def VectorLeastCardSaid : Prop := Claim7.holds Tryd.pinned (.plain (OpenSpec.ofChange vectorLeastSpec)) vectorLeastCard

/-- THE TIED CARD OF 'packtrainkeep.VectorOrder'. -/
def vectorOrderCard : Claim7 := { stood := { row := vectorOrderRow, standIns := [], harness := (true, "7b2046a3578c7a77eabbc723d927e7e9f48996fe6ea6882f72384b99003d8fe0"), looks := true }, kinds := [], alts := [], laidByText := true, laidKinds := [.handle], laidTests := true, laidLooks := .later }
def VectorOrderCardSaid : Prop := Claim7.holds Tryd.pinned (.plain (OpenSpec.ofChange vectorOrderSpec)) vectorOrderCard

/-- THE TIED CARD OF 'packtrainkeep.VectorTimes'. -/
def vectorTimesCard : Claim7 := { stood := { row := vectorTimesRow, standIns := [], harness := (true, "7b2046a3578c7a77eabbc723d927e7e9f48996fe6ea6882f72384b99003d8fe0"), looks := true }, kinds := [], alts := [], laidByText := true, laidKinds := [.handle], laidTests := true, laidLooks := .later }
def VectorTimesCardSaid : Prop := Claim7.holds Tryd.pinned (.plain (OpenSpec.ofChange vectorTimesSpec)) vectorTimesCard

/-- THE TIED CARD OF 'packtrainkeep.VectorMany'. -/
def vectorManyCard : Claim7 := { stood := { row := vectorManyRow, standIns := [], harness := (true, "7b2046a3578c7a77eabbc723d927e7e9f48996fe6ea6882f72384b99003d8fe0"), looks := true }, kinds := [], alts := [], laidByText := true, laidKinds := [.handle], laidTests := true, laidLooks := .later }
def VectorManyCardSaid : Prop := Claim7.holds Tryd.pinned (.plain (OpenSpec.ofChange vectorManySpec)) vectorManyCard

/-- THE TIED CARD OF 'packtrainkeep.VectorRuns'. -/
def vectorRunsCard : Claim7 := { stood := { row := vectorRunsRow, standIns := [], harness := (true, "7b2046a3578c7a77eabbc723d927e7e9f48996fe6ea6882f72384b99003d8fe0"), looks := true }, kinds := [], alts := [], laidByText := true, laidKinds := [.handle], laidTests := true, laidLooks := .later }
def VectorRunsCardSaid : Prop := Claim7.holds Tryd.pinned (.plain (OpenSpec.ofChange vectorRunsSpec)) vectorRunsCard

/-- THE SECOND FORM's CARD OF 'packtrainlaw.VectorRights'. -/
def vectorRightsUptoCard : Claim7 := { stood := { row := vectorRightsUptoRow, standIns := [], harness := (true, "7b2046a3578c7a77eabbc723d927e7e9f48996fe6ea6882f72384b99003d8fe0"), looks := true }, kinds := [], alts := [], laidByText := true, laidKinds := [.handle], laidTests := true, laidLooks := .later }
def VectorRightsUptoCardSaid : Prop := Claim7.holds Tryd.pinned (.plain (OpenSpec.upto vectorRightsSpec)) vectorRightsUptoCard

/-- THE SECOND FORM's CARD OF 'packtrainlaw.VectorJoins'. -/
def vectorJoinsUptoCard : Claim7 := { stood := { row := vectorJoinsUptoRow, standIns := [], harness := (true, "7b2046a3578c7a77eabbc723d927e7e9f48996fe6ea6882f72384b99003d8fe0"), looks := true }, kinds := [], alts := [], laidByText := true, laidKinds := [.handle], laidTests := true, laidLooks := .later }
def VectorJoinsUptoCardSaid : Prop := Claim7.holds Tryd.pinned (.plain (OpenSpec.upto vectorJoinsSpec)) vectorJoinsUptoCard

/-- THE SECOND FORM's CARD OF 'packtrainlaw.VectorWrites'. -/
def vectorWritesUptoCard : Claim7 := { stood := { row := vectorWritesUptoRow, standIns := [], harness := (true, "7b2046a3578c7a77eabbc723d927e7e9f48996fe6ea6882f72384b99003d8fe0"), looks := true }, kinds := [], alts := [], laidByText := true, laidKinds := [.handle], laidTests := true, laidLooks := .later }
def VectorWritesUptoCardSaid : Prop := Claim7.holds Tryd.pinned (.plain (OpenSpec.upto vectorWritesSpec)) vectorWritesUptoCard

/-- THE SECOND FORM's CARD OF 'packtrainlaw.VectorReads'. -/
def vectorReadsUptoCard : Claim7 := { stood := { row := vectorReadsUptoRow, standIns := [], harness := (true, "7b2046a3578c7a77eabbc723d927e7e9f48996fe6ea6882f72384b99003d8fe0"), looks := true }, kinds := [], alts := [], laidByText := true, laidKinds := [.handle], laidTests := true, laidLooks := .later }
def VectorReadsUptoCardSaid : Prop := Claim7.holds Tryd.pinned (.plain (OpenSpec.upto vectorReadsSpec)) vectorReadsUptoCard

/-- THE SECOND FORM's CARD OF 'packtrainkeep.VectorBack'. -/
def vectorBackUptoCard : Claim7 := { stood := { row := vectorBackUptoRow, standIns := [], harness := (true, "7b2046a3578c7a77eabbc723d927e7e9f48996fe6ea6882f72384b99003d8fe0"), looks := true }, kinds := [], alts := [], laidByText := true, laidKinds := [.handle], laidTests := true, laidLooks := .later }
def VectorBackUptoCardSaid : Prop := Claim7.holds Tryd.pinned (.plain (OpenSpec.upto vectorBackSpec)) vectorBackUptoCard

/-- THE SECOND FORM's CARD OF 'packtrainkeep.VectorOnly'. -/
def vectorOnlyUptoCard : Claim7 := { stood := { row := vectorOnlyUptoRow, standIns := [], harness := (true, "7b2046a3578c7a77eabbc723d927e7e9f48996fe6ea6882f72384b99003d8fe0"), looks := true }, kinds := [], alts := [], laidByText := true, laidKinds := [.handle], laidTests := true, laidLooks := .later }
def VectorOnlyUptoCardSaid : Prop := Claim7.holds Tryd.pinned (.plain (OpenSpec.upto vectorOnlySpec)) vectorOnlyUptoCard

/-- THE SECOND FORM's CARD OF 'packtrainkeep.VectorSame'. -/
def vectorSameUptoCard : Claim7 := { stood := { row := vectorSameUptoRow, standIns := [], harness := (true, "7b2046a3578c7a77eabbc723d927e7e9f48996fe6ea6882f72384b99003d8fe0"), looks := true }, kinds := [], alts := [], laidByText := true, laidKinds := [.handle], laidTests := true, laidLooks := .later }
def VectorSameUptoCardSaid : Prop := Claim7.holds Tryd.pinned (.plain (OpenSpec.upto vectorSameSpec)) vectorSameUptoCard

/-- THE SECOND FORM's CARD OF 'packtrainkeep.VectorLeast'. -/
def vectorLeastUptoCard : Claim7 := { stood := { row := vectorLeastUptoRow, standIns := [], harness := (true, "7b2046a3578c7a77eabbc723d927e7e9f48996fe6ea6882f72384b99003d8fe0"), looks := true }, kinds := [], alts := [], laidByText := true, laidKinds := [.handle], laidTests := true, laidLooks := .later }
def VectorLeastUptoCardSaid : Prop := Claim7.holds Tryd.pinned (.plain (OpenSpec.upto vectorLeastSpec)) vectorLeastUptoCard

/-- THE SECOND FORM's CARD OF 'packtrainkeep.VectorOrder'. -/
def vectorOrderUptoCard : Claim7 := { stood := { row := vectorOrderUptoRow, standIns := [], harness := (true, "7b2046a3578c7a77eabbc723d927e7e9f48996fe6ea6882f72384b99003d8fe0"), looks := true }, kinds := [], alts := [], laidByText := true, laidKinds := [.handle], laidTests := true, laidLooks := .later }
def VectorOrderUptoCardSaid : Prop := Claim7.holds Tryd.pinned (.plain (OpenSpec.upto vectorOrderSpec)) vectorOrderUptoCard

/-- THE SECOND FORM's CARD OF 'packtrainkeep.VectorTimes'. -/
def vectorTimesUptoCard : Claim7 := { stood := { row := vectorTimesUptoRow, standIns := [], harness := (true, "7b2046a3578c7a77eabbc723d927e7e9f48996fe6ea6882f72384b99003d8fe0"), looks := true }, kinds := [], alts := [], laidByText := true, laidKinds := [.handle], laidTests := true, laidLooks := .later }
def VectorTimesUptoCardSaid : Prop := Claim7.holds Tryd.pinned (.plain (OpenSpec.upto vectorTimesSpec)) vectorTimesUptoCard

/-- THE SECOND FORM's CARD OF 'packtrainkeep.VectorMany'. -/
def vectorManyUptoCard : Claim7 := { stood := { row := vectorManyUptoRow, standIns := [], harness := (true, "7b2046a3578c7a77eabbc723d927e7e9f48996fe6ea6882f72384b99003d8fe0"), looks := true }, kinds := [], alts := [], laidByText := true, laidKinds := [.handle], laidTests := true, laidLooks := .later }
def VectorManyUptoCardSaid : Prop := Claim7.holds Tryd.pinned (.plain (OpenSpec.upto vectorManySpec)) vectorManyUptoCard

/-- THE SECOND FORM's CARD OF 'packtrainkeep.VectorRuns'. -/
def vectorRunsUptoCard : Claim7 := { stood := { row := vectorRunsUptoRow, standIns := [], harness := (true, "7b2046a3578c7a77eabbc723d927e7e9f48996fe6ea6882f72384b99003d8fe0"), looks := true }, kinds := [], alts := [], laidByText := true, laidKinds := [.handle], laidTests := true, laidLooks := .later }
def VectorRunsUptoCardSaid : Prop := Claim7.holds Tryd.pinned (.plain (OpenSpec.upto vectorRunsSpec)) vectorRunsUptoCard
end Rows
end Go.Proofs.YthdflbaknfiglaaDoor
