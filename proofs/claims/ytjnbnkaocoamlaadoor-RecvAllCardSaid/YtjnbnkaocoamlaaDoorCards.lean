/-
  DERIVED. GIVEN WITH THE SEED: THE CARDS: each row of YtjnbnkaocoamlaaDoorRows.lean that lists a variable, with what it lists TIED to the program's text (the seventh form; the later family's looks); each row that meets fmt, with fmt's text TOLD by the authors' own Lean function (tested against real Go, not proved from fmt's source: count such statements apart). THE CARD IS WHAT COUNTS. Prove the row's statement (the work); the ties are given (YtjnbnkaocoamlaaDoorTie.lean); close each card by the builder's one call (the guide's Derived/Test/ToyasCard.lean, 'card_holds'). Laid BY PROGRAM, IN A SANDBOX (cutbox-door.mjs). By AI agents, Wed Nov 11 2026. No macro, syntax, notation, axiom, sorry.
-/
import Derived.Test.YtjnbnkaocoamlaaDoorRows
import GoSem.ClaimSeven
namespace Go.Proofs.YtjnbnkaocoamlaaDoor
namespace Rows

/-- THE TIED CARD OF 'packtrainlaw.DiskPlays'. -/
def diskPlaysCard : Claim7 := { stood := { row := diskPlaysRow, standIns := [], harness := (true, "ec2c58b59617c9f0c5f7afcebecfd4cd5f66b19368776b3385e4d45577fbaf23"), looks := true }, kinds := [], alts := [], laidByText := true, laidKinds := [.handle], laidTests := true, laidLooks := .later }
def DiskPlaysCardSaid : Prop := Claim7.holds Tryd.pinned (.plain (OpenSpec.ofChange diskPlaysSpec)) diskPlaysCard

/-- THE TIED CARD OF 'packtrainkeep.RecvAll'. -/
def recvAllCard : Claim7 := { stood := { row := recvAllRow, standIns := [], harness := (true, "ec2c58b59617c9f0c5f7afcebecfd4cd5f66b19368776b3385e4d45577fbaf23"), looks := true }, kinds := [], alts := [], laidByText := true, laidKinds := [.handle], laidTests := true, laidLooks := .later }
def RecvAllCardSaid : Prop := Claim7.holds Tryd.pinned (.plain (OpenSpec.ofChange recvAllSpec)) recvAllCard

/-- THE TIED CARD OF 'packtrainkeep.RecvOthers'. -/
def recvOthersCard : Claim7 := { stood := { row := recvOthersRow, standIns := [], harness := (true, "ec2c58b59617c9f0c5f7afcebecfd4cd5f66b19368776b3385e4d45577fbaf23"), looks := true }, kinds := [], alts := [], laidByText := true, laidKinds := [.handle], laidTests := true, laidLooks := .later }
def RecvOthersCardSaid : Prop := Claim7.holds Tryd.pinned (.plain (OpenSpec.ofChange recvOthersSpec)) recvOthersCard

/-- THE SECOND FORM's CARD OF 'packtrainlaw.DiskPlays'. -/
def diskPlaysUptoCard : Claim7 := { stood := { row := diskPlaysUptoRow, standIns := [], harness := (true, "ec2c58b59617c9f0c5f7afcebecfd4cd5f66b19368776b3385e4d45577fbaf23"), looks := true }, kinds := [], alts := [], laidByText := true, laidKinds := [.handle], laidTests := true, laidLooks := .later }
def DiskPlaysUptoCardSaid : Prop := Claim7.holds Tryd.pinned (.plain (OpenSpec.upto diskPlaysSpec)) diskPlaysUptoCard

/-- THE SECOND FORM's CARD OF 'packtrainkeep.RecvAll'. -/
def recvAllUptoCard : Claim7 := { stood := { row := recvAllUptoRow, standIns := [], harness := (true, "ec2c58b59617c9f0c5f7afcebecfd4cd5f66b19368776b3385e4d45577fbaf23"), looks := true }, kinds := [], alts := [], laidByText := true, laidKinds := [.handle], laidTests := true, laidLooks := .later }
def RecvAllUptoCardSaid : Prop := Claim7.holds Tryd.pinned (.plain (OpenSpec.upto recvAllSpec)) recvAllUptoCard

/-- THE SECOND FORM's CARD OF 'packtrainkeep.RecvOthers'. -/
def recvOthersUptoCard : Claim7 := { stood := { row := recvOthersUptoRow, standIns := [], harness := (true, "ec2c58b59617c9f0c5f7afcebecfd4cd5f66b19368776b3385e4d45577fbaf23"), looks := true }, kinds := [], alts := [], laidByText := true, laidKinds := [.handle], laidTests := true, laidLooks := .later }
def RecvOthersUptoCardSaid : Prop := Claim7.holds Tryd.pinned (.plain (OpenSpec.upto recvOthersSpec)) recvOthersUptoCard
end Rows
end Go.Proofs.YtjnbnkaocoamlaaDoor
