/-
  DERIVED. GIVEN WITH THE SEED: THE CARDS: each row of YtcphhbofjkenaaaGreatDoorRows.lean that lists a variable, with what it lists TIED to the program's text (the seventh form; the later family's looks); each row that meets fmt, with fmt's text TOLD by the authors' own Lean function (tested against real Go, not proved from fmt's source: count such statements apart). THE CARD IS WHAT COUNTS. Prove the row's statement (the work); the ties are given (YtcphhbofjkenaaaGreatDoorTie.lean); close each card by the builder's one call (the guide's Derived/Test/ToyasCard.lean, 'card_holds'). Laid BY PROGRAM, IN A SANDBOX (cutbox-door.mjs). By AI agents, Wed Nov 11 2026. No macro, syntax, notation, axiom, sorry.
-/
import Derived.Test.YtcphhbofjkenaaaGreatDoorRows
import GoSem.ClaimSeven
namespace Go.Proofs.YtcphhbofjkenaaaGreatDoor
namespace Rows

/-- THE TIED CARD OF 'forthwithlaw.Loads'. -/
def loadsCard : Claim7 := { stood := { row := loadsRow, standIns := [], harness := (true, "eca4b745ad22a41a15da7d4dd2933b87e647f0bf0bb853616c53aac149b78b36"), looks := true }, kinds := [], alts := [], laidByText := true, laidKinds := [.data, .data, .data, .data, .sentinel, .sentinel], laidTests := true, laidLooks := .later }
def LoadsCardSaid : Prop := Claim7.holds Tryz.pinned (.plain (OpenSpec.ofChange loadsSpec)) loadsCard

/-- THE TIED CARD OF 'forthwithlaw.Runs'. -/
def runsCard : Claim7 := { stood := { row := runsRow, standIns := [], harness := (true, "eca4b745ad22a41a15da7d4dd2933b87e647f0bf0bb853616c53aac149b78b36"), looks := true }, kinds := [], alts := [], laidByText := true, laidKinds := [.data, .data, .data, .data, .sentinel, .sentinel], laidTests := true, laidLooks := .later }
def RunsCardSaid : Prop := Claim7.holds Tryz.pinned (.plain (OpenSpec.ofChange runsSpec)) runsCard

/-- THE TIED CARD OF 'forthwithkeep.Bounded'. -/
def boundedCard : Claim7 := { stood := { row := boundedRow, standIns := [], harness := (true, "eca4b745ad22a41a15da7d4dd2933b87e647f0bf0bb853616c53aac149b78b36"), looks := true }, kinds := [], alts := [], laidByText := true, laidKinds := [.data, .data, .data, .data, .sentinel, .sentinel], laidTests := true, laidLooks := .later }
def BoundedCardSaid : Prop := Claim7.holds Tryz.pinned (.plain (OpenSpec.ofChange boundedSpec)) boundedCard

/-- THE TIED CARD OF 'forthwithkeep.Pieces'. -/
def piecesCard : Claim7 := { stood := { row := piecesRow, standIns := [], harness := (true, "eca4b745ad22a41a15da7d4dd2933b87e647f0bf0bb853616c53aac149b78b36"), looks := true }, kinds := [], alts := [], laidByText := true, laidKinds := [.data, .data, .data, .data, .sentinel, .sentinel], laidTests := true, laidLooks := .later }
def PiecesCardSaid : Prop := Claim7.holds Tryz.pinned (.plain (OpenSpec.ofChange piecesSpec)) piecesCard

/-- THE TIED CARD OF 'forthwithlaw.Admits'. -/
def admitsCard : Claim7 := { stood := { row := admitsRow, standIns := [], harness := (true, "eca4b745ad22a41a15da7d4dd2933b87e647f0bf0bb853616c53aac149b78b36"), looks := true }, kinds := [], alts := [], laidByText := true, laidKinds := [.data, .data, .data, .data, .sentinel, .sentinel], laidTests := true, laidLooks := .later }
def AdmitsCardSaid : Prop := Claim7.holds Tryz.pinned (.plain (OpenSpec.ofChange admitsSpec)) admitsCard

/-- THE TIED CARD OF 'forthwithlaw.Simulates'. -/
def simulatesCard : Claim7 := { stood := { row := simulatesRow, standIns := [], harness := (true, "eca4b745ad22a41a15da7d4dd2933b87e647f0bf0bb853616c53aac149b78b36"), looks := true }, kinds := [], alts := [], laidByText := true, laidKinds := [.data, .data, .data, .data, .sentinel, .sentinel], laidTests := true, laidLooks := .later }
def SimulatesCardSaid : Prop := Claim7.holds Tryz.pinned (.plain (OpenSpec.ofChange simulatesSpec)) simulatesCard

/-- THE TIED CARD OF 'forthwithkeep.Met'. -/
def metCard : Claim7 := { stood := { row := metRow, standIns := [], harness := (true, "eca4b745ad22a41a15da7d4dd2933b87e647f0bf0bb853616c53aac149b78b36"), looks := true }, kinds := [], alts := [], laidByText := true, laidKinds := [.data, .data, .data, .data, .sentinel, .sentinel], laidTests := true, laidLooks := .later }
def MetCardSaid : Prop := Claim7.holds Tryz.pinned (.plain (OpenSpec.ofChange metSpec)) metCard

/-- THE TIED CARD OF 'forthwithkeep.Unseen'. -/
def unseenCard : Claim7 := { stood := { row := unseenRow, standIns := [], harness := (true, "eca4b745ad22a41a15da7d4dd2933b87e647f0bf0bb853616c53aac149b78b36"), looks := true }, kinds := [], alts := [], laidByText := true, laidKinds := [.data, .data, .data, .data, .sentinel, .sentinel], laidTests := true, laidLooks := .later }
def UnseenCardSaid : Prop := Claim7.holds Tryz.pinned (.plain (OpenSpec.ofChange unseenSpec)) unseenCard

/-- THE TIED CARD OF 'forthwithkeep.Quiet'. -/
def quietCard : Claim7 := { stood := { row := quietRow, standIns := [], harness := (true, "eca4b745ad22a41a15da7d4dd2933b87e647f0bf0bb853616c53aac149b78b36"), looks := true }, kinds := [], alts := [], laidByText := true, laidKinds := [.data, .data, .data, .data, .sentinel, .sentinel], laidTests := true, laidLooks := .later }
def QuietCardSaid : Prop := Claim7.holds Tryz.pinned (.plain (OpenSpec.ofChange quietSpec)) quietCard

/-- THE TIED CARD OF 'forthwithlaw.All'. -/
def allCard : Claim7 := { stood := { row := allRow, standIns := [], harness := (true, "eca4b745ad22a41a15da7d4dd2933b87e647f0bf0bb853616c53aac149b78b36"), looks := true }, kinds := [], alts := [], laidByText := true, laidKinds := [.data, .data, .data, .data, .sentinel, .sentinel], laidTests := true, laidLooks := .later }
def AllCardSaid : Prop := Claim7.holds Tryz.pinned (.plain (OpenSpec.ofChange allSpec)) allCard

/-- THE SECOND FORM's CARD OF 'forthwithlaw.Loads'. -/
def loadsUptoCard : Claim7 := { stood := { row := loadsUptoRow, standIns := [], harness := (true, "eca4b745ad22a41a15da7d4dd2933b87e647f0bf0bb853616c53aac149b78b36"), looks := true }, kinds := [], alts := [], laidByText := true, laidKinds := [.data, .data, .data, .data, .sentinel, .sentinel], laidTests := true, laidLooks := .later }
def LoadsUptoCardSaid : Prop := Claim7.holds Tryz.pinned (.plain (OpenSpec.upto loadsSpec)) loadsUptoCard

/-- THE SECOND FORM's CARD OF 'forthwithlaw.Runs'. -/
def runsUptoCard : Claim7 := { stood := { row := runsUptoRow, standIns := [], harness := (true, "eca4b745ad22a41a15da7d4dd2933b87e647f0bf0bb853616c53aac149b78b36"), looks := true }, kinds := [], alts := [], laidByText := true, laidKinds := [.data, .data, .data, .data, .sentinel, .sentinel], laidTests := true, laidLooks := .later }
def RunsUptoCardSaid : Prop := Claim7.holds Tryz.pinned (.plain (OpenSpec.upto runsSpec)) runsUptoCard

/-- THE SECOND FORM's CARD OF 'forthwithkeep.Bounded'. -/
def boundedUptoCard : Claim7 := { stood := { row := boundedUptoRow, standIns := [], harness := (true, "eca4b745ad22a41a15da7d4dd2933b87e647f0bf0bb853616c53aac149b78b36"), looks := true }, kinds := [], alts := [], laidByText := true, laidKinds := [.data, .data, .data, .data, .sentinel, .sentinel], laidTests := true, laidLooks := .later }
def BoundedUptoCardSaid : Prop := Claim7.holds Tryz.pinned (.plain (OpenSpec.upto boundedSpec)) boundedUptoCard

/-- THE SECOND FORM's CARD OF 'forthwithkeep.Pieces'. -/
def piecesUptoCard : Claim7 := { stood := { row := piecesUptoRow, standIns := [], harness := (true, "eca4b745ad22a41a15da7d4dd2933b87e647f0bf0bb853616c53aac149b78b36"), looks := true }, kinds := [], alts := [], laidByText := true, laidKinds := [.data, .data, .data, .data, .sentinel, .sentinel], laidTests := true, laidLooks := .later }
def PiecesUptoCardSaid : Prop := Claim7.holds Tryz.pinned (.plain (OpenSpec.upto piecesSpec)) piecesUptoCard

/-- THE SECOND FORM's CARD OF 'forthwithlaw.Admits'. -/
def admitsUptoCard : Claim7 := { stood := { row := admitsUptoRow, standIns := [], harness := (true, "eca4b745ad22a41a15da7d4dd2933b87e647f0bf0bb853616c53aac149b78b36"), looks := true }, kinds := [], alts := [], laidByText := true, laidKinds := [.data, .data, .data, .data, .sentinel, .sentinel], laidTests := true, laidLooks := .later }
def AdmitsUptoCardSaid : Prop := Claim7.holds Tryz.pinned (.plain (OpenSpec.upto admitsSpec)) admitsUptoCard

/-- THE SECOND FORM's CARD OF 'forthwithlaw.Simulates'. -/
def simulatesUptoCard : Claim7 := { stood := { row := simulatesUptoRow, standIns := [], harness := (true, "eca4b745ad22a41a15da7d4dd2933b87e647f0bf0bb853616c53aac149b78b36"), looks := true }, kinds := [], alts := [], laidByText := true, laidKinds := [.data, .data, .data, .data, .sentinel, .sentinel], laidTests := true, laidLooks := .later }
def SimulatesUptoCardSaid : Prop := Claim7.holds Tryz.pinned (.plain (OpenSpec.upto simulatesSpec)) simulatesUptoCard

/-- THE SECOND FORM's CARD OF 'forthwithkeep.Met'. -/
def metUptoCard : Claim7 := { stood := { row := metUptoRow, standIns := [], harness := (true, "eca4b745ad22a41a15da7d4dd2933b87e647f0bf0bb853616c53aac149b78b36"), looks := true }, kinds := [], alts := [], laidByText := true, laidKinds := [.data, .data, .data, .data, .sentinel, .sentinel], laidTests := true, laidLooks := .later }
def MetUptoCardSaid : Prop := Claim7.holds Tryz.pinned (.plain (OpenSpec.upto metSpec)) metUptoCard

/-- THE SECOND FORM's CARD OF 'forthwithkeep.Unseen'. -/
def unseenUptoCard : Claim7 := { stood := { row := unseenUptoRow, standIns := [], harness := (true, "eca4b745ad22a41a15da7d4dd2933b87e647f0bf0bb853616c53aac149b78b36"), looks := true }, kinds := [], alts := [], laidByText := true, laidKinds := [.data, .data, .data, .data, .sentinel, .sentinel], laidTests := true, laidLooks := .later }
def UnseenUptoCardSaid : Prop := Claim7.holds Tryz.pinned (.plain (OpenSpec.upto unseenSpec)) unseenUptoCard

/-- THE SECOND FORM's CARD OF 'forthwithkeep.Quiet'. -/
def quietUptoCard : Claim7 := { stood := { row := quietUptoRow, standIns := [], harness := (true, "eca4b745ad22a41a15da7d4dd2933b87e647f0bf0bb853616c53aac149b78b36"), looks := true }, kinds := [], alts := [], laidByText := true, laidKinds := [.data, .data, .data, .data, .sentinel, .sentinel], laidTests := true, laidLooks := .later }
def QuietUptoCardSaid : Prop := Claim7.holds Tryz.pinned (.plain (OpenSpec.upto quietSpec)) quietUptoCard

/-- THE SECOND FORM's CARD OF 'forthwithlaw.All'. -/
def allUptoCard : Claim7 := { stood := { row := allUptoRow, standIns := [], harness := (true, "eca4b745ad22a41a15da7d4dd2933b87e647f0bf0bb853616c53aac149b78b36"), looks := true }, kinds := [], alts := [], laidByText := true, laidKinds := [.data, .data, .data, .data, .sentinel, .sentinel], laidTests := true, laidLooks := .later }
def AllUptoCardSaid : Prop := Claim7.holds Tryz.pinned (.plain (OpenSpec.upto allSpec)) allUptoCard
end Rows
end Go.Proofs.YtcphhbofjkenaaaGreatDoor
