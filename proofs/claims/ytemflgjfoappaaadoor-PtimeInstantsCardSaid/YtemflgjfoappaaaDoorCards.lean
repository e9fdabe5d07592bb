/-
  DERIVED. GIVEN WITH THE SEED: THE CARDS: each row of YtemflgjfoappaaaDoorRows.lean that lists a variable, with what it lists TIED to the program's text (the seventh form; the later family's looks); each row that meets fmt, with fmt's text TOLD by the authors' own Lean function (tested against real Go, not proved from fmt's source: count such statements apart). THE CARD IS WHAT COUNTS. Prove the row's statement (the work); the ties are given (YtemflgjfoappaaaDoorTie.lean); close each card by the builder's one call (the guide's Derived/Test/ToyasCard.lean, 'card_holds'). Laid BY PROGRAM, IN A SANDBOX (cutbox-door.mjs). By AI agents, Wed Nov 11 2026. No macro, syntax, notation, axiom, sorry.
-/
import Derived.Test.YtemflgjfoappaaaDoorRows
import GoSem.ClaimSeven
namespace Go.Proofs.YtemflgjfoappaaaDoor
namespace Rows

/-- THE TIED CARD OF 'timesynclaw04.PtimeInstants'. -/
def ptimeInstantsCard : Claim7 := { stood := { row := ptimeInstantsRow, standIns := [], harness := (true, "9852daa4f7c79d75efc757dd9bd59c1ab87a7b9a37c3462e6194371c1d6a0732"), looks := false }, kinds := [], alts := [], laidByText := true, laidKinds := [.data, .data, .data], laidTests := true, laidLooks := .later }
def PtimeInstantsCardSaid : Prop := Claim7.holds Tryd.pinned (.plain (OpenSpec.ofChange ptimeInstantsSpec)) ptimeInstantsCard

/-- THE TIED CARD OF 'timesynclaw04.PtimeCorrections'. -/
def ptimeCorrectionsCard : Claim7 := { stood := { row := ptimeCorrectionsRow, standIns := [], harness := (true, "9852daa4f7c79d75efc757dd9bd59c1ab87a7b9a37c3462e6194371c1d6a0732"), looks := false }, kinds := [], alts := [], laidByText := true, laidKinds := [.data, .data, .data], laidTests := true, laidLooks := .later }
def PtimeCorrectionsCardSaid : Prop := Claim7.holds Tryd.pinned (.plain (OpenSpec.ofChange ptimeCorrectionsSpec)) ptimeCorrectionsCard

/-- THE TIED CARD OF 'timesynclaw04.PtimeBytes'. -/
def ptimeBytesCard : Claim7 := { stood := { row := ptimeBytesRow, standIns := [], harness := (true, "9852daa4f7c79d75efc757dd9bd59c1ab87a7b9a37c3462e6194371c1d6a0732"), looks := false }, kinds := [], alts := [], laidByText := true, laidKinds := [.data, .data, .data], laidTests := true, laidLooks := .later }
def PtimeBytesCardSaid : Prop := Claim7.holds Tryd.pinned (.plain (OpenSpec.ofChange ptimeBytesSpec)) ptimeBytesCard

/-- THE SECOND FORM's CARD OF 'timesynclaw04.PtimeInstants'. -/
def ptimeInstantsUptoCard : Claim7 := { stood := { row := ptimeInstantsUptoRow, standIns := [], harness := (true, "9852daa4f7c79d75efc757dd9bd59c1ab87a7b9a37c3462e6194371c1d6a0732"), looks := false }, kinds := [], alts := [], laidByText := true, laidKinds := [.data, .data, .data], laidTests := true, laidLooks := .later }
def PtimeInstantsUptoCardSaid : Prop := Claim7.holds Tryd.pinned (.plain (OpenSpec.upto ptimeInstantsSpec)) ptimeInstantsUptoCard

/-- THE SECOND FORM's CARD OF 'timesynclaw04.PtimeCorrections'. -/
def ptimeCorrectionsUptoCard : Claim7 := { stood := { row := ptimeCorrectionsUptoRow, standIns := [], harness := (true, "9852daa4f7c79d75efc757dd9bd59c1ab87a7b9a37c3462e6194371c1d6a0732"), looks := false }, kinds := [], alts := [], laidByText := true, laidKinds := [.data, .data, .data], laidTests := true, laidLooks := .later }
def PtimeCorrectionsUptoCardSaid : Prop := Claim7.holds Tryd.pinned (.plain (OpenSpec.upto ptimeCorrectionsSpec)) ptimeCorrectionsUptoCard

/-- THE SECOND FORM's CARD OF 'timesynclaw04.PtimeBytes'. -/
def ptimeBytesUptoCard : Claim7 := { stood := { row := ptimeBytesUptoRow, standIns := [], harness := (true, "9852daa4f7c79d75efc757dd9bd59c1ab87a7b9a37c3462e6194371c1d6a0732"), looks := false }, kinds := [], alts := [], laidByText := true, laidKinds := [.data, .data, .data], laidTests := true, laidLooks := .later }
def PtimeBytesUptoCardSaid : Prop := Claim7.holds Tryd.pinned (.plain (OpenSpec.upto ptimeBytesSpec)) ptimeBytesUptoCard
end Rows
end Go.Proofs.YtemflgjfoappaaaDoor
