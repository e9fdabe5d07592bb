/-
  DERIVED. GIVEN WITH THE SEED: THE CARDS: each row of YtemflgjfoappaabDoorRows.lean that lists a variable, with what it lists TIED to the program's text (the seventh form; the later family's looks); each row that meets fmt, with fmt's text TOLD by the authors' own Lean function (tested against real Go, not proved from fmt's source: count such statements apart). THE CARD IS WHAT COUNTS. Prove the row's statement (the work); the ties are given (YtemflgjfoappaabDoorTie.lean); close each card by the builder's one call (the guide's Derived/Test/ToyasCard.lean, 'card_holds'). Laid BY PROGRAM, IN A SANDBOX (cutbox-door.mjs). By AI agents, Wed Nov 11 2026. No macro, syntax, notation, axiom, sorry.
-/
import Derived.Test.YtemflgjfoappaabDoorRows
import GoSem.ClaimSeven
namespace Go.Proofs.YtemflgjfoappaabDoor
namespace Rows

/-- THE TIED CARD OF 'timesynclaw04.PtimeTexts'. -/
def ptimeTextsCard : Claim7 := { stood := { row := ptimeTextsRow, standIns := [], harness := (true, "173a082130d2d0754c3b1bd17bf7c04bf68aa6558e64511e0d1b520fec981a33"), looks := true }, kinds := [], alts := [], laidByText := true, laidKinds := [.data, .data, .data, .sentinel, .sentinel], laidTests := true, laidLooks := .later }
def PtimeTextsCardSaid : Prop := Claim7.holds Tryd.pinned (.plain (OpenSpec.ofChange ptimeTextsSpec)) ptimeTextsCard

/-- THE TIED CARD OF 'timesynclaw04.PtimeBack'. -/
def ptimeBackCard : Claim7 := { stood := { row := ptimeBackRow, standIns := [], harness := (true, "173a082130d2d0754c3b1bd17bf7c04bf68aa6558e64511e0d1b520fec981a33"), looks := true }, kinds := [], alts := [], laidByText := true, laidKinds := [.data, .data, .data, .sentinel, .sentinel], laidTests := true, laidLooks := .later }
def PtimeBackCardSaid : Prop := Claim7.holds Tryd.pinned (.plain (OpenSpec.ofChange ptimeBackSpec)) ptimeBackCard

/-- THE TIED CARD OF 'timesynclaw04.PtimeSums'. -/
def ptimeSumsCard : Claim7 := { stood := { row := ptimeSumsRow, standIns := [], harness := (true, "173a082130d2d0754c3b1bd17bf7c04bf68aa6558e64511e0d1b520fec981a33"), looks := true }, kinds := [], alts := [], laidByText := true, laidKinds := [.data, .data, .data], laidTests := true, laidLooks := .later }
def PtimeSumsCardSaid : Prop := Claim7.holds Tryd.pinned (.plain (OpenSpec.ofChange ptimeSumsSpec)) ptimeSumsCard

/-- THE SECOND FORM's CARD OF 'timesynclaw04.PtimeTexts'. -/
def ptimeTextsUptoCard : Claim7 := { stood := { row := ptimeTextsUptoRow, standIns := [], harness := (true, "173a082130d2d0754c3b1bd17bf7c04bf68aa6558e64511e0d1b520fec981a33"), looks := true }, kinds := [], alts := [], laidByText := true, laidKinds := [.data, .data, .data, .sentinel, .sentinel], laidTests := true, laidLooks := .later }
def PtimeTextsUptoCardSaid : Prop := Claim7.holds Tryd.pinned (.plain (OpenSpec.upto ptimeTextsSpec)) ptimeTextsUptoCard

/-- THE SECOND FORM's CARD OF 'timesynclaw04.PtimeBack'. -/
def ptimeBackUptoCard : Claim7 := { stood := { row := ptimeBackUptoRow, standIns := [], harness := (true, "173a082130d2d0754c3b1bd17bf7c04bf68aa6558e64511e0d1b520fec981a33"), looks := true }, kinds := [], alts := [], laidByText := true, laidKinds := [.data, .data, .data, .sentinel, .sentinel], laidTests := true, laidLooks := .later }
def PtimeBackUptoCardSaid : Prop := Claim7.holds Tryd.pinned (.plain (OpenSpec.upto ptimeBackSpec)) ptimeBackUptoCard

/-- THE SECOND FORM's CARD OF 'timesynclaw04.PtimeSums'. -/
def ptimeSumsUptoCard : Claim7 := { stood := { row := ptimeSumsUptoRow, standIns := [], harness := (true, "173a082130d2d0754c3b1bd17bf7c04bf68aa6558e64511e0d1b520fec981a33"), looks := true }, kinds := [], alts := [], laidByText := true, laidKinds := [.data, .data, .data], laidTests := true, laidLooks := .later }
def PtimeSumsUptoCardSaid : Prop := Claim7.holds Tryd.pinned (.plain (OpenSpec.upto ptimeSumsSpec)) ptimeSumsUptoCard
end Rows
end Go.Proofs.YtemflgjfoappaabDoor
