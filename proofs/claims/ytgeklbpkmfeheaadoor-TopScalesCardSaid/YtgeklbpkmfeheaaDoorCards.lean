/-
  DERIVED. GIVEN WITH THE SEED: THE CARDS: each row of YtgeklbpkmfeheaaDoorRows.lean that lists a variable, with what it lists TIED to the program's text (the seventh form; the later family's looks); each row that meets fmt, with fmt's text TOLD by the authors' own Lean function (tested against real Go, not proved from fmt's source: count such statements apart). THE CARD IS WHAT COUNTS. Prove the row's statement (the work); the ties are given (YtgeklbpkmfeheaaDoorTie.lean); close each card by the builder's one call (the guide's Derived/Test/ToyasCard.lean, 'card_holds'). Laid BY PROGRAM, IN A SANDBOX (cutbox-door.mjs). By AI agents, Wed Nov 11 2026. No macro, syntax, notation, axiom, sorry.
-/
import Derived.Test.YtgeklbpkmfeheaaDoorRows
import GoSem.ClaimSeven
namespace Go.Proofs.YtgeklbpkmfeheaaDoor
namespace Rows

/-- THE TIED CARD OF 'timesynctop.TopScales'. -/
def topScalesCard : Claim7 := { stood := { row := topScalesRow, standIns := [], harness := (true, "37e1168c1e21d5580268046114d4a1c79b6c41ad4b2f6ad23c185b200be53623"), looks := false }, kinds := [], alts := [], laidByText := true, laidKinds := [.data], laidTests := true, laidLooks := .later }
def TopScalesCardSaid : Prop := Claim7.holds Tryd.pinned (.plain (OpenSpec.ofChange topScalesSpec)) topScalesCard

/-- THE SECOND FORM's CARD OF 'timesynctop.TopScales'. -/
def topScalesUptoCard : Claim7 := { stood := { row := topScalesUptoRow, standIns := [], harness := (true, "37e1168c1e21d5580268046114d4a1c79b6c41ad4b2f6ad23c185b200be53623"), looks := false }, kinds := [], alts := [], laidByText := true, laidKinds := [.data], laidTests := true, laidLooks := .later }
def TopScalesUptoCardSaid : Prop := Claim7.holds Tryd.pinned (.plain (OpenSpec.upto topScalesSpec)) topScalesUptoCard
end Rows
end Go.Proofs.YtgeklbpkmfeheaaDoor
