/-
  DERIVED. GIVEN WITH THE SEED: THE CARDS: each row of YtfhphgeanpmgaaaDoorRows.lean that lists a variable, with what it lists TIED to the program's text (the seventh form; the later family's looks); each row that meets fmt, with fmt's text TOLD by the authors' own Lean function (tested against real Go, not proved from fmt's source: count such statements apart). THE CARD IS WHAT COUNTS. Prove the row's statement (the work); the ties are given (YtfhphgeanpmgaaaDoorTie.lean); close each card by the builder's one call (the guide's Derived/Test/ToyasCard.lean, 'card_holds'). Laid BY PROGRAM, IN A SANDBOX (cutbox-door.mjs). By AI agents, Wed Nov 11 2026. No macro, syntax, notation, axiom, sorry.
-/
import Derived.Test.YtfhphgeanpmgaaaDoorRows
import GoSem.ClaimSeven
namespace Go.Proofs.YtfhphgeanpmgaaaDoor
namespace Rows

/-- THE TIED CARD OF 'timesynclaw09.OscReads'. -/
def oscReadsCard : Claim7 := { stood := { row := oscReadsRow, standIns := [], harness := (true, "a7ba5032bf26553d98451d5967d718254ad37f5871695c88a1c11d1753d3a8e2"), looks := false }, kinds := [], alts := [], laidByText := true, laidKinds := [.data], laidTests := true, laidLooks := .later }
def OscReadsCardSaid : Prop := Claim7.holds Tryd.pinned (.plain (OpenSpec.ofChange oscReadsSpec)) oscReadsCard

/-- THE TIED CARD OF 'timesynclaw09.OscInverts'. -/
def oscInvertsCard : Claim7 := { stood := { row := oscInvertsRow, standIns := [], harness := (true, "a7ba5032bf26553d98451d5967d718254ad37f5871695c88a1c11d1753d3a8e2"), looks := false }, kinds := [], alts := [], laidByText := true, laidKinds := [.data], laidTests := true, laidLooks := .later }
def OscInvertsCardSaid : Prop := Claim7.holds Tryd.pinned (.plain (OpenSpec.ofChange oscInvertsSpec)) oscInvertsCard

/-- THE TIED CARD OF 'timesynclaw09.OscRates'. -/
def oscRatesCard : Claim7 := { stood := { row := oscRatesRow, standIns := [], harness := (true, "a7ba5032bf26553d98451d5967d718254ad37f5871695c88a1c11d1753d3a8e2"), looks := false }, kinds := [], alts := [], laidByText := true, laidKinds := [.data], laidTests := true, laidLooks := .later }
def OscRatesCardSaid : Prop := Claim7.holds Tryd.pinned (.plain (OpenSpec.ofChange oscRatesSpec)) oscRatesCard

/-- THE TIED CARD OF 'timesynclaw09.OscRises'. -/
def oscRisesCard : Claim7 := { stood := { row := oscRisesRow, standIns := [], harness := (true, "a7ba5032bf26553d98451d5967d718254ad37f5871695c88a1c11d1753d3a8e2"), looks := false }, kinds := [], alts := [], laidByText := true, laidKinds := [.data], laidTests := true, laidLooks := .later }
def OscRisesCardSaid : Prop := Claim7.holds Tryd.pinned (.plain (OpenSpec.ofChange oscRisesSpec)) oscRisesCard

/-- THE TIED CARD OF 'timesynclaw09.OscDrifts'. -/
def oscDriftsCard : Claim7 := { stood := { row := oscDriftsRow, standIns := [], harness := (true, "a7ba5032bf26553d98451d5967d718254ad37f5871695c88a1c11d1753d3a8e2"), looks := false }, kinds := [], alts := [], laidByText := true, laidKinds := [.data], laidTests := true, laidLooks := .later }
def OscDriftsCardSaid : Prop := Claim7.holds Tryd.pinned (.plain (OpenSpec.ofChange oscDriftsSpec)) oscDriftsCard

/-- THE TIED CARD OF 'timesynclaw09.OscSplits'. -/
def oscSplitsCard : Claim7 := { stood := { row := oscSplitsRow, standIns := [], harness := (true, "a7ba5032bf26553d98451d5967d718254ad37f5871695c88a1c11d1753d3a8e2"), looks := false }, kinds := [], alts := [], laidByText := true, laidKinds := [.data], laidTests := true, laidLooks := .later }
def OscSplitsCardSaid : Prop := Claim7.holds Tryd.pinned (.plain (OpenSpec.ofChange oscSplitsSpec)) oscSplitsCard

/-- THE SECOND FORM's CARD OF 'timesynclaw09.OscReads'. -/
def oscReadsUptoCard : Claim7 := { stood := { row := oscReadsUptoRow, standIns := [], harness := (true, "a7ba5032bf26553d98451d5967d718254ad37f5871695c88a1c11d1753d3a8e2"), looks := false }, kinds := [], alts := [], laidByText := true, laidKinds := [.data], laidTests := true, laidLooks := .later }
def OscReadsUptoCardSaid : Prop := Claim7.holds Tryd.pinned (.plain (OpenSpec.upto oscReadsSpec)) oscReadsUptoCard

/-- THE SECOND FORM's CARD OF 'timesynclaw09.OscInverts'. -/
def oscInvertsUptoCard : Claim7 := { stood := { row := oscInvertsUptoRow, standIns := [], harness := (true, "a7ba5032bf26553d98451d5967d718254ad37f5871695c88a1c11d1753d3a8e2"), looks := false }, kinds := [], alts := [], laidByText := true, laidKinds := [.data], laidTests := true, laidLooks := .later }
def OscInvertsUptoCardSaid : Prop := Claim7.holds Tryd.pinned (.plain (OpenSpec.upto oscInvertsSpec)) oscInvertsUptoCard

/-- THE SECOND FORM's CARD OF 'timesynclaw09.OscRates'. -/
def oscRatesUptoCard : Claim7 := { stood := { row := oscRatesUptoRow, standIns := [], harness := (true, "a7ba5032bf26553d98451d5967d718254ad37f5871695c88a1c11d1753d3a8e2"), looks := false }, kinds := [], alts := [], laidByText := true, laidKinds := [.data], laidTests := true, laidLooks := .later }
def OscRatesUptoCardSaid : Prop := Claim7.holds Tryd.pinned (.plain (OpenSpec.upto oscRatesSpec)) oscRatesUptoCard

/-- THE SECOND FORM's CARD OF 'timesynclaw09.OscRises'. -/
def oscRisesUptoCard : Claim7 := { stood := { row := oscRisesUptoRow, standIns := [], harness := (true, "a7ba5032bf26553d98451d5967d718254ad37f5871695c88a1c11d1753d3a8e2"), looks := false }, kinds := [], alts := [], laidByText := true, laidKinds := [.data], laidTests := true, laidLooks := .later }
def OscRisesUptoCardSaid : Prop := Claim7.holds Tryd.pinned (.plain (OpenSpec.upto oscRisesSpec)) oscRisesUptoCard

/-- THE SECOND FORM's CARD OF 'timesynclaw09.OscDrifts'. -/
def oscDriftsUptoCard : Claim7 := { stood := { row := oscDriftsUptoRow, standIns := [], harness := (true, "a7ba5032bf26553d98451d5967d718254ad37f5871695c88a1c11d1753d3a8e2"), looks := false }, kinds := [], alts := [], laidByText := true, laidKinds := [.data], laidTests := true, laidLooks := .later }
def OscDriftsUptoCardSaid : Prop := Claim7.holds Tryd.pinned (.plain (OpenSpec.upto oscDriftsSpec)) oscDriftsUptoCard

/-- THE SECOND FORM's CARD OF 'timesynclaw09.OscSplits'. -/
def oscSplitsUptoCard : Claim7 := { stood := { row := oscSplitsUptoRow, standIns := [], harness := (true, "a7ba5032bf26553d98451d5967d718254ad37f5871695c88a1c11d1753d3a8e2"), looks := false }, kinds := [], alts := [], laidByText := true, laidKinds := [.data], laidTests := true, laidLooks := .later }
def OscSplitsUptoCardSaid : Prop := Claim7.holds Tryd.pinned (.plain (OpenSpec.upto oscSplitsSpec)) oscSplitsUptoCard
end Rows
end Go.Proofs.YtfhphgeanpmgaaaDoor
