/-
  DERIVED. GIVEN WITH THE SEED: THE CARDS: each row of YtocogipejchneaaDoorRows.lean that lists a variable, with what it lists TIED to the program's text (the seventh form; the later family's looks); each row that meets fmt, with fmt's text TOLD by the authors' own Lean function (tested against real Go, not proved from fmt's source: count such statements apart). THE CARD IS WHAT COUNTS. Prove the row's statement (the work); the ties are given (YtocogipejchneaaDoorTie.lean); close each card by the builder's one call (the guide's Derived/Test/ToyasCard.lean, 'card_holds'). Laid BY PROGRAM, IN A SANDBOX (cutbox-door.mjs). By AI agents, Wed Nov 11 2026. No macro, syntax, notation, axiom, sorry.
-/
import Derived.Test.YtocogipejchneaaDoorRows
import GoSem.ClaimSeven
namespace Go.Proofs.YtocogipejchneaaDoor
namespace Rows

/-- THE TIED CARD OF 'laws.FnExactSwapsFor'. -/
def fnExactSwapsForCard : Claim7 := { stood := { row := fnExactSwapsForRow, standIns := [], harness := (true, "bdbf59ac6b98b03ea47f951006a4e5003083b575ae0bc0641bc897b2a9e7c543"), looks := true }, kinds := [], alts := [], laidByText := true, laidKinds := [.handle], laidTests := true, laidLooks := .later }
def FnExactSwapsForCardSaid : Prop := Claim7.holds Tryd.pinned (.plain (OpenSpec.ofChange fnExactSwapsForSpec)) fnExactSwapsForCard

/-- THE TIED CARD OF 'laws.FnExactExchangesFor'. -/
def fnExactExchangesForCard : Claim7 := { stood := { row := fnExactExchangesForRow, standIns := [], harness := (true, "bdbf59ac6b98b03ea47f951006a4e5003083b575ae0bc0641bc897b2a9e7c543"), looks := true }, kinds := [], alts := [], laidByText := true, laidKinds := [.handle], laidTests := true, laidLooks := .later }
def FnExactExchangesForCardSaid : Prop := Claim7.holds Tryd.pinned (.plain (OpenSpec.ofChange fnExactExchangesForSpec)) fnExactExchangesForCard

/-- THE SECOND FORM's CARD OF 'laws.FnExactSwapsFor'. -/
def fnExactSwapsForUptoCard : Claim7 := { stood := { row := fnExactSwapsForUptoRow, standIns := [], harness := (true, "bdbf59ac6b98b03ea47f951006a4e5003083b575ae0bc0641bc897b2a9e7c543"), looks := true }, kinds := [], alts := [], laidByText := true, laidKinds := [.handle], laidTests := true, laidLooks := .later }
def FnExactSwapsForUptoCardSaid : Prop := Claim7.holds Tryd.pinned (.plain (OpenSpec.upto fnExactSwapsForSpec)) fnExactSwapsForUptoCard

/-- THE SECOND FORM's CARD OF 'laws.FnExactExchangesFor'. -/
def fnExactExchangesForUptoCard : Claim7 := { stood := { row := fnExactExchangesForUptoRow, standIns := [], harness := (true, "bdbf59ac6b98b03ea47f951006a4e5003083b575ae0bc0641bc897b2a9e7c543"), looks := true }, kinds := [], alts := [], laidByText := true, laidKinds := [.handle], laidTests := true, laidLooks := .later }
def FnExactExchangesForUptoCardSaid : Prop := Claim7.holds Tryd.pinned (.plain (OpenSpec.upto fnExactExchangesForSpec)) fnExactExchangesForUptoCard
end Rows
end Go.Proofs.YtocogipejchneaaDoor
