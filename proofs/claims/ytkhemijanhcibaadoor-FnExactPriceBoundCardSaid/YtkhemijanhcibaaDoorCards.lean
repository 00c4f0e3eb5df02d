/-
  DERIVED. GIVEN WITH THE SEED: THE CARDS: each row of YtkhemijanhcibaaDoorRows.lean that lists a variable, with what it lists TIED to the program's text (the seventh form; the later family's looks); each row that meets fmt, with fmt's text TOLD by the authors' own Lean function (tested against real Go, not proved from fmt's source: count such statements apart). THE CARD IS WHAT COUNTS. Prove the row's statement (the work); the ties are given (YtkhemijanhcibaaDoorTie.lean); close each card by the builder's one call (the guide's Derived/Test/ToyasCard.lean, 'card_holds'). Laid BY PROGRAM, IN A SANDBOX (cutbox-door.mjs). By AI agents, Wed Nov 11 2026. No macro, syntax, notation, axiom, sorry.
-/
import Derived.Test.YtkhemijanhcibaaDoorRows
import GoSem.ClaimSeven
namespace Go.Proofs.YtkhemijanhcibaaDoor
namespace Rows

/-- THE TIED CARD OF 'laws.FnExactStepFor'. -/
def fnExactStepForCard : Claim7 := { stood := { row := fnExactStepForRow, standIns := [], harness := (true, "403657d57bb0d4f1160e1bb66e95352e9da145d2e9916dbfeeaa993687884a94"), looks := true }, kinds := [], alts := [], laidByText := true, laidKinds := [.sentinel, .sentinel, .sentinel, .sentinel], laidTests := true, laidLooks := .later }
def FnExactStepForCardSaid : Prop := Claim7.holds Tryd.pinned (.plain (OpenSpec.ofChange fnExactStepForSpec)) fnExactStepForCard

/-- THE TIED CARD OF 'laws.FnExactPriceOf'. -/
def fnExactPriceOfCard : Claim7 := { stood := { row := fnExactPriceOfRow, standIns := [], harness := (true, "403657d57bb0d4f1160e1bb66e95352e9da145d2e9916dbfeeaa993687884a94"), looks := true }, kinds := [], alts := [], laidByText := true, laidKinds := [.sentinel, .sentinel, .sentinel, .sentinel], laidTests := true, laidLooks := .later }
def FnExactPriceOfCardSaid : Prop := Claim7.holds Tryd.pinned (.plain (OpenSpec.ofChange fnExactPriceOfSpec)) fnExactPriceOfCard

/-- THE TIED CARD OF 'laws.FnExactPricesOf'. -/
def fnExactPricesOfCard : Claim7 := { stood := { row := fnExactPricesOfRow, standIns := [], harness := (true, "403657d57bb0d4f1160e1bb66e95352e9da145d2e9916dbfeeaa993687884a94"), looks := true }, kinds := [], alts := [], laidByText := true, laidKinds := [.sentinel, .sentinel, .sentinel, .sentinel], laidTests := true, laidLooks := .later }
def FnExactPricesOfCardSaid : Prop := Claim7.holds Tryd.pinned (.plain (OpenSpec.ofChange fnExactPricesOfSpec)) fnExactPricesOfCard

/-- THE TIED CARD OF 'laws.FnExactHeaviestFor'. -/
def fnExactHeaviestForCard : Claim7 := { stood := { row := fnExactHeaviestForRow, standIns := [], harness := (true, "403657d57bb0d4f1160e1bb66e95352e9da145d2e9916dbfeeaa993687884a94"), looks := true }, kinds := [], alts := [], laidByText := true, laidKinds := [.sentinel, .sentinel, .sentinel], laidTests := true, laidLooks := .later }
def FnExactHeaviestForCardSaid : Prop := Claim7.holds Tryd.pinned (.plain (OpenSpec.ofChange fnExactHeaviestForSpec)) fnExactHeaviestForCard

/-- THE TIED CARD OF 'laws.FnExactFirstDearer'. -/
def fnExactFirstDearerCard : Claim7 := { stood := { row := fnExactFirstDearerRow, standIns := [], harness := (true, "403657d57bb0d4f1160e1bb66e95352e9da145d2e9916dbfeeaa993687884a94"), looks := true }, kinds := [], alts := [], laidByText := true, laidKinds := [.sentinel, .sentinel, .sentinel], laidTests := true, laidLooks := .later }
def FnExactFirstDearerCardSaid : Prop := Claim7.holds Tryd.pinned (.plain (OpenSpec.ofChange fnExactFirstDearerSpec)) fnExactFirstDearerCard

/-- THE TIED CARD OF 'laws.FnExactJoinedPrice'. -/
def fnExactJoinedPriceCard : Claim7 := { stood := { row := fnExactJoinedPriceRow, standIns := [], harness := (true, "403657d57bb0d4f1160e1bb66e95352e9da145d2e9916dbfeeaa993687884a94"), looks := true }, kinds := [], alts := [], laidByText := true, laidKinds := [.sentinel, .sentinel, .sentinel, .sentinel], laidTests := true, laidLooks := .later }
def FnExactJoinedPriceCardSaid : Prop := Claim7.holds Tryd.pinned (.plain (OpenSpec.ofChange fnExactJoinedPriceSpec)) fnExactJoinedPriceCard

/-- THE TIED CARD OF 'laws.FnExactCheckParcels'. -/
def fnExactCheckParcelsCard : Claim7 := { stood := { row := fnExactCheckParcelsRow, standIns := [], harness := (true, "403657d57bb0d4f1160e1bb66e95352e9da145d2e9916dbfeeaa993687884a94"), looks := true }, kinds := [], alts := [], laidByText := true, laidKinds := [.sentinel, .sentinel, .sentinel], laidTests := true, laidLooks := .later }
def FnExactCheckParcelsCardSaid : Prop := Claim7.holds Tryd.pinned (.plain (OpenSpec.ofChange fnExactCheckParcelsSpec)) fnExactCheckParcelsCard

/-- THE TIED CARD OF 'laws.FnExactPriceBound'. -/
def fnExactPriceBoundCard : Claim7 := { stood := { row := fnExactPriceBoundRow, standIns := [], harness := (true, "403657d57bb0d4f1160e1bb66e95352e9da145d2e9916dbfeeaa993687884a94"), looks := true }, kinds := [], alts := [], laidByText := true, laidKinds := [.sentinel, .sentinel, .sentinel, .sentinel], laidTests := true, laidLooks := .later }
def FnExactPriceBoundCardSaid : Prop := Claim7.holds Tryd.pinned (.plain (OpenSpec.ofChange fnExactPriceBoundSpec)) fnExactPriceBoundCard

/-- THE SECOND FORM's CARD OF 'laws.FnExactStepFor'. -/
def fnExactStepForUptoCard : Claim7 := { stood := { row := fnExactStepForUptoRow, standIns := [], harness := (true, "403657d57bb0d4f1160e1bb66e95352e9da145d2e9916dbfeeaa993687884a94"), looks := true }, kinds := [], alts := [], laidByText := true, laidKinds := [.sentinel, .sentinel, .sentinel, .sentinel], laidTests := true, laidLooks := .later }
def FnExactStepForUptoCardSaid : Prop := Claim7.holds Tryd.pinned (.plain (OpenSpec.upto fnExactStepForSpec)) fnExactStepForUptoCard

/-- THE SECOND FORM's CARD OF 'laws.FnExactPriceOf'. -/
def fnExactPriceOfUptoCard : Claim7 := { stood := { row := fnExactPriceOfUptoRow, standIns := [], harness := (true, "403657d57bb0d4f1160e1bb66e95352e9da145d2e9916dbfeeaa993687884a94"), looks := true }, kinds := [], alts := [], laidByText := true, laidKinds := [.sentinel, .sentinel, .sentinel, .sentinel], laidTests := true, laidLooks := .later }
def FnExactPriceOfUptoCardSaid : Prop := Claim7.holds Tryd.pinned (.plain (OpenSpec.upto fnExactPriceOfSpec)) fnExactPriceOfUptoCard

/-- THE SECOND FORM's CARD OF 'laws.FnExactPricesOf'. -/
def fnExactPricesOfUptoCard : Claim7 := { stood := { row := fnExactPricesOfUptoRow, standIns := [], harness := (true, "403657d57bb0d4f1160e1bb66e95352e9da145d2e9916dbfeeaa993687884a94"), looks := true }, kinds := [], alts := [], laidByText := true, laidKinds := [.sentinel, .sentinel, .sentinel, .sentinel], laidTests := true, laidLooks := .later }
def FnExactPricesOfUptoCardSaid : Prop := Claim7.holds Tryd.pinned (.plain (OpenSpec.upto fnExactPricesOfSpec)) fnExactPricesOfUptoCard

/-- THE SECOND FORM's CARD OF 'laws.FnExactHeaviestFor'. -/
def fnExactHeaviestForUptoCard : Claim7 := { stood := { row := fnExactHeaviestForUptoRow, standIns := [], harness := (true, "403657d57bb0d4f1160e1bb66e95352e9da145d2e9916dbfeeaa993687884a94"), looks := true }, kinds := [], alts := [], laidByText := true, laidKinds := [.sentinel, .sentinel, .sentinel], laidTests := true, laidLooks := .later }
def FnExactHeaviestForUptoCardSaid : Prop := Claim7.holds Tryd.pinned (.plain (OpenSpec.upto fnExactHeaviestForSpec)) fnExactHeaviestForUptoCard

/-- THE SECOND FORM's CARD OF 'laws.FnExactFirstDearer'. -/
def fnExactFirstDearerUptoCard : Claim7 := { stood := { row := fnExactFirstDearerUptoRow, standIns := [], harness := (true, "403657d57bb0d4f1160e1bb66e95352e9da145d2e9916dbfeeaa993687884a94"), looks := true }, kinds := [], alts := [], laidByText := true, laidKinds := [.sentinel, .sentinel, .sentinel], laidTests := true, laidLooks := .later }
def FnExactFirstDearerUptoCardSaid : Prop := Claim7.holds Tryd.pinned (.plain (OpenSpec.upto fnExactFirstDearerSpec)) fnExactFirstDearerUptoCard

/-- THE SECOND FORM's CARD OF 'laws.FnExactJoinedPrice'. -/
def fnExactJoinedPriceUptoCard : Claim7 := { stood := { row := fnExactJoinedPriceUptoRow, standIns := [], harness := (true, "403657d57bb0d4f1160e1bb66e95352e9da145d2e9916dbfeeaa993687884a94"), looks := true }, kinds := [], alts := [], laidByText := true, laidKinds := [.sentinel, .sentinel, .sentinel, .sentinel], laidTests := true, laidLooks := .later }
def FnExactJoinedPriceUptoCardSaid : Prop := Claim7.holds Tryd.pinned (.plain (OpenSpec.upto fnExactJoinedPriceSpec)) fnExactJoinedPriceUptoCard

/-- THE SECOND FORM's CARD OF 'laws.FnExactCheckParcels'. -/
def fnExactCheckParcelsUptoCard : Claim7 := { stood := { row := fnExactCheckParcelsUptoRow, standIns := [], harness := (true, "403657d57bb0d4f1160e1bb66e95352e9da145d2e9916dbfeeaa993687884a94"), looks := true }, kinds := [], alts := [], laidByText := true, laidKinds := [.sentinel, .sentinel, .sentinel], laidTests := true, laidLooks := .later }
def FnExactCheckParcelsUptoCardSaid : Prop := Claim7.holds Tryd.pinned (.plain (OpenSpec.upto fnExactCheckParcelsSpec)) fnExactCheckParcelsUptoCard

/-- THE SECOND FORM's CARD OF 'laws.FnExactPriceBound'. -/
def fnExactPriceBoundUptoCard : Claim7 := { stood := { row := fnExactPriceBoundUptoRow, standIns := [], harness := (true, "403657d57bb0d4f1160e1bb66e95352e9da145d2e9916dbfeeaa993687884a94"), looks := true }, kinds := [], alts := [], laidByText := true, laidKinds := [.sentinel, .sentinel, .sentinel, .sentinel], laidTests := true, laidLooks := .later }
def FnExactPriceBoundUptoCardSaid : Prop := Claim7.holds Tryd.pinned (.plain (OpenSpec.upto fnExactPriceBoundSpec)) fnExactPriceBoundUptoCard
end Rows
end Go.Proofs.YtkhemijanhcibaaDoor
