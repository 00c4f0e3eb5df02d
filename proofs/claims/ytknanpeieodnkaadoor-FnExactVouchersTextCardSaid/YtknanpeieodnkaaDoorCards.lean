/-
  DERIVED. GIVEN WITH THE SEED: THE CARDS: each row of YtknanpeieodnkaaDoorRows.lean that lists a variable, with what it lists TIED to the program's text (the seventh form; the later family's looks); each row that meets fmt, with fmt's text TOLD by the authors' own Lean function (tested against real Go, not proved from fmt's source: count such statements apart). THE CARD IS WHAT COUNTS. Prove the row's statement (the work); the ties are given (YtknanpeieodnkaaDoorTie.lean); close each card by the builder's one call (the guide's Derived/Test/ToyasCard.lean, 'card_holds'). Laid BY PROGRAM, IN A SANDBOX (cutbox-door.mjs). By AI agents, Wed Nov 11 2026. No macro, syntax, notation, axiom, sorry.
-/
import Derived.Test.YtknanpeieodnkaaDoorRows
import GoSem.ClaimSeven
namespace Go.Proofs.YtknanpeieodnkaaDoor
namespace Rows

/-- THE TIED CARD OF 'laws.FnExactVouchersText'. -/
def fnExactVouchersTextCard : Claim7 := { stood := { row := fnExactVouchersTextRow, standIns := [], harness := (true, "9bae006ed895daad002fcc30cffa269e647ecca7f9d4a825bd69064b18954e7b"), looks := false }, kinds := [], alts := [], laidByText := true, laidKinds := [.data, .data, .data], laidTests := true, laidLooks := .later }
def FnExactVouchersTextCardSaid : Prop := Claim7.holds Tryd.pinned (.plain (OpenSpec.ofChange fnExactVouchersTextSpec)) fnExactVouchersTextCard

/-- THE SECOND FORM's CARD OF 'laws.FnExactVouchersText'. -/
def fnExactVouchersTextUptoCard : Claim7 := { stood := { row := fnExactVouchersTextUptoRow, standIns := [], harness := (true, "9bae006ed895daad002fcc30cffa269e647ecca7f9d4a825bd69064b18954e7b"), looks := false }, kinds := [], alts := [], laidByText := true, laidKinds := [.data, .data, .data], laidTests := true, laidLooks := .later }
def FnExactVouchersTextUptoCardSaid : Prop := Claim7.holds Tryd.pinned (.plain (OpenSpec.upto fnExactVouchersTextSpec)) fnExactVouchersTextUptoCard
end Rows
end Go.Proofs.YtknanpeieodnkaaDoor
