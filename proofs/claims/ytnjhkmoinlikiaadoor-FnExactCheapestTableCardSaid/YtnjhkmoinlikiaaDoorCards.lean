/-
  DERIVED. GIVEN WITH THE SEED: THE CARDS: each row of YtnjhkmoinlikiaaDoorRows.lean that lists a variable, with what it lists TIED to the program's text (the seventh form; the later family's looks); each row that meets fmt, with fmt's text TOLD by the authors' own Lean function (tested against real Go, not proved from fmt's source: count such statements apart). THE CARD IS WHAT COUNTS. Prove the row's statement (the work); the ties are given (YtnjhkmoinlikiaaDoorTie.lean); close each card by the builder's one call (the guide's Derived/Test/ToyasCard.lean, 'card_holds'). Laid BY PROGRAM, IN A SANDBOX (cutbox-door.mjs). By AI agents, Wed Nov 11 2026. No macro, syntax, notation, axiom, sorry.
-/
import Derived.Test.YtnjhkmoinlikiaaDoorRows
import GoSem.ClaimSeven
namespace Go.Proofs.YtnjhkmoinlikiaaDoor
namespace Rows

/-- THE TIED CARD OF 'laws.FnExactCheapestTable'. -/
def fnExactCheapestTableCard : Claim7 := { stood := { row := fnExactCheapestTableRow, standIns := [], harness := (true, "68e23c5e07e3970cadd76826c5a9ba0bc966832f8be44ec07134419c665b4aba"), looks := false }, kinds := [], alts := [], laidByText := true, laidKinds := [.sentinel], laidTests := true, laidLooks := .later }
def FnExactCheapestTableCardSaid : Prop := Claim7.holds Tryd.pinned (.plain (OpenSpec.ofChange fnExactCheapestTableSpec)) fnExactCheapestTableCard

/-- THE SECOND FORM's CARD OF 'laws.FnExactCheapestTable'. -/
def fnExactCheapestTableUptoCard : Claim7 := { stood := { row := fnExactCheapestTableUptoRow, standIns := [], harness := (true, "68e23c5e07e3970cadd76826c5a9ba0bc966832f8be44ec07134419c665b4aba"), looks := false }, kinds := [], alts := [], laidByText := true, laidKinds := [.sentinel], laidTests := true, laidLooks := .later }
def FnExactCheapestTableUptoCardSaid : Prop := Claim7.holds Tryd.pinned (.plain (OpenSpec.upto fnExactCheapestTableSpec)) fnExactCheapestTableUptoCard
end Rows
end Go.Proofs.YtnjhkmoinlikiaaDoor
