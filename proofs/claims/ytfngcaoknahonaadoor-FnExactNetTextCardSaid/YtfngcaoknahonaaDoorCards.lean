/-
  DERIVED. GIVEN WITH THE SEED: THE CARDS: each row of YtfngcaoknahonaaDoorRows.lean that lists a variable, with what it lists TIED to the program's text (the seventh form; the later family's looks); each row that meets fmt, with fmt's text TOLD by the authors' own Lean function (tested against real Go, not proved from fmt's source: count such statements apart). THE CARD IS WHAT COUNTS. Prove the row's statement (the work); the ties are given (YtfngcaoknahonaaDoorTie.lean); close each card by the builder's one call (the guide's Derived/Test/ToyasCard.lean, 'card_holds'). Laid BY PROGRAM, IN A SANDBOX (cutbox-door.mjs). By AI agents, Wed Nov 11 2026. No macro, syntax, notation, axiom, sorry.
-/
import Derived.Test.YtfngcaoknahonaaDoorRows
import GoSem.ClaimSeven
namespace Go.Proofs.YtfngcaoknahonaaDoor
namespace Rows

/-- THE TIED CARD OF 'laws.FnExactNetText'. -/
def fnExactNetTextCard : Claim7 := { stood := { row := fnExactNetTextRow, standIns := [], harness := (true, "382bd020cb815e3fc7b7c1530fefc39b575a8d9e15d739b3ab81a1647df83eb1"), looks := false }, kinds := [], alts := [], laidByText := true, laidKinds := [.data, .data, .data], laidTests := true, laidLooks := .later }
def FnExactNetTextCardSaid : Prop := Claim7.holds Tryd.pinned (.plain (OpenSpec.ofChange fnExactNetTextSpec)) fnExactNetTextCard

/-- THE TIED CARD OF 'laws.FnExactStockText'. -/
def fnExactStockTextCard : Claim7 := { stood := { row := fnExactStockTextRow, standIns := [], harness := (true, "382bd020cb815e3fc7b7c1530fefc39b575a8d9e15d739b3ab81a1647df83eb1"), looks := false }, kinds := [], alts := [], laidByText := true, laidKinds := [.data, .data, .data], laidTests := true, laidLooks := .later }
def FnExactStockTextCardSaid : Prop := Claim7.holds Tryd.pinned (.plain (OpenSpec.ofChange fnExactStockTextSpec)) fnExactStockTextCard

/-- THE TIED CARD OF 'laws.FnExactParcelsText'. -/
def fnExactParcelsTextCard : Claim7 := { stood := { row := fnExactParcelsTextRow, standIns := [], harness := (true, "382bd020cb815e3fc7b7c1530fefc39b575a8d9e15d739b3ab81a1647df83eb1"), looks := false }, kinds := [], alts := [], laidByText := true, laidKinds := [.data, .data, .data], laidTests := true, laidLooks := .later }
def FnExactParcelsTextCardSaid : Prop := Claim7.holds Tryd.pinned (.plain (OpenSpec.ofChange fnExactParcelsTextSpec)) fnExactParcelsTextCard

/-- THE TIED CARD OF 'laws.FnExactVouchersText'. -/
def fnExactVouchersTextCard : Claim7 := { stood := { row := fnExactVouchersTextRow, standIns := [], harness := (true, "382bd020cb815e3fc7b7c1530fefc39b575a8d9e15d739b3ab81a1647df83eb1"), looks := false }, kinds := [], alts := [], laidByText := true, laidKinds := [.data, .data, .data], laidTests := true, laidLooks := .later }
def FnExactVouchersTextCardSaid : Prop := Claim7.holds Tryd.pinned (.plain (OpenSpec.ofChange fnExactVouchersTextSpec)) fnExactVouchersTextCard

/-- THE SECOND FORM's CARD OF 'laws.FnExactNetText'. -/
def fnExactNetTextUptoCard : Claim7 := { stood := { row := fnExactNetTextUptoRow, standIns := [], harness := (true, "382bd020cb815e3fc7b7c1530fefc39b575a8d9e15d739b3ab81a1647df83eb1"), looks := false }, kinds := [], alts := [], laidByText := true, laidKinds := [.data, .data, .data], laidTests := true, laidLooks := .later }
def FnExactNetTextUptoCardSaid : Prop := Claim7.holds Tryd.pinned (.plain (OpenSpec.upto fnExactNetTextSpec)) fnExactNetTextUptoCard

/-- THE SECOND FORM's CARD OF 'laws.FnExactStockText'. -/
def fnExactStockTextUptoCard : Claim7 := { stood := { row := fnExactStockTextUptoRow, standIns := [], harness := (true, "382bd020cb815e3fc7b7c1530fefc39b575a8d9e15d739b3ab81a1647df83eb1"), looks := false }, kinds := [], alts := [], laidByText := true, laidKinds := [.data, .data, .data], laidTests := true, laidLooks := .later }
def FnExactStockTextUptoCardSaid : Prop := Claim7.holds Tryd.pinned (.plain (OpenSpec.upto fnExactStockTextSpec)) fnExactStockTextUptoCard

/-- THE SECOND FORM's CARD OF 'laws.FnExactParcelsText'. -/
def fnExactParcelsTextUptoCard : Claim7 := { stood := { row := fnExactParcelsTextUptoRow, standIns := [], harness := (true, "382bd020cb815e3fc7b7c1530fefc39b575a8d9e15d739b3ab81a1647df83eb1"), looks := false }, kinds := [], alts := [], laidByText := true, laidKinds := [.data, .data, .data], laidTests := true, laidLooks := .later }
def FnExactParcelsTextUptoCardSaid : Prop := Claim7.holds Tryd.pinned (.plain (OpenSpec.upto fnExactParcelsTextSpec)) fnExactParcelsTextUptoCard

/-- THE SECOND FORM's CARD OF 'laws.FnExactVouchersText'. -/
def fnExactVouchersTextUptoCard : Claim7 := { stood := { row := fnExactVouchersTextUptoRow, standIns := [], harness := (true, "382bd020cb815e3fc7b7c1530fefc39b575a8d9e15d739b3ab81a1647df83eb1"), looks := false }, kinds := [], alts := [], laidByText := true, laidKinds := [.data, .data, .data], laidTests := true, laidLooks := .later }
def FnExactVouchersTextUptoCardSaid : Prop := Claim7.holds Tryd.pinned (.plain (OpenSpec.upto fnExactVouchersTextSpec)) fnExactVouchersTextUptoCard
end Rows
end Go.Proofs.YtfngcaoknahonaaDoor
