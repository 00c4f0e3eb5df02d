/-
  DERIVED. GIVEN WITH THE SEED: THE CARDS: each row of YtbclmafplaipaaaDoorRows.lean that lists a variable, with what it lists TIED to the program's text (the seventh form; the later family's looks); each row that meets fmt, with fmt's text TOLD by the authors' own Lean function (tested against real Go, not proved from fmt's source: count such statements apart). THE CARD IS WHAT COUNTS. Prove the row's statement (the work); the ties are given (YtbclmafplaipaaaDoorTie.lean); close each card by the builder's one call (the guide's Derived/Test/ToyasCard.lean, 'card_holds'). Laid BY PROGRAM, IN A SANDBOX (cutbox-door.mjs). By AI agents, Wed Nov 11 2026. No macro, syntax, notation, axiom, sorry.
-/
import Derived.Test.YtbclmafplaipaaaDoorRows
import GoSem.ClaimSeven
namespace Go.Proofs.YtbclmafplaipaaaDoor
namespace Rows

/-- THE TIED CARD OF 'laws.FnExactReadStock'. -/
def fnExactReadStockCard : Claim7 := { stood := { row := fnExactReadStockRow, standIns := [], harness := (true, "f7fc2e0c9959dff576c3bba8db14b3ca597cddc707d4f8f6e6bb8f3881c1a58a"), looks := true }, kinds := [], alts := [], laidByText := true, laidKinds := [.data, .data, .data, .data, .sentinel, .sentinel, .pinned], laidTests := true, laidLooks := .later }
def FnExactReadStockCardSaid : Prop := Claim7.holds Tryd.pinned (.plain (OpenSpec.ofChange fnExactReadStockSpec)) fnExactReadStockCard

/-- THE TIED CARD OF 'laws.FnExactReadBoxes'. -/
def fnExactReadBoxesCard : Claim7 := { stood := { row := fnExactReadBoxesRow, standIns := [], harness := (true, "f7fc2e0c9959dff576c3bba8db14b3ca597cddc707d4f8f6e6bb8f3881c1a58a"), looks := true }, kinds := [], alts := [], laidByText := true, laidKinds := [.data, .data, .data, .data, .sentinel, .sentinel, .pinned], laidTests := true, laidLooks := .later }
def FnExactReadBoxesCardSaid : Prop := Claim7.holds Tryd.pinned (.plain (OpenSpec.ofChange fnExactReadBoxesSpec)) fnExactReadBoxesCard

/-- THE TIED CARD OF 'laws.FnExactReadTable'. -/
def fnExactReadTableCard : Claim7 := { stood := { row := fnExactReadTableRow, standIns := [], harness := (true, "f7fc2e0c9959dff576c3bba8db14b3ca597cddc707d4f8f6e6bb8f3881c1a58a"), looks := true }, kinds := [], alts := [], laidByText := true, laidKinds := [.data, .data, .data, .data, .sentinel, .sentinel, .pinned], laidTests := true, laidLooks := .later }
def FnExactReadTableCardSaid : Prop := Claim7.holds Tryd.pinned (.plain (OpenSpec.ofChange fnExactReadTableSpec)) fnExactReadTableCard

/-- THE TIED CARD OF 'laws.FnExactReadParcels'. -/
def fnExactReadParcelsCard : Claim7 := { stood := { row := fnExactReadParcelsRow, standIns := [], harness := (true, "f7fc2e0c9959dff576c3bba8db14b3ca597cddc707d4f8f6e6bb8f3881c1a58a"), looks := true }, kinds := [], alts := [], laidByText := true, laidKinds := [.data, .data, .data, .data, .sentinel, .sentinel, .pinned], laidTests := true, laidLooks := .later }
def FnExactReadParcelsCardSaid : Prop := Claim7.holds Tryd.pinned (.plain (OpenSpec.ofChange fnExactReadParcelsSpec)) fnExactReadParcelsCard

/-- THE TIED CARD OF 'laws.FnExactReadBags'. -/
def fnExactReadBagsCard : Claim7 := { stood := { row := fnExactReadBagsRow, standIns := [], harness := (true, "f7fc2e0c9959dff576c3bba8db14b3ca597cddc707d4f8f6e6bb8f3881c1a58a"), looks := true }, kinds := [], alts := [], laidByText := true, laidKinds := [.data, .pinned], laidTests := true, laidLooks := .later }
def FnExactReadBagsCardSaid : Prop := Claim7.holds Tryd.pinned (.plain (OpenSpec.ofChange fnExactReadBagsSpec)) fnExactReadBagsCard

/-- THE TIED CARD OF 'laws.FnExactReadForm'. -/
def fnExactReadFormCard : Claim7 := { stood := { row := fnExactReadFormRow, standIns := [], harness := (true, "f7fc2e0c9959dff576c3bba8db14b3ca597cddc707d4f8f6e6bb8f3881c1a58a"), looks := true }, kinds := [], alts := [], laidByText := true, laidKinds := [.data, .data, .data, .sentinel, .sentinel], laidTests := true, laidLooks := .later }
def FnExactReadFormCardSaid : Prop := Claim7.holds Tryd.pinned (.plain (OpenSpec.ofChange fnExactReadFormSpec)) fnExactReadFormCard

/-- THE TIED CARD OF 'laws.FnExactReadVouchers'. -/
def fnExactReadVouchersCard : Claim7 := { stood := { row := fnExactReadVouchersRow, standIns := [], harness := (true, "f7fc2e0c9959dff576c3bba8db14b3ca597cddc707d4f8f6e6bb8f3881c1a58a"), looks := true }, kinds := [], alts := [], laidByText := true, laidKinds := [.data, .data, .data, .data, .sentinel, .sentinel, .pinned], laidTests := true, laidLooks := .later }
def FnExactReadVouchersCardSaid : Prop := Claim7.holds Tryd.pinned (.plain (OpenSpec.ofChange fnExactReadVouchersSpec)) fnExactReadVouchersCard

/-- THE TIED CARD OF 'laws.FnExactReadNet'. -/
def fnExactReadNetCard : Claim7 := { stood := { row := fnExactReadNetRow, standIns := [], harness := (true, "f7fc2e0c9959dff576c3bba8db14b3ca597cddc707d4f8f6e6bb8f3881c1a58a"), looks := true }, kinds := [], alts := [], laidByText := true, laidKinds := [.data, .data, .data, .sentinel, .sentinel], laidTests := true, laidLooks := .later }
def FnExactReadNetCardSaid : Prop := Claim7.holds Tryd.pinned (.plain (OpenSpec.ofChange fnExactReadNetSpec)) fnExactReadNetCard

/-- THE SECOND FORM's CARD OF 'laws.FnExactReadStock'. -/
def fnExactReadStockUptoCard : Claim7 := { stood := { row := fnExactReadStockUptoRow, standIns := [], harness := (true, "f7fc2e0c9959dff576c3bba8db14b3ca597cddc707d4f8f6e6bb8f3881c1a58a"), looks := true }, kinds := [], alts := [], laidByText := true, laidKinds := [.data, .data, .data, .data, .sentinel, .sentinel, .pinned], laidTests := true, laidLooks := .later }
def FnExactReadStockUptoCardSaid : Prop := Claim7.holds Tryd.pinned (.plain (OpenSpec.upto fnExactReadStockSpec)) fnExactReadStockUptoCard

/-- THE SECOND FORM's CARD OF 'laws.FnExactReadBoxes'. -/
def fnExactReadBoxesUptoCard : Claim7 := { stood := { row := fnExactReadBoxesUptoRow, standIns := [], harness := (true, "f7fc2e0c9959dff576c3bba8db14b3ca597cddc707d4f8f6e6bb8f3881c1a58a"), looks := true }, kinds := [], alts := [], laidByText := true, laidKinds := [.data, .data, .data, .data, .sentinel, .sentinel, .pinned], laidTests := true, laidLooks := .later }
def FnExactReadBoxesUptoCardSaid : Prop := Claim7.holds Tryd.pinned (.plain (OpenSpec.upto fnExactReadBoxesSpec)) fnExactReadBoxesUptoCard

/-- THE SECOND FORM's CARD OF 'laws.FnExactReadTable'. -/
def fnExactReadTableUptoCard : Claim7 := { stood := { row := fnExactReadTableUptoRow, standIns := [], harness := (true, "f7fc2e0c9959dff576c3bba8db14b3ca597cddc707d4f8f6e6bb8f3881c1a58a"), looks := true }, kinds := [], alts := [], laidByText := true, laidKinds := [.data, .data, .data, .data, .sentinel, .sentinel, .pinned], laidTests := true, laidLooks := .later }
def FnExactReadTableUptoCardSaid : Prop := Claim7.holds Tryd.pinned (.plain (OpenSpec.upto fnExactReadTableSpec)) fnExactReadTableUptoCard

/-- THE SECOND FORM's CARD OF 'laws.FnExactReadParcels'. -/
def fnExactReadParcelsUptoCard : Claim7 := { stood := { row := fnExactReadParcelsUptoRow, standIns := [], harness := (true, "f7fc2e0c9959dff576c3bba8db14b3ca597cddc707d4f8f6e6bb8f3881c1a58a"), looks := true }, kinds := [], alts := [], laidByText := true, laidKinds := [.data, .data, .data, .data, .sentinel, .sentinel, .pinned], laidTests := true, laidLooks := .later }
def FnExactReadParcelsUptoCardSaid : Prop := Claim7.holds Tryd.pinned (.plain (OpenSpec.upto fnExactReadParcelsSpec)) fnExactReadParcelsUptoCard

/-- THE SECOND FORM's CARD OF 'laws.FnExactReadBags'. -/
def fnExactReadBagsUptoCard : Claim7 := { stood := { row := fnExactReadBagsUptoRow, standIns := [], harness := (true, "f7fc2e0c9959dff576c3bba8db14b3ca597cddc707d4f8f6e6bb8f3881c1a58a"), looks := true }, kinds := [], alts := [], laidByText := true, laidKinds := [.data, .pinned], laidTests := true, laidLooks := .later }
def FnExactReadBagsUptoCardSaid : Prop := Claim7.holds Tryd.pinned (.plain (OpenSpec.upto fnExactReadBagsSpec)) fnExactReadBagsUptoCard

/-- THE SECOND FORM's CARD OF 'laws.FnExactReadForm'. -/
def fnExactReadFormUptoCard : Claim7 := { stood := { row := fnExactReadFormUptoRow, standIns := [], harness := (true, "f7fc2e0c9959dff576c3bba8db14b3ca597cddc707d4f8f6e6bb8f3881c1a58a"), looks := true }, kinds := [], alts := [], laidByText := true, laidKinds := [.data, .data, .data, .sentinel, .sentinel], laidTests := true, laidLooks := .later }
def FnExactReadFormUptoCardSaid : Prop := Claim7.holds Tryd.pinned (.plain (OpenSpec.upto fnExactReadFormSpec)) fnExactReadFormUptoCard

/-- THE SECOND FORM's CARD OF 'laws.FnExactReadVouchers'. -/
def fnExactReadVouchersUptoCard : Claim7 := { stood := { row := fnExactReadVouchersUptoRow, standIns := [], harness := (true, "f7fc2e0c9959dff576c3bba8db14b3ca597cddc707d4f8f6e6bb8f3881c1a58a"), looks := true }, kinds := [], alts := [], laidByText := true, laidKinds := [.data, .data, .data, .data, .sentinel, .sentinel, .pinned], laidTests := true, laidLooks := .later }
def FnExactReadVouchersUptoCardSaid : Prop := Claim7.holds Tryd.pinned (.plain (OpenSpec.upto fnExactReadVouchersSpec)) fnExactReadVouchersUptoCard

/-- THE SECOND FORM's CARD OF 'laws.FnExactReadNet'. -/
def fnExactReadNetUptoCard : Claim7 := { stood := { row := fnExactReadNetUptoRow, standIns := [], harness := (true, "f7fc2e0c9959dff576c3bba8db14b3ca597cddc707d4f8f6e6bb8f3881c1a58a"), looks := true }, kinds := [], alts := [], laidByText := true, laidKinds := [.data, .data, .data, .sentinel, .sentinel], laidTests := true, laidLooks := .later }
def FnExactReadNetUptoCardSaid : Prop := Claim7.holds Tryd.pinned (.plain (OpenSpec.upto fnExactReadNetSpec)) fnExactReadNetUptoCard
end Rows
end Go.Proofs.YtbclmafplaipaaaDoor
