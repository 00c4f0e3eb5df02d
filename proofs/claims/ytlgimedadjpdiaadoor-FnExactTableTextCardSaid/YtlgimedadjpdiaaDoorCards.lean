/-
  DERIVED. GIVEN WITH THE SEED: THE CARDS: each row of YtlgimedadjpdiaaDoorRows.lean that lists a variable, with what it lists TIED to the program's text (the seventh form; the later family's looks); each row that meets fmt, with fmt's text TOLD by the authors' own Lean function (tested against real Go, not proved from fmt's source: count such statements apart). THE CARD IS WHAT COUNTS. Prove the row's statement (the work); the ties are given (YtlgimedadjpdiaaDoorTie.lean); close each card by the builder's one call (the guide's Derived/Test/ToyasCard.lean, 'card_holds'). Laid BY PROGRAM, IN A SANDBOX (cutbox-door.mjs). By AI agents, Wed Nov 11 2026. No macro, syntax, notation, axiom, sorry.
-/
import Derived.Test.YtlgimedadjpdiaaDoorRows
import GoSem.ClaimSeven
namespace Go.Proofs.YtlgimedadjpdiaaDoor
namespace Rows

/-- THE TIED CARD OF 'laws.FnExactFormText'. -/
def fnExactFormTextCard : Claim7 := { stood := { row := fnExactFormTextRow, standIns := [], harness := (true, "7408a41c0b1068923f18b59474fe4d479179a4f5db66898ce0c174af1fac3a4b"), looks := false }, kinds := [], alts := [], laidByText := true, laidKinds := [.data, .data, .data], laidTests := true, laidLooks := .later }
def FnExactFormTextCardSaid : Prop := Claim7.holds Tryd.pinned (.plain (OpenSpec.ofChange fnExactFormTextSpec)) fnExactFormTextCard

/-- THE TIED CARD OF 'laws.FnExactBoxesText'. -/
def fnExactBoxesTextCard : Claim7 := { stood := { row := fnExactBoxesTextRow, standIns := [], harness := (true, "7408a41c0b1068923f18b59474fe4d479179a4f5db66898ce0c174af1fac3a4b"), looks := false }, kinds := [], alts := [], laidByText := true, laidKinds := [.data, .data, .data], laidTests := true, laidLooks := .later }
def FnExactBoxesTextCardSaid : Prop := Claim7.holds Tryd.pinned (.plain (OpenSpec.ofChange fnExactBoxesTextSpec)) fnExactBoxesTextCard

/-- THE TIED CARD OF 'laws.FnExactParcelsText'. -/
def fnExactParcelsTextCard : Claim7 := { stood := { row := fnExactParcelsTextRow, standIns := [], harness := (true, "7408a41c0b1068923f18b59474fe4d479179a4f5db66898ce0c174af1fac3a4b"), looks := false }, kinds := [], alts := [], laidByText := true, laidKinds := [.data, .data, .data], laidTests := true, laidLooks := .later }
def FnExactParcelsTextCardSaid : Prop := Claim7.holds Tryd.pinned (.plain (OpenSpec.ofChange fnExactParcelsTextSpec)) fnExactParcelsTextCard

/-- THE TIED CARD OF 'laws.FnExactStockText'. -/
def fnExactStockTextCard : Claim7 := { stood := { row := fnExactStockTextRow, standIns := [], harness := (true, "7408a41c0b1068923f18b59474fe4d479179a4f5db66898ce0c174af1fac3a4b"), looks := false }, kinds := [], alts := [], laidByText := true, laidKinds := [.data, .data, .data], laidTests := true, laidLooks := .later }
def FnExactStockTextCardSaid : Prop := Claim7.holds Tryd.pinned (.plain (OpenSpec.ofChange fnExactStockTextSpec)) fnExactStockTextCard

/-- THE TIED CARD OF 'laws.FnExactTableText'. -/
def fnExactTableTextCard : Claim7 := { stood := { row := fnExactTableTextRow, standIns := [], harness := (true, "7408a41c0b1068923f18b59474fe4d479179a4f5db66898ce0c174af1fac3a4b"), looks := false }, kinds := [], alts := [], laidByText := true, laidKinds := [.data, .data, .data], laidTests := true, laidLooks := .later }
def FnExactTableTextCardSaid : Prop := Claim7.holds Tryd.pinned (.plain (OpenSpec.ofChange fnExactTableTextSpec)) fnExactTableTextCard

/-- THE SECOND FORM's CARD OF 'laws.FnExactFormText'. -/
def fnExactFormTextUptoCard : Claim7 := { stood := { row := fnExactFormTextUptoRow, standIns := [], harness := (true, "7408a41c0b1068923f18b59474fe4d479179a4f5db66898ce0c174af1fac3a4b"), looks := false }, kinds := [], alts := [], laidByText := true, laidKinds := [.data, .data, .data], laidTests := true, laidLooks := .later }
def FnExactFormTextUptoCardSaid : Prop := Claim7.holds Tryd.pinned (.plain (OpenSpec.upto fnExactFormTextSpec)) fnExactFormTextUptoCard

/-- THE SECOND FORM's CARD OF 'laws.FnExactBoxesText'. -/
def fnExactBoxesTextUptoCard : Claim7 := { stood := { row := fnExactBoxesTextUptoRow, standIns := [], harness := (true, "7408a41c0b1068923f18b59474fe4d479179a4f5db66898ce0c174af1fac3a4b"), looks := false }, kinds := [], alts := [], laidByText := true, laidKinds := [.data, .data, .data], laidTests := true, laidLooks := .later }
def FnExactBoxesTextUptoCardSaid : Prop := Claim7.holds Tryd.pinned (.plain (OpenSpec.upto fnExactBoxesTextSpec)) fnExactBoxesTextUptoCard

/-- THE SECOND FORM's CARD OF 'laws.FnExactParcelsText'. -/
def fnExactParcelsTextUptoCard : Claim7 := { stood := { row := fnExactParcelsTextUptoRow, standIns := [], harness := (true, "7408a41c0b1068923f18b59474fe4d479179a4f5db66898ce0c174af1fac3a4b"), looks := false }, kinds := [], alts := [], laidByText := true, laidKinds := [.data, .data, .data], laidTests := true, laidLooks := .later }
def FnExactParcelsTextUptoCardSaid : Prop := Claim7.holds Tryd.pinned (.plain (OpenSpec.upto fnExactParcelsTextSpec)) fnExactParcelsTextUptoCard

/-- THE SECOND FORM's CARD OF 'laws.FnExactStockText'. -/
def fnExactStockTextUptoCard : Claim7 := { stood := { row := fnExactStockTextUptoRow, standIns := [], harness := (true, "7408a41c0b1068923f18b59474fe4d479179a4f5db66898ce0c174af1fac3a4b"), looks := false }, kinds := [], alts := [], laidByText := true, laidKinds := [.data, .data, .data], laidTests := true, laidLooks := .later }
def FnExactStockTextUptoCardSaid : Prop := Claim7.holds Tryd.pinned (.plain (OpenSpec.upto fnExactStockTextSpec)) fnExactStockTextUptoCard

/-- THE SECOND FORM's CARD OF 'laws.FnExactTableText'. -/
def fnExactTableTextUptoCard : Claim7 := { stood := { row := fnExactTableTextUptoRow, standIns := [], harness := (true, "7408a41c0b1068923f18b59474fe4d479179a4f5db66898ce0c174af1fac3a4b"), looks := false }, kinds := [], alts := [], laidByText := true, laidKinds := [.data, .data, .data], laidTests := true, laidLooks := .later }
def FnExactTableTextUptoCardSaid : Prop := Claim7.holds Tryd.pinned (.plain (OpenSpec.upto fnExactTableTextSpec)) fnExactTableTextUptoCard
end Rows
end Go.Proofs.YtlgimedadjpdiaaDoor
