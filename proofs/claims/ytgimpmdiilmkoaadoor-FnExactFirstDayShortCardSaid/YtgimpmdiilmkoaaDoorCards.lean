/-
  DERIVED. GIVEN WITH THE SEED: THE CARDS: each row of YtgimpmdiilmkoaaDoorRows.lean that lists a variable, with what it lists TIED to the program's text (the seventh form; the later family's looks); each row that meets fmt, with fmt's text TOLD by the authors' own Lean function (tested against real Go, not proved from fmt's source: count such statements apart). THE CARD IS WHAT COUNTS. Prove the row's statement (the work); the ties are given (YtgimpmdiilmkoaaDoorTie.lean); close each card by the builder's one call (the guide's Derived/Test/ToyasCard.lean, 'card_holds'). Laid BY PROGRAM, IN A SANDBOX (cutbox-door.mjs). By AI agents, Wed Nov 11 2026. No macro, syntax, notation, axiom, sorry.
-/
import Derived.Test.YtgimpmdiilmkoaaDoorRows
import GoSem.ClaimSeven
namespace Go.Proofs.YtgimpmdiilmkoaaDoor
namespace Rows

/-- THE TIED CARD OF 'laws.FnExactStillWith'. -/
def fnExactStillWithCard : Claim7 := { stood := { row := fnExactStillWithRow, standIns := [], harness := (true, "9673f89eed3c0599277de28dab324822229e4438cd2d8aab3ccc5cd20da36eda"), looks := true }, kinds := [], alts := [], laidByText := true, laidKinds := [.handle], laidTests := true, laidLooks := .later }
def FnExactStillWithCardSaid : Prop := Claim7.holds Tryd.pinned (.plain (OpenSpec.ofChange fnExactStillWithSpec)) fnExactStillWithCard

/-- THE TIED CARD OF 'laws.FnExactWorthAt'. -/
def fnExactWorthAtCard : Claim7 := { stood := { row := fnExactWorthAtRow, standIns := [], harness := (true, "9673f89eed3c0599277de28dab324822229e4438cd2d8aab3ccc5cd20da36eda"), looks := true }, kinds := [], alts := [], laidByText := true, laidKinds := [.handle], laidTests := true, laidLooks := .later }
def FnExactWorthAtCardSaid : Prop := Claim7.holds Tryd.pinned (.plain (OpenSpec.ofChange fnExactWorthAtSpec)) fnExactWorthAtCard

/-- THE TIED CARD OF 'laws.FnExactLostBy'. -/
def fnExactLostByCard : Claim7 := { stood := { row := fnExactLostByRow, standIns := [], harness := (true, "9673f89eed3c0599277de28dab324822229e4438cd2d8aab3ccc5cd20da36eda"), looks := true }, kinds := [], alts := [], laidByText := true, laidKinds := [.handle], laidTests := true, laidLooks := .later }
def FnExactLostByCardSaid : Prop := Claim7.holds Tryd.pinned (.plain (OpenSpec.ofChange fnExactLostBySpec)) fnExactLostByCard

/-- THE TIED CARD OF 'laws.FnExactPayVouchers'. -/
def fnExactPayVouchersCard : Claim7 := { stood := { row := fnExactPayVouchersRow, standIns := [], harness := (true, "9673f89eed3c0599277de28dab324822229e4438cd2d8aab3ccc5cd20da36eda"), looks := true }, kinds := [], alts := [], laidByText := true, laidKinds := [.handle], laidTests := true, laidLooks := .later }
def FnExactPayVouchersCardSaid : Prop := Claim7.holds Tryd.pinned (.plain (OpenSpec.ofChange fnExactPayVouchersSpec)) fnExactPayVouchersCard

/-- THE TIED CARD OF 'laws.FnExactFirstDayShort'. -/
def fnExactFirstDayShortCard : Claim7 := { stood := { row := fnExactFirstDayShortRow, standIns := [], harness := (true, "9673f89eed3c0599277de28dab324822229e4438cd2d8aab3ccc5cd20da36eda"), looks := true }, kinds := [], alts := [], laidByText := true, laidKinds := [.handle], laidTests := true, laidLooks := .later }
def FnExactFirstDayShortCardSaid : Prop := Claim7.holds Tryd.pinned (.plain (OpenSpec.ofChange fnExactFirstDayShortSpec)) fnExactFirstDayShortCard

/-- THE TIED CARD OF 'laws.FnExactCheckMatches'. -/
def fnExactCheckMatchesCard : Claim7 := { stood := { row := fnExactCheckMatchesRow, standIns := [], harness := (true, "9673f89eed3c0599277de28dab324822229e4438cd2d8aab3ccc5cd20da36eda"), looks := true }, kinds := [], alts := [], laidByText := true, laidKinds := [.handle], laidTests := true, laidLooks := .later }
def FnExactCheckMatchesCardSaid : Prop := Claim7.holds Tryd.pinned (.plain (OpenSpec.ofChange fnExactCheckMatchesSpec)) fnExactCheckMatchesCard

/-- THE TIED CARD OF 'laws.FnExactSwapsFor'. -/
def fnExactSwapsForCard : Claim7 := { stood := { row := fnExactSwapsForRow, standIns := [], harness := (true, "9673f89eed3c0599277de28dab324822229e4438cd2d8aab3ccc5cd20da36eda"), looks := true }, kinds := [], alts := [], laidByText := true, laidKinds := [.handle], laidTests := true, laidLooks := .later }
def FnExactSwapsForCardSaid : Prop := Claim7.holds Tryd.pinned (.plain (OpenSpec.ofChange fnExactSwapsForSpec)) fnExactSwapsForCard

/-- THE TIED CARD OF 'laws.FnExactExchangesFor'. -/
def fnExactExchangesForCard : Claim7 := { stood := { row := fnExactExchangesForRow, standIns := [], harness := (true, "9673f89eed3c0599277de28dab324822229e4438cd2d8aab3ccc5cd20da36eda"), looks := true }, kinds := [], alts := [], laidByText := true, laidKinds := [.handle], laidTests := true, laidLooks := .later }
def FnExactExchangesForCardSaid : Prop := Claim7.holds Tryd.pinned (.plain (OpenSpec.ofChange fnExactExchangesForSpec)) fnExactExchangesForCard

/-- THE TIED CARD OF 'laws.FnExactRefundOf'. -/
def fnExactRefundOfCard : Claim7 := { stood := { row := fnExactRefundOfRow, standIns := [], harness := (true, "9673f89eed3c0599277de28dab324822229e4438cd2d8aab3ccc5cd20da36eda"), looks := true }, kinds := [], alts := [], laidByText := true, laidKinds := [.handle], laidTests := true, laidLooks := .later }
def FnExactRefundOfCardSaid : Prop := Claim7.holds Tryd.pinned (.plain (OpenSpec.ofChange fnExactRefundOfSpec)) fnExactRefundOfCard

/-- THE SECOND FORM's CARD OF 'laws.FnExactStillWith'. -/
def fnExactStillWithUptoCard : Claim7 := { stood := { row := fnExactStillWithUptoRow, standIns := [], harness := (true, "9673f89eed3c0599277de28dab324822229e4438cd2d8aab3ccc5cd20da36eda"), looks := true }, kinds := [], alts := [], laidByText := true, laidKinds := [.handle], laidTests := true, laidLooks := .later }
def FnExactStillWithUptoCardSaid : Prop := Claim7.holds Tryd.pinned (.plain (OpenSpec.upto fnExactStillWithSpec)) fnExactStillWithUptoCard

/-- THE SECOND FORM's CARD OF 'laws.FnExactWorthAt'. -/
def fnExactWorthAtUptoCard : Claim7 := { stood := { row := fnExactWorthAtUptoRow, standIns := [], harness := (true, "9673f89eed3c0599277de28dab324822229e4438cd2d8aab3ccc5cd20da36eda"), looks := true }, kinds := [], alts := [], laidByText := true, laidKinds := [.handle], laidTests := true, laidLooks := .later }
def FnExactWorthAtUptoCardSaid : Prop := Claim7.holds Tryd.pinned (.plain (OpenSpec.upto fnExactWorthAtSpec)) fnExactWorthAtUptoCard

/-- THE SECOND FORM's CARD OF 'laws.FnExactLostBy'. -/
def fnExactLostByUptoCard : Claim7 := { stood := { row := fnExactLostByUptoRow, standIns := [], harness := (true, "9673f89eed3c0599277de28dab324822229e4438cd2d8aab3ccc5cd20da36eda"), looks := true }, kinds := [], alts := [], laidByText := true, laidKinds := [.handle], laidTests := true, laidLooks := .later }
def FnExactLostByUptoCardSaid : Prop := Claim7.holds Tryd.pinned (.plain (OpenSpec.upto fnExactLostBySpec)) fnExactLostByUptoCard

/-- THE SECOND FORM's CARD OF 'laws.FnExactPayVouchers'. -/
def fnExactPayVouchersUptoCard : Claim7 := { stood := { row := fnExactPayVouchersUptoRow, standIns := [], harness := (true, "9673f89eed3c0599277de28dab324822229e4438cd2d8aab3ccc5cd20da36eda"), looks := true }, kinds := [], alts := [], laidByText := true, laidKinds := [.handle], laidTests := true, laidLooks := .later }
def FnExactPayVouchersUptoCardSaid : Prop := Claim7.holds Tryd.pinned (.plain (OpenSpec.upto fnExactPayVouchersSpec)) fnExactPayVouchersUptoCard

/-- THE SECOND FORM's CARD OF 'laws.FnExactFirstDayShort'. -/
def fnExactFirstDayShortUptoCard : Claim7 := { stood := { row := fnExactFirstDayShortUptoRow, standIns := [], harness := (true, "9673f89eed3c0599277de28dab324822229e4438cd2d8aab3ccc5cd20da36eda"), looks := true }, kinds := [], alts := [], laidByText := true, laidKinds := [.handle], laidTests := true, laidLooks := .later }
def FnExactFirstDayShortUptoCardSaid : Prop := Claim7.holds Tryd.pinned (.plain (OpenSpec.upto fnExactFirstDayShortSpec)) fnExactFirstDayShortUptoCard

/-- THE SECOND FORM's CARD OF 'laws.FnExactCheckMatches'. -/
def fnExactCheckMatchesUptoCard : Claim7 := { stood := { row := fnExactCheckMatchesUptoRow, standIns := [], harness := (true, "9673f89eed3c0599277de28dab324822229e4438cd2d8aab3ccc5cd20da36eda"), looks := true }, kinds := [], alts := [], laidByText := true, laidKinds := [.handle], laidTests := true, laidLooks := .later }
def FnExactCheckMatchesUptoCardSaid : Prop := Claim7.holds Tryd.pinned (.plain (OpenSpec.upto fnExactCheckMatchesSpec)) fnExactCheckMatchesUptoCard

/-- THE SECOND FORM's CARD OF 'laws.FnExactSwapsFor'. -/
def fnExactSwapsForUptoCard : Claim7 := { stood := { row := fnExactSwapsForUptoRow, standIns := [], harness := (true, "9673f89eed3c0599277de28dab324822229e4438cd2d8aab3ccc5cd20da36eda"), looks := true }, kinds := [], alts := [], laidByText := true, laidKinds := [.handle], laidTests := true, laidLooks := .later }
def FnExactSwapsForUptoCardSaid : Prop := Claim7.holds Tryd.pinned (.plain (OpenSpec.upto fnExactSwapsForSpec)) fnExactSwapsForUptoCard

/-- THE SECOND FORM's CARD OF 'laws.FnExactExchangesFor'. -/
def fnExactExchangesForUptoCard : Claim7 := { stood := { row := fnExactExchangesForUptoRow, standIns := [], harness := (true, "9673f89eed3c0599277de28dab324822229e4438cd2d8aab3ccc5cd20da36eda"), looks := true }, kinds := [], alts := [], laidByText := true, laidKinds := [.handle], laidTests := true, laidLooks := .later }
def FnExactExchangesForUptoCardSaid : Prop := Claim7.holds Tryd.pinned (.plain (OpenSpec.upto fnExactExchangesForSpec)) fnExactExchangesForUptoCard

/-- THE SECOND FORM's CARD OF 'laws.FnExactRefundOf'. -/
def fnExactRefundOfUptoCard : Claim7 := { stood := { row := fnExactRefundOfUptoRow, standIns := [], harness := (true, "9673f89eed3c0599277de28dab324822229e4438cd2d8aab3ccc5cd20da36eda"), looks := true }, kinds := [], alts := [], laidByText := true, laidKinds := [.handle], laidTests := true, laidLooks := .later }
def FnExactRefundOfUptoCardSaid : Prop := Claim7.holds Tryd.pinned (.plain (OpenSpec.upto fnExactRefundOfSpec)) fnExactRefundOfUptoCard
end Rows
end Go.Proofs.YtgimpmdiilmkoaaDoor
