/-
  Contracts of both CanPay and of both LeastOver.
-/
import Derived.Test.YtmhjckbndhcbmaaWays
import Derived.Test.YtmhjckbndhcbmaaFew
namespace Go.Proofs.Ytmhjckbndhcbmaa
open Go Go.RowKit
set_option linter.unusedVariables false

/-- Whether n can be paid, false where the code is not OK. -/
def canRes (xs : List Int) (n : Int) : Bool := decide (codeOf xs (inB n 0 1000) = 0 ∧ 0 ≤ fewV xs n.toNat)
theorem canRes_ok {xs : List Int} {n : Int} (h : codeOf xs (inB n 0 1000) = 0) : canRes xs n = decide (0 ≤ fewV xs n.toNat) := by simp [canRes, h]
theorem canRes_not {xs : List Int} {n : Int} (h : codeOf xs (inB n 0 1000) ≠ 0) : canRes xs n = false := by simp [canRes, h]
theorem ret_bi {k : IntKind} {a b : Bool} {c d : Int} (h : a = b) (g : c = d) : Ending.returned (.tuple #[.bool a, .int k c]) = .returned (.tuple #[.bool b, .int k d]) := by rw [h, g]

/-- r is the least amount from n on that can be paid. -/
def Over (xs : List Int) (n r : Nat) : Prop := n ≤ r ∧ 0 ≤ fewV xs r ∧ ∀ b, n ≤ b → b < r → fewV xs b < 0
theorem Over.unique {xs : List Int} {n r s : Nat} (h : Over xs n r) (g : Over xs n s) : r = s := by
  by_cases h1 : r < s
  · have := g.2.2 r h.1 h1; have := h.2.1; omega
  · by_cases h2 : s < r
    · have := h.2.2 s g.1 h2; have := g.2.1; omega
    · omega
theorem pays_mult {xs : List Int} {v : Int} (hv : v ∈ xs) (k : Nat) : Pays xs (k * v.toNat) k := by
  induction k with
  | zero => simpa using Pays.zero
  | succ k ih =>
    have h := Pays.step v _ _ hv ih
    rwa [Nat.succ_mul]
theorem over_ex {xs : List Int} (hr : Rise xs xs.length) (h1 : 1 ≤ xs.length) (n : Nat) : ∃ r, n ≤ r ∧ r < n + (xs.getD 0 0).toNat ∧ 0 ≤ fewV xs r := by
  have hb := rise_bounds hr (by omega : 0 < xs.length)
  have hmem : xs.getD 0 0 ∈ xs := by
    simp only [List.getD, List.getElem?_eq_getElem (show 0 < xs.length by omega), Option.getD_some]
    exact List.getElem_mem _
  obtain ⟨v, hv⟩ : ∃ v : Nat, (xs.getD 0 0).toNat = v := ⟨_, rfl⟩
  have hv1 : 1 ≤ v := by omega
  have hdm := Nat.div_add_mod (n + v - 1) v
  have hml := Nat.mod_lt (n + v - 1) (show v > 0 by omega)
  have hp := pays_mult hmem ((n + v - 1) / v)
  rw [hv] at hp ⊢
  rw [Nat.mul_comm] at hp
  refine ⟨v * ((n + v - 1) / v), by omega, by omega, ?_⟩
  rcases fewV_few xs (rise_mem hr) (v * ((n + v - 1) / v)) with ⟨_, f⟩ | ⟨f, _⟩
  · exact absurd hp (f _)
  · exact f
open Classical in
noncomputable def overRes (xs : List Int) (n : Int) : Int := if h : codeOf xs (inB n 0 1000) = 0 ∧ ∃ r, Over xs n.toNat r then ((Classical.choose h.2 : Nat) : Int) else 0
theorem overRes_ok {xs : List Int} {n : Nat} {r : Nat} (h : codeOf xs (inB (n : Int) 0 1000) = 0) (g : Over xs n r) : overRes xs (n : Int) = r := by
  have hx : codeOf xs (inB (n : Int) 0 1000) = 0 ∧ ∃ r, Over xs (n : Int).toNat r := ⟨h, r, by simpa using g⟩
  unfold overRes
  rw [dif_pos hx]
  have h1 : Over xs (n : Int).toNat (Classical.choose hx.2) := Classical.choose_spec hx.2
  have h2 : Over xs (n : Int).toNat r := by rw [Int.toNat_natCast]; exact g
  exact congrArg _ (h1.unique h2)
theorem overRes_not {xs : List Int} {n : Int} (h : codeOf xs (inB n 0 1000) ≠ 0) : overRes xs n = 0 := by
  unfold overRes
  rw [dif_neg (fun k => h k.1)]

end Go.Proofs.Ytmhjckbndhcbmaa
