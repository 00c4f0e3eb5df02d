/-
  Customs: plain functions. Which classes, lines and forms are valid; shares that are rounded; sums and duties of forms.
-/
import Derived.Test.YtocogipejchneaaBase
namespace Go.Proofs.Ytocogipejchneaa
open Go Go.RowKit
set_option linter.unusedVariables false

/-- A class: Num, Den, Gram, Least. -/
def okC (c : Int × Int × Int × Int) : Prop := (1 ≤ c.2.1 ∧ c.2.1 ≤ 1000) ∧ 0 ≤ c.1 ∧ c.1 ≤ c.2.1 ∧ (0 ≤ c.2.2.1 ∧ c.2.2.1 ≤ 100) ∧ (0 ≤ c.2.2.2 ∧ c.2.2.2 ≤ 1000000)
instance (c : Int × Int × Int × Int) : Decidable (okC c) := inferInstanceAs (Decidable (_ ∧ _))
def OkCTo (cs : List (Int × Int × Int × Int)) (k : Nat) : Prop := ∀ i, i < k → okC (cs.getD i (0, 0, 0, 0))
theorem OkCTo.zero (cs : List (Int × Int × Int × Int)) : OkCTo cs 0 := fun i hi => absurd hi (by omega)
theorem OkCTo.succ {cs : List (Int × Int × Int × Int)} {k : Nat} (h : OkCTo cs k) (h1 : okC (cs.getD k (0, 0, 0, 0))) : OkCTo cs (k + 1) := fun i hi => by
  by_cases e : i = k
  · subst e; exact h1
  · exact h i (by omega)
instance (cs : List (Int × Int × Int × Int)) (k : Nat) : Decidable (OkCTo cs k) := inferInstanceAs (Decidable (∀ i, i < k → _))
def vldC (cs : List (Int × Int × Int × Int)) : Bool := decide ((1 ≤ cs.length ∧ cs.length ≤ 8) ∧ OkCTo cs cs.length)
theorem vldC_true {cs : List (Int × Int × Int × Int)} (h2 : 1 ≤ cs.length ∧ cs.length ≤ 8) (h : OkCTo cs cs.length) : vldC cs = true := decide_eq_true ⟨h2, h⟩
theorem vldC_len {cs : List (Int × Int × Int × Int)} (h : ¬ (1 ≤ cs.length ∧ cs.length ≤ 8)) : vldC cs = false := decide_eq_false fun k => h k.1
theorem vldC_bad {cs : List (Int × Int × Int × Int)} {k : Nat} (hk : k < cs.length) (h : ¬ okC (cs.getD k (0, 0, 0, 0))) : vldC cs = false := decide_eq_false fun q => h (q.2 k hk)
theorem vldC_spec {cs : List (Int × Int × Int × Int)} (h : vldC cs = true) : (1 ≤ cs.length ∧ cs.length ≤ 8) ∧ OkCTo cs cs.length := of_decide_eq_true h

/-- A line: Class, Count, Value, Grams; valid for n classes. -/
def okL (n : Nat) (l : Int × Int × Int × Int) : Prop := (0 ≤ l.1 ∧ l.1 ≤ (n : Int) - 1) ∧ (1 ≤ l.2.1 ∧ l.2.1 ≤ 1000) ∧ (0 ≤ l.2.2.1 ∧ l.2.2.1 ≤ 1000000) ∧ (0 ≤ l.2.2.2 ∧ l.2.2.2 ≤ 1000000)
instance (n : Nat) (c : Int × Int × Int × Int) : Decidable (okL n c) := inferInstanceAs (Decidable (_ ∧ _))
def OkLTo (n : Nat) (ls : List (Int × Int × Int × Int)) (k : Nat) : Prop := ∀ i, i < k → okL n (ls.getD i (0, 0, 0, 0))
theorem OkLTo.zero (n : Nat) (ls : List (Int × Int × Int × Int)) : OkLTo n ls 0 := fun i hi => absurd hi (by omega)
theorem OkLTo.succ {n : Nat} {ls : List (Int × Int × Int × Int)} {k : Nat} (h : OkLTo n ls k) (h1 : okL n (ls.getD k (0, 0, 0, 0))) : OkLTo n ls (k + 1) := fun i hi => by
  by_cases e : i = k
  · subst e; exact h1
  · exact h i (by omega)
instance (n : Nat) (ls : List (Int × Int × Int × Int)) (k : Nat) : Decidable (OkLTo n ls k) := inferInstanceAs (Decidable (∀ i, i < k → _))
def vldF (cs ls : List (Int × Int × Int × Int)) : Bool := vldC cs && decide (ls.length ≤ 10 ∧ OkLTo cs.length ls ls.length)
theorem vldF_true {cs ls : List (Int × Int × Int × Int)} (h1 : vldC cs = true) (h2 : ls.length ≤ 10) (h : OkLTo cs.length ls ls.length) : vldF cs ls = true := by
  unfold vldF; rw [h1, decide_eq_true ⟨h2, h⟩]; rfl
theorem vldF_no {cs ls : List (Int × Int × Int × Int)} (h : vldC cs = false) : vldF cs ls = false := by unfold vldF; rw [h]; rfl
theorem vldF_len {cs ls : List (Int × Int × Int × Int)} (h : ¬ ls.length ≤ 10) : vldF cs ls = false := by
  unfold vldF; rw [decide_eq_false (fun k => h k.1)]; cases vldC cs <;> rfl
theorem vldF_bad {cs ls : List (Int × Int × Int × Int)} {k : Nat} (hk : k < ls.length) (h : ¬ okL cs.length (ls.getD k (0, 0, 0, 0))) : vldF cs ls = false := by
  unfold vldF; rw [decide_eq_false (fun q => h (q.2 k hk))]; cases vldC cs <;> rfl
theorem vldF_spec {cs ls : List (Int × Int × Int × Int)} (h : vldF cs ls = true) : vldC cs = true ∧ ls.length ≤ 10 ∧ OkLTo cs.length ls ls.length := by
  unfold vldF at h
  rw [Bool.and_eq_true] at h
  exact ⟨h.1, of_decide_eq_true h.2⟩

/-! ### shares -/
/-- A whole number and what is behind it, rounded. -/
def roundQ (q r d how : Int) : Int :=
  if how = 1 then (if 0 < r then q + 1 else q)
  else if how = 2 then (if d ≤ 2 * r then q + 1 else q)
  else if how = 3 then (if d < 2 * r ∨ (2 * r = d ∧ q % 2 = 1) then q + 1 else q)
  else q
def roundR (amount num den how : Int) : Int := roundQ (amount * num / den) (amount * num % den) den how
theorem div_in {p d : Int} (h0 : 0 ≤ p) (h1 : 1 ≤ d) : 0 ≤ p / d ∧ p / d ≤ p := ⟨Int.ediv_nonneg h0 (by omega), Int.ediv_le_self _ h0⟩
theorem mod_in {p d : Int} (h1 : 1 ≤ d) : 0 ≤ p % d ∧ p % d < d := ⟨Int.emod_nonneg _ (by omega), Int.emod_lt_of_pos _ (by omega)⟩
theorem roundQ_in (q r d how : Int) : q ≤ roundQ q r d how ∧ roundQ q r d how ≤ q + 1 := by
  unfold roundQ
  repeat' split
  all_goals omega
theorem prod_in {a b A B : Int} (h0 : 0 ≤ a) (h1 : a ≤ A) (h2 : 0 ≤ b) (h3 : b ≤ B) : 0 ≤ a * b ∧ a * b ≤ A * B :=
  ⟨Int.mul_nonneg h0 h2, Int.mul_le_mul h1 h3 h2 (by omega)⟩
theorem roundR_in {amount num den how A : Int} (ha : 0 ≤ amount) (hA : amount ≤ A) (hn : 0 ≤ num) (hn2 : num ≤ 1000) (hd : 1 ≤ den) : 0 ≤ roundR amount num den how ∧ roundR amount num den how ≤ A * 1000 + 1 := by
  have h1 := prod_in ha hA hn hn2
  have h2 := div_in h1.1 hd
  have h3 := roundQ_in (amount * num / den) (amount * num % den) den how
  unfold roundR
  omega
/-- The nature of a way of rounding. -/
def isHow (how : Int) : Bool := decide (0 ≤ how ∧ how ≤ 3)
theorem isHow_true {h : Int} (k : 0 ≤ h ∧ h ≤ 3) : isHow h = true := decide_eq_true k
theorem isHow_false {h : Int} (k : ¬ (0 ≤ h ∧ h ≤ 3)) : isHow h = false := decide_eq_false k
theorem isHow_spec {h : Int} (k : isHow h = true) : 0 ≤ h ∧ h ≤ 3 := of_decide_eq_true k

/-! ### sums and duties -/
/-- The sum of the values (v = 0) or of the grams (v = 1) of the first k lines. -/
def worthTo (ls : List (Int × Int × Int × Int)) : Nat → Int
  | 0 => 0
  | k + 1 => worthTo ls k + (ls.getD k (0, 0, 0, 0)).2.2.1
def gramsTo (ls : List (Int × Int × Int × Int)) : Nat → Int
  | 0 => 0
  | k + 1 => gramsTo ls k + (ls.getD k (0, 0, 0, 0)).2.2.2
def countTo (ls : List (Int × Int × Int × Int)) : Nat → Int
  | 0 => 0
  | k + 1 => countTo ls k + (ls.getD k (0, 0, 0, 0)).2.1
theorem sums_in {n : Nat} {ls : List (Int × Int × Int × Int)} {k : Nat} (h : OkLTo n ls k) : (0 ≤ countTo ls k ∧ countTo ls k ≤ 1000 * k) ∧ (0 ≤ worthTo ls k ∧ worthTo ls k ≤ 1000000 * k) ∧ (0 ≤ gramsTo ls k ∧ gramsTo ls k ≤ 1000000 * k) := by
  induction k with
  | zero => simp [countTo, worthTo, gramsTo]
  | succ k ih =>
    have h1 := ih (fun i hi => h i (by omega))
    have h2 := h k (by omega)
    unfold okL at h2
    rw [countTo, worthTo, gramsTo]
    omega
/-- The greater one of two numbers, behind a name that the walk leaves alone. -/
def mxI (a b : Int) : Int := if a < b then b else a
theorem mxI_left {a b : Int} (h : b ≤ a) : mxI a b = a := by unfold mxI; rw [if_neg (by omega)]
theorem mxI_right {a b : Int} (h : a ≤ b) : mxI a b = b := by unfold mxI; split <;> omega
theorem mxI_in (a b : Int) : (mxI a b = a ∨ mxI a b = b) ∧ a ≤ mxI a b ∧ b ≤ mxI a b := by unfold mxI; split <;> omega
/-- The duty of so much value and so many grams of a class. -/
def chargeR (c : Int × Int × Int × Int) (value grams how : Int) : Int := mxI (roundR value c.1 c.2.1 how + c.2.2.1 * grams) c.2.2.2
theorem chargeR_in {c : Int × Int × Int × Int} {value grams how : Int} (hc : okC c) (hv : 0 ≤ value) (hv2 : value ≤ 10000000) (hg : 0 ≤ grams) (hg2 : grams ≤ 10000000) :
    0 ≤ chargeR c value grams how ∧ chargeR c value grams how ≤ 20000000000 := by
  unfold okC at hc
  have h1 := roundR_in (how := how) hv hv2 hc.2.1 (show c.1 ≤ 1000 by omega) hc.1.1
  have h2 := prod_in hc.2.2.2.1.1 hc.2.2.2.1.2 hg hg2
  have h4 := mxI_in (roundR value c.1 c.2.1 how + c.2.2.1 * grams) c.2.2.2
  unfold chargeR
  omega
def dutyTo (cs ls : List (Int × Int × Int × Int)) (how : Int) : Nat → Int
  | 0 => 0
  | k + 1 => dutyTo cs ls how k + chargeR (cs.getD (ls.getD k (0, 0, 0, 0)).1.toNat (0, 0, 0, 0)) (ls.getD k (0, 0, 0, 0)).2.2.1 (ls.getD k (0, 0, 0, 0)).2.2.2 how
theorem dutyTo_in {cs ls : List (Int × Int × Int × Int)} {how : Int} {k : Nat} (hc : OkCTo cs cs.length) (h : OkLTo cs.length ls k) : 0 ≤ dutyTo cs ls how k ∧ dutyTo cs ls how k ≤ 20000000000 * k := by
  induction k with
  | zero => simp [dutyTo]
  | succ k ih =>
    have h1 := ih (fun i hi => h i (by omega))
    have h2 := h k (by omega)
    unfold okL at h2
    have h3 := chargeR_in (how := how) (hc (ls.getD k (0, 0, 0, 0)).1.toNat (by omega)) h2.2.2.1.1 (show _ ≤ 10000000 by omega) h2.2.2.2.1 (show _ ≤ 10000000 by omega)
    rw [dutyTo]
    omega
end Go.Proofs.Ytocogipejchneaa
