/-
  Paying with vouchers in an order of indices: plain; what a slip pays.
-/
import Derived.Test.YtgimpmdiilmkoaaDoorPvG
import Derived.Test.YtgimpmdiilmkoaaDoorVoI
namespace Go.Proofs.YtgimpmdiilmkoaaDoor
open Go Go.RowKit
set_option linter.unusedVariables false

def mnI (a b : Int) : Int := if a ≤ b then a else b
theorem mnI_in {a b : Int} (ha : 0 ≤ a) (hb : 0 ≤ b) : 0 ≤ mnI a b ∧ mnI a b ≤ a ∧ mnI a b ≤ b := by unfold mnI; split <;> omega
abbrev vAt (ps : List (Int × Int)) (i : Nat) : Int × Int := ps.getD i (0, 0)
/-- One voucher pays. -/
def stepP (ps : List (Int × Int)) (day : Int) (st : List (Int × Int) × Int) (i : Nat) : List (Int × Int) × Int :=
  if (vAt ps i).2 < day then st else (st.1.set i ((vAt ps i).1 - mnI st.2 (vAt ps i).1, (vAt ps i).2), st.2 - mnI st.2 (vAt ps i).1)
def payK (ps : List (Int × Int)) (day due : Int) (ms : List Nat) : Nat → List (Int × Int) × Int
  | 0 => (ps, due)
  | k + 1 => stepP ps day (payK ps day due ms k) (ms.getD k 0)
theorem payK_len (ps : List (Int × Int)) (day due : Int) (ms : List Nat) (k : Nat) : (payK ps day due ms k).1.length = ps.length := by
  induction k with
  | zero => rfl
  | succ k ih => rw [payK, stepP]; split <;> simp [ih]
theorem amt_in {ps : List (Int × Int)} (h : OkVoTo ps ps.length) (i : Nat) : 0 ≤ (vAt ps i).1 ∧ (vAt ps i).1 ≤ 1000000 := by
  by_cases hi : i < ps.length
  · have h1 := h i hi
    unfold okVo at h1
    exact h1.1
  · have e : vAt ps i = (0, 0) := by simp [vAt, List.getD, show ps[i]? = none from List.getElem?_eq_none (by omega)]
    rw [e]; decide
theorem due_in {ps : List (Int × Int)} {day due : Int} {ms : List Nat} (h : OkVoTo ps ps.length) (h0 : 0 ≤ due) (k : Nat) : 0 ≤ (payK ps day due ms k).2 ∧ (payK ps day due ms k).2 ≤ due := by
  induction k with
  | zero => exact ⟨h0, Int.le_refl _⟩
  | succ k ih =>
    have h1 := mnI_in ih.1 (amt_in h (ms.getD k 0)).1
    rw [payK, stepP]
    split
    · exact ih
    · simp only; omega
/-- A place that was not used yet is as it was. -/
theorem payK_at {ps : List (Int × Int)} {day due : Int} {ms : List Nat} {k i : Nat} (h : ∀ j, j < k → ms.getD j 0 ≠ i) : vAt (payK ps day due ms k).1 i = vAt ps i := by
  induction k with
  | zero => rfl
  | succ k ih =>
    have h1 := ih (fun j hj => h j (by omega))
    have h2 := h k (by omega)
    rw [payK, stepP]
    split
    · exact h1
    · obtain ⟨y, hy⟩ : ∃ y, ((vAt ps (ms.getD k 0)).1 - mnI (payK ps day due ms k).2 (vAt ps (ms.getD k 0)).1, (vAt ps (ms.getD k 0)).2) = y := ⟨_, rfl⟩
      rw [hy]
      show ((payK ps day due ms k).1.set (ms.getD k 0) y).getD i (0, 0) = ps.getD i (0, 0)
      rw [List.getD, List.getElem?_set_ne h2]
      exact h1

theorem m_payC (x y : Int) (w : World) : (Go.method 353 140 (.agg #[.int .i32 x, .int .i16 y]) "loop.example/g01366/impl.pay").run Tryd.prog w = .ok (178, .agg #[.int .i32 x, .int .i16 y]) w := by kernel_rfl
theorem m_payL (x y : Int) (w : World) : (Go.method 353 141 (.agg #[.int .i32 x, .int .i16 y]) "loop.example/g01366/impl.pay").run Tryd.prog w = .ok (179, .agg #[.int .i32 x, .int .i16 y]) w := by kernel_rfl
set_option maxHeartbeats 2000000 in
theorem ipayL_any (x y due : Int) (w : World) :
    Calls Tryd.prog 179 #[.agg #[.int .i32 x, .int .i16 y], .int .i64 due] w fun e w' => e = .returned (.tuple #[.agg #[.int .i32 x, .int .i16 y], .int .i64 due]) ∧ Below w.heap.size w w' := by
  go_enter Tryd.func179, Tryd.ntmps179
  go_wp2_with fail
  exact bodyPost_ret (v := .tuple #[.agg #[.int .i32 x, .int .i16 y], .int .i64 due]) (by simp [results, Tryd.results179, go_sem]) rfl ⟨rfl, by repeat (first | exact Below.refl _ _ | refine Below.drew ?_ | refine Below.setCell ?_ (by first | (simp; done) | (simp; omega) | omega) _ | refine Below.alloc ?_ (by first | (simp; done) | (simp; omega) | omega) _)⟩
set_option maxHeartbeats 2000000 in
theorem ipayC_any (x y due : Int) (h0 : 0 ≤ x) (h1 : x ≤ 1000000) (h2 : 0 ≤ due) (h3 : due ≤ 1000000) (w : World) :
    Calls Tryd.prog 178 #[.agg #[.int .i32 x, .int .i16 y], .int .i64 due] w fun e w' => e = .returned (.tuple #[.agg #[.int .i32 (x - mnI due x), .int .i16 y], .int .i64 (due - mnI due x)]) ∧ Below w.heap.size w w' := by
  by_cases t : due ≤ x
  · have HM : Hid (mnI due x = due) := Lib.hid (if_pos t)
    have d1 : decide (x < due) = false := decide_eq_false (by omega)
    rw [HM.out]
    go_enter Tryd.func178, Tryd.ntmps178
    go_wp2_with fail
    exact bodyPost_ret (v := .tuple #[.agg #[.int .i32 (x - due), .int .i16 y], .int .i64 (due - due)]) (by simp [results, Tryd.results178, go_sem]) rfl ⟨rfl, by repeat (first | exact Below.refl _ _ | refine Below.drew ?_ | refine Below.setCell ?_ (by first | (simp; done) | (simp; omega) | omega) _ | refine Below.alloc ?_ (by first | (simp; done) | (simp; omega) | omega) _)⟩
  · have HM : Hid (mnI due x = x) := Lib.hid (if_neg t)
    have d1 : decide (x < due) = true := decide_eq_true (by omega)
    rw [HM.out]
    go_enter Tryd.func178, Tryd.ntmps178
    go_wp2_with fail
    exact bodyPost_ret (v := .tuple #[.agg #[.int .i32 0, .int .i16 y], .int .i64 (due - x)]) (by simp [results, Tryd.results178, go_sem]) rfl ⟨rfl, by repeat (first | exact Below.refl _ _ | refine Below.drew ?_ | refine Below.setCell ?_ (by first | (simp; done) | (simp; omega) | omega) _ | refine Below.alloc ?_ (by first | (simp; done) | (simp; omega) | omega) _)⟩
end Go.Proofs.YtgimpmdiilmkoaaDoor
