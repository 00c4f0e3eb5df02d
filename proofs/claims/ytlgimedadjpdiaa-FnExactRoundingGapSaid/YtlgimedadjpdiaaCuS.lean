/-
  Shares of amounts; RoundShare on both sides.
-/
import Derived.Test.YtlgimedadjpdiaaCuR
namespace Go.Proofs.Ytlgimedadjpdiaa
open Go Go.RowKit
set_option linter.unusedVariables false

set_option maxHeartbeats 4000000 in
theorem ishare_any (am num den : Int) (ha0 : 0 ≤ am) (ha1 : am ≤ 1000000000) (hn0 : 0 ≤ num) (hn1 : num ≤ 1000) (hd0 : 1 ≤ den) (hd1 : den ≤ 1000) (w : World) :
    Calls Try.prog 58 #[.int .i64 am, .int .i64 num, .int .i64 den] w fun e w' => e = .returned (.agg #[.int .i64 (am * num / den), .int .i64 (am * num % den), .int .i64 den]) ∧ Below w.heap.size w w' := by
  obtain ⟨p, hp⟩ : ∃ p, am * num = p := ⟨_, rfl⟩
  have hpi := prod_in ha0 ha1 hn0 hn1
  rw [hp] at hpi ⊢
  obtain ⟨p0, p1⟩ := hpi
  obtain ⟨q0, q1⟩ := div_in p0 hd0
  obtain ⟨r0, r1⟩ := mod_in (p := p) hd0
  have hnz : den ≠ 0 := by omega
  go_enter Try.func58, Try.ntmps58
  go_wp2_with fail
  go_region
  go_wp2_with fail
  exact bodyPost_ret (v := .agg #[.int .i64 (p / den), .int .i64 (p % den), .int .i64 den]) (by simp [results, Try.results58, go_sem]) rfl ⟨rfl, by repeat (first | exact Below.refl _ _ | refine Below.drew ?_ | refine Below.setCell ?_ (by first | (simp; done) | (simp; omega) | omega) _ | refine Below.alloc ?_ (by first | (simp; done) | (simp; omega) | omega) _)⟩

set_option maxHeartbeats 4000000 in
theorem sround_any (am num den how : Int) (ha0 : 0 ≤ am) (ha1 : am ≤ 1000000000) (hn0 : 0 ≤ num) (hn1 : num ≤ 1000) (hd0 : 1 ≤ den) (hd1 : den ≤ 1000) (hh : isHow how = true) (w : World) :
    Calls Try.prog 57 #[.int .i64 am, .int .i64 num, .int .i64 den, .int .i64 how] w fun e w' => e = .returned (.int .i64 (roundR am num den how)) ∧ w = w' := by
  obtain ⟨h0, h3⟩ := isHow_spec hh
  clear hh
  unfold roundR
  obtain ⟨p, hp⟩ : ∃ p, am * num = p := ⟨_, rfl⟩
  have hpi := prod_in ha0 ha1 hn0 hn1
  rw [hp] at hpi ⊢
  obtain ⟨p0, p1⟩ := hpi
  obtain ⟨q0, q1⟩ := div_in p0 hd0
  obtain ⟨r0, r1⟩ := mod_in (p := p) hd0
  have hnz : den ≠ 0 := by omega
  have h4 : how = 0 ∨ how = 1 ∨ how = 2 ∨ how = 3 := by omega
  rcases h4 with rfl | rfl | rfl | rfl
  · go_enter Try.func57, Try.ntmps57
    go_wp2_with fail
    go_ret
    exact ⟨ret_int (by simp [roundQ]), rfl⟩
  · by_cases h : 0 < p % den
    · have e1 : decide (0 < p % den) = true := decide_eq_true h
      go_enter Try.func57, Try.ntmps57
      go_wp2_with fail
      go_ret
      exact ⟨ret_int (by unfold roundQ; simp; omega), rfl⟩
    · have e1 : decide (0 < p % den) = false := decide_eq_false h
      have H := Lib.hid h
      clear h
      go_enter Try.func57, Try.ntmps57
      go_wp2_with fail
      go_ret
      exact ⟨ret_int (by have := H.out; unfold roundQ; simp; omega), rfl⟩
  · by_cases h : den ≤ 2 * (p % den)
    · have e1 : decide (den ≤ 2 * (p % den)) = true := decide_eq_true h
      have H := Lib.hid h
      go_enter Try.func57, Try.ntmps57
      go_wp2_with fail
      go_ret
      exact ⟨ret_int (by have := H.out; unfold roundQ; simp; omega), rfl⟩
    · have e1 : decide (den ≤ 2 * (p % den)) = false := decide_eq_false h
      have H := Lib.hid h
      clear h
      go_enter Try.func57, Try.ntmps57
      go_wp2_with fail
      go_ret
      exact ⟨ret_int (by have := H.out; unfold roundQ; simp; omega), rfl⟩
  · by_cases h : den < 2 * (p % den)
    · have e1 : decide (den < 2 * (p % den)) = true := decide_eq_true h
      have H := Lib.hid h
      go_enter Try.func57, Try.ntmps57
      go_wp2_with fail
      go_ret
      exact ⟨ret_int (by have := H.out; unfold roundQ; simp; omega), rfl⟩
    · have e1 : decide (den < 2 * (p % den)) = false := decide_eq_false h
      have H := Lib.hid h
      clear h
      by_cases h2 : 2 * (p % den) = den
      · have e2 : (2 * (p % den) == den) = true := by simpa using h2
        have H2 := Lib.hid h2
        clear h2
        by_cases h5 : p / den % 2 = 1
        · have e5 : (p / den % 2 == 1) = true := by simpa using h5
          have H5 := Lib.hid h5
          clear h5
          go_enter Try.func57, Try.ntmps57
          go_wp2_with fail
          go_ret
          exact ⟨ret_int (by have := H.out; have := H2.out; have := H5.out; unfold roundQ; simp; omega), rfl⟩
        · have e5 : (p / den % 2 == 1) = false := by simpa using h5
          have H5 := Lib.hid h5
          clear h5
          go_enter Try.func57, Try.ntmps57
          go_wp2_with fail
          go_ret
          exact ⟨ret_int (by have := H.out; have := H2.out; have := H5.out; unfold roundQ; simp; omega), rfl⟩
      · have e2 : (2 * (p % den) == den) = false := by simpa using h2
        have H2 := Lib.hid h2
        clear h2
        go_enter Try.func57, Try.ntmps57
        go_wp2_with fail
        go_ret
        exact ⟨ret_int (by have := H.out; have := H2.out; unfold roundQ; simp; omega), rfl⟩

/-! ### RoundShare -/
def rsOk (am num den how : Int) : Prop := (0 ≤ am ∧ am ≤ 1000000000) ∧ (0 ≤ num ∧ num ≤ 1000) ∧ (0 ≤ den ∧ den ≤ 1000) ∧ (0 ≤ how ∧ how ≤ 3)
instance (am num den how : Int) : Decidable (rsOk am num den how) := inferInstanceAs (Decidable (_ ∧ _))
def rsRes (am num den how : Int) : Int := if rsOk am num den how then (if den = 0 then 0 else roundR am num den how) else 0
def rsCode (am num den how : Int) : Int := if rsOk am num den how then (if den = 0 then 4 else 0) else 2
theorem rs_bad {am num den how : Int} (h : ¬ rsOk am num den how) : rsRes am num den how = 0 ∧ rsCode am num den how = 2 := by
  unfold rsRes rsCode; rw [if_neg h, if_neg h]; exact ⟨rfl, rfl⟩
theorem rs_zero {am num den how : Int} (h : rsOk am num den how) (h0 : den = 0) : rsRes am num den how = 0 ∧ rsCode am num den how = 4 := by
  unfold rsRes rsCode; rw [if_pos h, if_pos h, if_pos h0, if_pos h0]; exact ⟨rfl, rfl⟩
theorem rs_ok {am num den how : Int} (h : rsOk am num den how) (h0 : ¬ den = 0) : rsRes am num den how = roundR am num den how ∧ rsCode am num den how = 0 := by
  unfold rsRes rsCode; rw [if_pos h, if_pos h, if_neg h0, if_neg h0]; exact ⟨rfl, rfl⟩
theorem ret_two {a b a' b' : Int} (h : a' = a ∧ b' = b) : Ending.returned (.tuple #[.int .i64 a, .int .i64 b]) = .returned (.tuple #[.int .i64 a', .int .i64 b']) := by rw [h.1, h.2]

theorem show_any (n : Int) (w : World) : Calls Try.prog 22 #[.int .i64 n] w fun e w' => e = .returned (.bool (isHow n)) ∧ w' = w := by
  go_enter Try.func22, Try.ntmps22
  go_wp2_with (go_at_call 41; refine (in_any _ _ _ _).mono ?_; rintro e w2 ⟨rfl, hw2⟩; subst hw2)
  go_ret
  exact ⟨rfl, rfl⟩

/-- The program's share, rounded, by the way's value. -/
theorem irounded_any (q r d how : Int) (hh : isHow how = true) (hq0 : 0 ≤ q) (hq1 : q ≤ 1000000000000) (hr0 : 0 ≤ r) (hr1 : r < d) (hd1 : 1 ≤ d) (hd2 : d ≤ 1000) (w : World) :
    Calls Try.prog 47 #[.agg #[.int .i64 q, .int .i64 r, .int .i64 d], wayV how] w fun e w' => e = .returned (.int .i64 (roundQ q r d how)) ∧ Below w.heap.size w w' := by
  obtain ⟨h0, h3⟩ := isHow_spec hh
  have h4 : how = 0 ∨ how = 1 ∨ how = 2 ∨ how = 3 := by omega
  rcases h4 with rfl | rfl | rfl | rfl
  · exact irounded_down q r d hq0 hq1 hr0 hr1 hd1 hd2 w
  · exact irounded_up q r d hq0 hq1 hr0 hr1 hd1 hd2 w
  · exact irounded_near q r d hq0 hq1 hr0 hr1 hd1 hd2 w
  · exact irounded_even q r d hq0 hq1 hr0 hr1 hd1 hd2 w
theorem share_in {am num den : Int} (ha0 : 0 ≤ am) (ha1 : am ≤ 1000000000) (hn0 : 0 ≤ num) (hn1 : num ≤ 1000) (hd0 : 1 ≤ den) : (0 ≤ am * num / den ∧ am * num / den ≤ 1000000000000) ∧ (0 ≤ am * num % den ∧ am * num % den < den) := by
  obtain ⟨p0, p1⟩ := prod_in ha0 ha1 hn0 hn1
  obtain ⟨q0, q1⟩ := div_in p0 hd0
  exact ⟨⟨q0, by omega⟩, mod_in hd0⟩

end Go.Proofs.Ytlgimedadjpdiaa
