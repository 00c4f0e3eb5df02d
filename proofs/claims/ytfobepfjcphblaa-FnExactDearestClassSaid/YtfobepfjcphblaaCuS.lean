/-
  Shares of amounts; RoundShare on both sides.
-/
import Derived.Test.YtfobepfjcphblaaCuR
namespace Go.Proofs.Ytfobepfjcphblaa
open Go Go.RowKit
set_option linter.unusedVariables false

set_option maxHeartbeats 4000000 in
theorem ishare_any (am num den : Int) (ha0 : 0 ≤ am) (ha1 : am ≤ 1000000000) (hn0 : 0 ≤ num) (hn1 : num ≤ 1000) (hd0 : 1 ≤ den) (hd1 : den ≤ 1000) (w : World) :
    Calls Try.prog 58 #[.int .i64 am, .int .i64 num, .int .i64 den] w fun e w' => e = .returned (.agg #[.int .i64 (am * num / den), .int .i64 (am * num % den), .int .i64 den]) ∧ Below w.heap.size w w' := by
  obtain ⟨p, hp⟩ : ∃ p, am * num = p := ⟨_, rfl⟩
  have hpi := prod_in ha0 ha1 hn0 hn1
  rw [hp] at hpi ⊢
  obtain ⟨p0, p1⟩ := hpi
  obtain ⟨q0, q1⟩ := div_in p0 hd0
  obtain ⟨r0, r1⟩ := mod_in (p := p) hd0
  have hnz : den ≠ 0 := by omega
  go_enter Try.func58, Try.ntmps58
  go_wp2_with fail
  go_region
  go_wp2_with fail
  exact bodyPost_ret (v := .agg #[.int .i64 (p / den), .int .i64 (p % den), .int .i64 den]) (by simp [results, Try.results58, go_sem]) rfl ⟨rfl, by repeat (first | exact Below.refl _ _ | refine Below.drew ?_ | refine Below.setCell ?_ (by first | (simp; done) | (simp; omega) | omega) _ | refine Below.alloc ?_ (by first | (simp; done) | (simp; omega) | omega) _)⟩

set_option maxHeartbeats 4000000 in
theorem sround_any (am num den how : Int) (ha0 : 0 ≤ am) (ha1 : am ≤ 1000000000) (hn0 : 0 ≤ num) (hn1 : num ≤ 1000) (hd0 : 1 ≤ den) (hd1 : den ≤ 1000) (hh : isHow how = true) (w : World) :
    Calls Try.prog 55 #[.int .i64 am, .int .i64 num, .int .i64 den, .int .i64 how] w fun e w' => e = .returned (.int .i64 (roundR am num den how)) ∧ w = w' := by
  obtain ⟨h0, h3⟩ := isHow_spec hh
  clear hh
  unfold roundR
  obtain ⟨p, hp⟩ : ∃ p, am * num = p := ⟨_, rfl⟩
  have hpi := prod_in ha0 ha1 hn0 hn1
  rw [hp] at hpi ⊢
  obtain ⟨p0, p1⟩ := hpi
  obtain ⟨q0, q1⟩ := div_in p0 hd0
  obtain ⟨r0, r1⟩ := mod_in (p := p) hd0
  have hnz : den ≠ 0 := by omega
  have h4 : how = 0 ∨ how = 1 ∨ how = 2 ∨ how = 3 := by omega
  rcases h4 with rfl | rfl | rfl | rfl
  · go_enter Try.func55, Try.ntmps55
    go_wp2_with fail
    go_ret
    exact ⟨ret_int (by simp [roundQ]), rfl⟩
  · by_cases h : 0 < p % den
    · have e1 : decide (0 < p % den) = true := decide_eq_true h
      go_enter Try.func55, Try.ntmps55
      go_wp2_with fail
      go_ret
      exact ⟨ret_int (by unfold roundQ; simp; omega), rfl⟩
    · have e1 : decide (0 < p % den) = false := decide_eq_false h
      have H := Lib.hid h
      clear h
      go_enter Try.func55, Try.ntmps55
      go_wp2_with fail
      go_ret
      exact ⟨ret_int (by have := H.out; unfold roundQ; simp; omega), rfl⟩
  · by_cases h : den ≤ 2 * (p % den)
    · have e1 : decide (den ≤ 2 * (p % den)) = true := decide_eq_true h
      have H := Lib.hid h
      go_enter Try.func55, Try.ntmps55
      go_wp2_with fail
      go_ret
      exact ⟨ret_int (by have := H.out; unfold roundQ; simp; omega), rfl⟩
    · have e1 : decide (den ≤ 2 * (p % den)) = false := decide_eq_false h
      have H := Lib.hid h
      clear h
      go_enter Try.func55, Try.ntmps55
      go_wp2_with fail
      go_ret
      exact ⟨ret_int (by have := H.out; unfold roundQ; simp; omega), rfl⟩
  · by_cases h : den < 2 * (p % den)
    · have e1 : decide (den < 2 * (p % den)) = true := decide_eq_true h
      have H := Lib.hid h
      go_enter Try.func55, Try.ntmps55
      go_wp2_with fail
      go_ret
      exact ⟨ret_int (by have := H.out; unfold roundQ; simp; omega), rfl⟩
    · have e1 : decide (den < 2 * (p % den)) = false := decide_eq_false h
      have H := Lib.hid h
      clear h
      by_cases h2 : 2 * (p % den) = den
      · have e2 : (2 * (p % den) == den) = true := by simpa using h2
        have H2 := Lib.hid h2
        clear h2
        by_cases h5 : p / den % 2 = 1
        · have e5 : (p / den % 2 == 1) = true := by simpa using h5
          have H5 := Lib.hid h5
          clear h5
          go_enter Try.func55, Try.ntmps55
          go_wp2_with fail
          go_ret
          exact ⟨ret_int (by have := H.out; have := H2.out; have := H5.out; unfold roundQ; simp; omega), rfl⟩
        · have e5 : (p / den % 2 == 1) = false := by simpa using h5
          have H5 := Lib.hid h5
          clear h5
          go_enter Try.func55, Try.ntmps55
          go_wp2_with fail
          go_ret
          exact ⟨ret_int (by have := H.out; have := H2.out; have := H5.out; unfold roundQ; simp; omega), rfl⟩
      · have e2 : (2 * (p % den) == den) = false := by simpa using h2
        have H2 := Lib.hid h2
        clear h2
        go_enter Try.func55, Try.ntmps55
        go_wp2_with fail
        go_ret
        exact ⟨ret_int (by have := H.out; have := H2.out; unfold roundQ; simp; omega), rfl⟩

/-! ### RoundShare -/
def rsOk (am num den how : Int) : Prop := (0 ≤ am ∧ am ≤ 1000000000) ∧ (0 ≤ num ∧ num ≤ 1000) ∧ (0 ≤ den ∧ den ≤ 1000) ∧ (0 ≤ how ∧ how ≤ 3)
instance (am num den how : Int) : Decidable (rsOk am num den how) := inferInstanceAs (Decidable (_ ∧ _))
def rsRes (am num den how : Int) : Int := if rsOk am num den how then (if den = 0 then 0 else roundR am num den how) else 0
def rsCode (am num den how : Int) : Int := if rsOk am num den how then (if den = 0 then 4 else 0) else 2
theorem rs_bad {am num den how : Int} (h : ¬ rsOk am num den how) : rsRes am num den how = 0 ∧ rsCode am num den how = 2 := by
  unfold rsRes rsCode; rw [if_neg h, if_neg h]; exact ⟨rfl, rfl⟩
theorem rs_zero {am num den how : Int} (h : rsOk am num den how) (h0 : den = 0) : rsRes am num den how = 0 ∧ rsCode am num den how = 4 := by
  unfold rsRes rsCode; rw [if_pos h, if_pos h, if_pos h0, if_pos h0]; exact ⟨rfl, rfl⟩
theorem rs_ok {am num den how : Int} (h : rsOk am num den how) (h0 : ¬ den = 0) : rsRes am num den how = roundR am num den how ∧ rsCode am num den how = 0 := by
  unfold rsRes rsCode; rw [if_pos h, if_pos h, if_neg h0, if_neg h0]; exact ⟨rfl, rfl⟩
theorem ret_two {a b a' b' : Int} (h : a' = a ∧ b' = b) : Ending.returned (.tuple #[.int .i64 a, .int .i64 b]) = .returned (.tuple #[.int .i64 a', .int .i64 b']) := by rw [h.1, h.2]

theorem show_any (n : Int) (w : World) : Calls Try.prog 54 #[.int .i64 n] w fun e w' => e = .returned (.bool (isHow n)) ∧ w' = w := by
  go_enter Try.func54, Try.ntmps54
  go_wp2_with (go_at_call 53; refine (in_any _ _ _ _).mono ?_; rintro e w2 ⟨rfl, hw2⟩; subst hw2)
  go_ret
  exact ⟨rfl, rfl⟩

set_option maxHeartbeats 4000000 in
theorem srs_any (am num den how : Int) (w : World) :
    Calls Try.prog 27 #[.int .i64 am, .int .i64 num, .int .i64 den, .int .i64 how] w fun e w' => e = .returned (.tuple #[.int .i64 (rsRes am num den how), .int .i64 (rsCode am num den how)]) ∧ w' = w := by
  by_cases t1 : 0 ≤ am ∧ am ≤ 1000000000
  · have g1 := inB_true t1
    by_cases t2 : 0 ≤ num ∧ num ≤ 1000
    · have g2 := inB_true t2
      by_cases t3 : 0 ≤ den ∧ den ≤ 1000
      · have g3 := inB_true t3
        by_cases t4 : 0 ≤ how ∧ how ≤ 3
        · have g4 := isHow_true t4
          have hok : rsOk am num den how := ⟨t1, t2, t3, t4⟩
          by_cases t5 : den = 0
          · have d5 : (den == 0) = true := by simpa using t5
            have HR := Lib.hid (rs_zero hok t5)
            clear t5 hok
            go_enter Try.func27, Try.ntmps27
            go_wp2_with (first | (go_at_call 53; refine (in_any _ _ _ _).mono ?_; rintro e w2 ⟨rfl, hw2⟩; subst hw2) | (go_at_call 54; refine (show_any _ _).mono ?_; rintro e w2 ⟨rfl, hw2⟩; subst hw2) | (go_at_call 55; refine (sround_any am num den how t1.1 t1.2 t2.1 t2.2 (by omega) t3.2 g4 _).mono ?_; rintro e w2 ⟨rfl, rfl⟩))
            go_ret2
            exact ⟨ret_two HR.out, rfl⟩
          · have d5 : (den == 0) = false := by simpa using t5
            have HR := Lib.hid (rs_ok hok t5)
            go_enter Try.func27, Try.ntmps27
            go_wp2_with (first | (go_at_call 53; refine (in_any _ _ _ _).mono ?_; rintro e w2 ⟨rfl, hw2⟩; subst hw2) | (go_at_call 54; refine (show_any _ _).mono ?_; rintro e w2 ⟨rfl, hw2⟩; subst hw2) | (go_at_call 55; refine (sround_any am num den how t1.1 t1.2 t2.1 t2.2 (by omega) t3.2 g4 _).mono ?_; rintro e w2 ⟨rfl, rfl⟩))
            go_ret2
            exact ⟨ret_two HR.out, rfl⟩
        · have g4 := isHow_false t4
          go_enter Try.func27, Try.ntmps27
          go_wp2_with (first | (go_at_call 53; refine (in_any _ _ _ _).mono ?_; rintro e w2 ⟨rfl, hw2⟩; subst hw2) | (go_at_call 54; refine (show_any _ _).mono ?_; rintro e w2 ⟨rfl, hw2⟩; subst hw2) | (go_at_call 55; refine (sround_any am num den how t1.1 t1.2 t2.1 t2.2 (by omega) t3.2 g4 _).mono ?_; rintro e w2 ⟨rfl, rfl⟩))
          go_ret2
          exact ⟨ret_two (rs_bad (fun h => by unfold rsOk at h; omega)), rfl⟩
      · have g3 := inB_false t3
        go_enter Try.func27, Try.ntmps27
        go_wp2_with (first | (go_at_call 53; refine (in_any _ _ _ _).mono ?_; rintro e w2 ⟨rfl, hw2⟩; subst hw2) | (go_at_call 54; refine (show_any _ _).mono ?_; rintro e w2 ⟨rfl, hw2⟩; subst hw2) | (go_at_call 55; refine (sround_any am num den how t1.1 t1.2 t2.1 t2.2 (by omega) t3.2 g4 _).mono ?_; rintro e w2 ⟨rfl, rfl⟩))
        go_ret2
        exact ⟨ret_two (rs_bad (fun h => by unfold rsOk at h; omega)), rfl⟩
    · have g2 := inB_false t2
      go_enter Try.func27, Try.ntmps27
      go_wp2_with (first | (go_at_call 53; refine (in_any _ _ _ _).mono ?_; rintro e w2 ⟨rfl, hw2⟩; subst hw2) | (go_at_call 54; refine (show_any _ _).mono ?_; rintro e w2 ⟨rfl, hw2⟩; subst hw2) | (go_at_call 55; refine (sround_any am num den how t1.1 t1.2 t2.1 t2.2 (by omega) t3.2 g4 _).mono ?_; rintro e w2 ⟨rfl, rfl⟩))
      go_ret2
      exact ⟨ret_two (rs_bad (fun h => by unfold rsOk at h; omega)), rfl⟩
  · have g1 := inB_false t1
    go_enter Try.func27, Try.ntmps27
    go_wp2_with (first | (go_at_call 53; refine (in_any _ _ _ _).mono ?_; rintro e w2 ⟨rfl, hw2⟩; subst hw2) | (go_at_call 54; refine (show_any _ _).mono ?_; rintro e w2 ⟨rfl, hw2⟩; subst hw2) | (go_at_call 55; refine (sround_any am num den how t1.1 t1.2 t2.1 t2.2 (by omega) t3.2 g4 _).mono ?_; rintro e w2 ⟨rfl, rfl⟩))
    go_ret2
    exact ⟨ret_two (rs_bad (fun h => by unfold rsOk at h; omega)), rfl⟩

/-- The program's share, rounded, by the way's value. -/
theorem irounded_any (q r d how : Int) (hh : isHow how = true) (hq0 : 0 ≤ q) (hq1 : q ≤ 1000000000000) (hr0 : 0 ≤ r) (hr1 : r < d) (hd1 : 1 ≤ d) (hd2 : d ≤ 1000) (w : World) :
    Calls Try.prog 59 #[.agg #[.int .i64 q, .int .i64 r, .int .i64 d], wayV how] w fun e w' => e = .returned (.int .i64 (roundQ q r d how)) ∧ Below w.heap.size w w' := by
  obtain ⟨h0, h3⟩ := isHow_spec hh
  have h4 : how = 0 ∨ how = 1 ∨ how = 2 ∨ how = 3 := by omega
  rcases h4 with rfl | rfl | rfl | rfl
  · exact irounded_down q r d hq0 hq1 hr0 hr1 hd1 hd2 w
  · exact irounded_up q r d hq0 hq1 hr0 hr1 hd1 hd2 w
  · exact irounded_near q r d hq0 hq1 hr0 hr1 hd1 hd2 w
  · exact irounded_even q r d hq0 hq1 hr0 hr1 hd1 hd2 w
theorem share_in {am num den : Int} (ha0 : 0 ≤ am) (ha1 : am ≤ 1000000000) (hn0 : 0 ≤ num) (hn1 : num ≤ 1000) (hd0 : 1 ≤ den) : (0 ≤ am * num / den ∧ am * num / den ≤ 1000000000000) ∧ (0 ≤ am * num % den ∧ am * num % den < den) := by
  obtain ⟨p0, p1⟩ := prod_in ha0 ha1 hn0 hn1
  obtain ⟨q0, q1⟩ := div_in p0 hd0
  exact ⟨⟨q0, by omega⟩, mod_in hd0⟩

set_option maxHeartbeats 4000000 in
theorem irs_any (am num den how : Int) (w : World) :
    Calls Try.prog 28 #[.int .i64 am, .int .i64 num, .int .i64 den, .int .i64 how] w fun e w' => e = .returned (.tuple #[.int .i64 (rsRes am num den how), .int .i64 (rsCode am num den how)]) ∧ Below w.heap.size w w' := by
  obtain ⟨V, hV⟩ : ∃ V, wayV how = V := ⟨_, rfl⟩
  have HV := Lib.hid hV
  clear hV
  by_cases t0 : 0 ≤ how ∧ how ≤ 3
  · have g0 := isHow_true t0
    by_cases t1 : 0 ≤ am
    · have d1 : decide (am < 0) = false := decide_eq_false (by omega)
      by_cases t2 : am ≤ 1000000000
      · have d2 : decide ((1000000000 : Int) < am) = false := decide_eq_false (by omega)
        by_cases t3 : (0 ≤ num ∧ num ≤ 1000) ∧ (0 ≤ den ∧ den ≤ 1000)
        · have d3 := betw2_true t3
          have hok : rsOk am num den how := ⟨⟨t1, t2⟩, t3.1, t3.2, t0⟩
          obtain ⟨⟨n0, n1⟩, e0, e1⟩ := t3
          by_cases t5 : den = 0
          · have d5 : (den == 0) = true := by simpa using t5
            have HR := Lib.hid (rs_zero hok t5)
            clear t5 hok
            go_enter Try.func28, Try.ntmps28
            go_wp2_with fail
            refine (iway_any how _).mono ?_
            rintro e w1 ⟨rfl, rfl⟩
            rw [g0, HV.out]
            go_wp2_with (first | (go_at_call 57; refine (within64_any _ [num, den] 0 1000 _ (reads2 (by simp)) (by simp)).mono ?_; rintro e w2 ⟨rfl, rfl⟩))
            go_ret2
            exact ⟨ret_two HR.out, by repeat (first | exact Below.refl _ _ | exact b4 | refine Below.drew ?_ | refine Below.setCell ?_ (by first | (simp; done) | (simp; omega) | omega) _ | refine Below.alloc ?_ (by first | (simp; done) | (simp; omega) | omega) _)⟩
          · have d5 : (den == 0) = false := by simpa using t5
            have HR := Lib.hid (rs_ok hok t5)
            obtain ⟨⟨q0, q1⟩, r0, r1⟩ := share_in t1 t2 n0 n1 (show 1 ≤ den by omega)
            have HSH : Hid (∀ W, Calls Try.prog 58 #[.int .i64 am, .int .i64 num, .int .i64 den] W fun e w' => e = .returned (.agg #[.int .i64 (am * num / den), .int .i64 (am * num % den), .int .i64 den]) ∧ Below W.heap.size W w') := Lib.hid (fun W => ishare_any am num den t1 t2 n0 n1 (by omega) e1 W)
            have HRD : Hid (∀ W, Calls Try.prog 59 #[.agg #[.int .i64 (am * num / den), .int .i64 (am * num % den), .int .i64 den], V] W fun e w' => e = .returned (.int .i64 (roundR am num den how)) ∧ Below W.heap.size W w') := Lib.hid (fun W => by rw [← HV.out]; exact irounded_any _ _ _ how g0 q0 q1 r0 r1 (by omega) e1 W)
            clear q0 q1 r0 r1
            go_enter Try.func28, Try.ntmps28
            go_wp2_with fail
            refine (iway_any how _).mono ?_
            rintro e w1 ⟨rfl, rfl⟩
            rw [g0, HV.out]
            go_wp2_with (first | (go_at_call 57; refine (within64_any _ [num, den] 0 1000 _ (reads2 (by simp)) (by simp)).mono ?_; rintro e w2 ⟨rfl, rfl⟩))
            refine (HSH.out _).mono ?_
            rintro e w3 ⟨rfl, b3⟩
            have hs3 := b3.size
            simp only [World.size_alloc] at hs3
            have HB3 : Hid (Below w.heap.size w w3) := Lib.hid (Below.trans ((Below.refl _ _).alloc (Nat.le_refl _) _) (b3.mono (by simp)))
            clear b3
            go_wp2_with fail
            refine (HRD.out _).mono ?_
            rintro e w4 ⟨rfl, b4⟩
            have b4 := blink HB3.out b4
            go_wp2_with fail
            go_ret2
            exact ⟨ret_two HR.out, b4⟩
        · have d3 := betw2_false t3
          go_enter Try.func28, Try.ntmps28
          go_wp2_with fail
          refine (iway_any how _).mono ?_
          rintro e w1 ⟨rfl, rfl⟩
          rw [g0, HV.out]
          go_wp2_with (first | (go_at_call 57; refine (within64_any _ [num, den] 0 1000 _ (reads2 (by simp)) (by simp)).mono ?_; rintro e w2 ⟨rfl, rfl⟩))
          go_ret2
          exact ⟨ret_two (rs_bad (fun h => by unfold rsOk at h; omega)), by repeat (first | exact Below.refl _ _ | exact b4 | refine Below.drew ?_ | refine Below.setCell ?_ (by first | (simp; done) | (simp; omega) | omega) _ | refine Below.alloc ?_ (by first | (simp; done) | (simp; omega) | omega) _)⟩
      · have d2 : decide ((1000000000 : Int) < am) = true := decide_eq_true (by omega)
        go_enter Try.func28, Try.ntmps28
        go_wp2_with fail
        refine (iway_any how _).mono ?_
        rintro e w1 ⟨rfl, rfl⟩
        rw [g0, HV.out]
        go_wp2_with (first | (go_at_call 57; refine (within64_any _ [num, den] 0 1000 _ (reads2 (by simp)) (by simp)).mono ?_; rintro e w2 ⟨rfl, rfl⟩))
        go_ret2
        exact ⟨ret_two (rs_bad (fun h => by unfold rsOk at h; omega)), by repeat (first | exact Below.refl _ _ | exact b4 | refine Below.drew ?_ | refine Below.setCell ?_ (by first | (simp; done) | (simp; omega) | omega) _ | refine Below.alloc ?_ (by first | (simp; done) | (simp; omega) | omega) _)⟩
    · have d1 : decide (am < 0) = true := decide_eq_true (by omega)
      go_enter Try.func28, Try.ntmps28
      go_wp2_with fail
      refine (iway_any how _).mono ?_
      rintro e w1 ⟨rfl, rfl⟩
      rw [g0, HV.out]
      go_wp2_with (first | (go_at_call 57; refine (within64_any _ [num, den] 0 1000 _ (reads2 (by simp)) (by simp)).mono ?_; rintro e w2 ⟨rfl, rfl⟩))
      go_ret2
      exact ⟨ret_two (rs_bad (fun h => by unfold rsOk at h; omega)), by repeat (first | exact Below.refl _ _ | exact b4 | refine Below.drew ?_ | refine Below.setCell ?_ (by first | (simp; done) | (simp; omega) | omega) _ | refine Below.alloc ?_ (by first | (simp; done) | (simp; omega) | omega) _)⟩
  · have g0 := isHow_false t0
    go_enter Try.func28, Try.ntmps28
    go_wp2_with fail
    refine (iway_any how _).mono ?_
    rintro e w1 ⟨rfl, rfl⟩
    rw [g0, HV.out]
    go_wp2_with (first | (go_at_call 57; refine (within64_any _ [num, den] 0 1000 _ (reads2 (by simp)) (by simp)).mono ?_; rintro e w2 ⟨rfl, rfl⟩))
    go_ret2
    exact ⟨ret_two (rs_bad (fun h => by unfold rsOk at h; omega)), by repeat (first | exact Below.refl _ _ | exact b4 | refine Below.drew ?_ | refine Below.setCell ?_ (by first | (simp; done) | (simp; omega) | omega) _ | refine Below.alloc ?_ (by first | (simp; done) | (simp; omega) | omega) _)⟩
theorem srs_b (am num den how : Int) (w : World) :
    Calls Try.prog 27 #[.int .i64 am, .int .i64 num, .int .i64 den, .int .i64 how] w fun e w' => e = .returned (.tuple #[.int .i64 (rsRes am num den how), .int .i64 (rsCode am num den how)]) ∧ Below w.heap.size w w' :=
  (srs_any am num den how w).mono fun e w' ⟨h, hw⟩ => ⟨h, by rw [hw]; exact Below.refl _ _⟩
end Go.Proofs.Ytfobepfjcphblaa
