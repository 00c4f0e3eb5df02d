/-
  The first error of cuts: on both sides.
-/
import Derived.Test.YtlobfhhdddedbaaRollP
namespace Go.Proofs.Ytlobfhhdddedbaa
open Go Go.RowKit
set_option linter.unusedVariables false

theorem isRoll_any (x : Int) (w : World) : Calls Try.prog 31 #[.int .i64 x] w fun e w' => e = .returned (.bool (inB x 1 400)) ∧ w = w' := by
  by_cases h1 : 1 ≤ x
  · by_cases h2 : x ≤ 400
    · have HT := Lib.hid (inB_true (n := x) (lo := 1) (hi := 400) ⟨h1, h2⟩)
      have t1 : decide (1 ≤ x) = true := decide_eq_true h1
      have t2 : decide (x ≤ 400) = true := decide_eq_true h2
      go_enter Try.func31, Try.ntmps31
      go_wp2_with fail
      go_ret
      exact ⟨(ret_bool HT.out).symm, rfl⟩
    · have HT := Lib.hid (inB_false (n := x) (lo := 1) (hi := 400) (fun q => h2 q.2))
      have t1 : decide (1 ≤ x) = true := decide_eq_true h1
      have t2 : decide (x ≤ 400) = false := decide_eq_false h2
      go_enter Try.func31, Try.ntmps31
      go_wp2_with fail
      go_ret
      exact ⟨(ret_bool HT.out).symm, rfl⟩
  · have HT := Lib.hid (inB_false (n := x) (lo := 1) (hi := 400) (fun q => h1 q.1))
    have t1 : decide (1 ≤ x) = false := decide_eq_false h1
    go_enter Try.func31, Try.ntmps31
    go_wp2_with fail
    go_ret
    exact ⟨(ret_bool HT.out).symm, rfl⟩

set_option maxHeartbeats 2000000 in
set_option maxRecDepth 100000 in
theorem srolls_any (v : Value) (xs : List Int) (long : Int) (w : World) (hv : ReadsI w v xs) (hn : xs.length ≤ 1048576) :
    Calls Try.prog 24 #[v, .int .i64 long, .bool true] w fun e w' => e = .returned (.int .i64 (rollC xs long)) ∧ w = w' := by
  obtain ⟨a, cap, rfl, ha⟩ := hv
  have HA := Lib.hid ha
  obtain ⟨n, hn'⟩ : ∃ n, xs.length = n := ⟨_, rfl⟩
  rw [hn'] at hn ⊢
  have HN := Lib.hid hn'
  clear ha hn'
  by_cases h10 : 10 < n
  · have HC := Lib.hid (rollC_3 (xs := xs) long (by rw [HN.out]; exact h10))
    go_enter Try.func24, Try.ntmps24
    go_wp2_with fail
    go_ret
    exact ⟨(ret_int HC.out).symm, rfl⟩
  · have H10 : Hid (¬ 10 < xs.length) := Lib.hid (by rw [HN.out]; exact h10)
    obtain ⟨rb, hrb⟩ : ∃ rb, inB long 1 400 = rb := ⟨_, rfl⟩
    have HRB := Lib.hid hrb
    clear hrb
    cases rb
    · have HC := Lib.hid (rollC_2 H10.out (.inl HRB.out))
      go_enter Try.func24, Try.ntmps24
      go_wp2_with fail
      refine (in_any long 1 400 _).mono ?_
      rintro e w2 ⟨rfl, hw⟩
      subst hw
      rw [HRB.out]
      go_wp2_with fail
      go_ret
      exact ⟨(ret_int HC.out).symm, rfl⟩
    · go_enter Try.func24, Try.ntmps24
      go_wp2_with fail
      refine (in_any long 1 400 _).mono ?_
      rintro e w2 ⟨rfl, hw⟩
      subst hw
      rw [HRB.out]
      go_wp2_with fail
      go_loop [7] (fun i => ∃ k : Nat, k ≤ n ∧ i = .int .i64 k ∧ betw xs 1 400 k) (fun i => n - (intOf i).toNat)
      case atStart => exact ⟨0, Nat.zero_le _, rfl, betw.zero _ _ _⟩
      case round =>
        obtain ⟨k, hk, rfl, hb⟩ := hrel
        have HB := Lib.hid hb
        by_cases hlt : k < n
        · obtain ⟨g, rfl, hc⟩ := HA.out (by intro e; have := HN.out; rw [e] at this; simp at this; omega)
          have cx := hc k (by have := HN.out; omega)
          have HS : Hid (1 ≤ xs.getD k 0 ∧ xs.getD k 0 ≤ 400 → betw xs 1 400 (k + 1)) := Lib.hid HB.out.succ
          have HBAD : Hid (¬ (1 ≤ xs.getD k 0 ∧ xs.getD k 0 ≤ 400) → betwB xs 1 400 = false) := Lib.hid (betwB_bad (by have := HN.out; omega))
          obtain ⟨x, hx⟩ : ∃ x, xs.getD k 0 = x := ⟨_, rfl⟩
          rw [hx] at cx HS HBAD
          clear hc hx hb
          by_cases h1 : 1 ≤ x ∧ x ≤ 400
          · have T := Lib.hid (inB_true h1)
            have HH := Lib.hid h1
            clear h1
            go_wp2_with fail
            refine (in_any x 1 400 _).mono ?_
            rintro e w2 ⟨rfl, hw⟩
            subst hw
            rw [T.out]
            go_wp2_with fail
            go_round
            case rel => exact ⟨k + 1, by omega, by go_num, HS.out HH.out⟩
            case measure => simp [intOf]; omega
          · have T := Lib.hid (inB_false h1)
            have HC := Lib.hid (rollC_2 (long := long) H10.out (.inr (HBAD.out h1)))
            clear h1
            go_wp2_with fail
            refine (in_any x 1 400 _).mono ?_
            rintro e w2 ⟨rfl, hw⟩
            subst hw
            rw [T.out]
            go_wp2_with fail
            go_ret
            exact ⟨(ret_int HC.out).symm, rfl⟩
        · have hk' : k = n := by omega
          have H4 : Hid (betwB xs 1 400 = true) := Lib.hid (betwB_true (by rw [HN.out, ← hk']; exact hb))
          clear hk' hb
          go_wp2_with fail
          go_loop [8] (fun i => ∃ k : Nat, k ≤ n ∧ i = .int .i64 k ∧ betw xs 1 long k) (fun i => n - (intOf i).toNat)
          case atStart => exact ⟨0, Nat.zero_le _, rfl, betw.zero _ _ _⟩
          case round =>
            obtain ⟨j, hj, rfl, hb⟩ := hrel
            have HB := Lib.hid hb
            by_cases hlt : j < n
            · obtain ⟨g, rfl, hc⟩ := HA.out (by intro e; have := HN.out; rw [e] at this; simp at this; omega)
              have cx := hc j (by have := HN.out; omega)
              have hlo := (betwB_spec H4.out j (by have := HN.out; omega)).1
              have HS : Hid (1 ≤ xs.getD j 0 ∧ xs.getD j 0 ≤ long → betw xs 1 long (j + 1)) := Lib.hid HB.out.succ
              have HBAD : Hid (¬ (1 ≤ xs.getD j 0 ∧ xs.getD j 0 ≤ long) → betwB xs 1 long = false) := Lib.hid (betwB_bad (by have := HN.out; omega))
              obtain ⟨x, hx⟩ : ∃ x, xs.getD j 0 = x := ⟨_, rfl⟩
              rw [hx] at cx HS HBAD hlo
              clear hc hx hb
              by_cases h1 : x ≤ long
              · have t1 : decide (long < x) = false := by simp; omega
                have HH := Lib.hid (HS.out ⟨hlo, h1⟩)
                go_wp2_with fail
                go_round
                case rel => exact ⟨j + 1, by omega, by go_num, HH.out⟩
                case measure => simp [intOf]; omega
              · have t1 : decide (long < x) = true := by simp; omega
                have HC := Lib.hid (rollC_6 H10.out HRB.out H4.out (HBAD.out (fun q => h1 q.2)))
                go_wp2_with fail
                go_ret
                exact ⟨(ret_int HC.out).symm, rfl⟩
            · have hj' : j = n := by omega
              have HC := Lib.hid (rollC_0 H10.out HRB.out H4.out (betwB_true (by rw [HN.out, ← hj']; exact hb)))
              clear hj' hb
              go_wp2_with fail
              go_ret
              exact ⟨(ret_int HC.out).symm, rfl⟩

set_option maxHeartbeats 2000000 in
set_option maxRecDepth 100000 in
theorem irolls_any (v : Value) (xs : List Int) (long : Int) (w : World) (hv : ReadsI w v xs) (hn : xs.length ≤ 1048576) :
    Calls Try.prog 25 #[v, .int .i64 long, .int .i64 0] w fun e w' => e = .returned (.int .i64 (rollC xs long)) ∧ w = w' := by
  obtain ⟨a, cap, rfl, ha⟩ := hv
  have HA := Lib.hid ha
  obtain ⟨n, hn'⟩ : ∃ n, xs.length = n := ⟨_, rfl⟩
  rw [hn'] at hn ⊢
  have HN := Lib.hid hn'
  clear ha hn'
  by_cases h10 : 10 < n
  · have HC := Lib.hid (rollC_3 (xs := xs) long (by rw [HN.out]; exact h10))
    go_enter Try.func25, Try.ntmps25
    go_wp2_with fail
    go_ret
    exact ⟨(ret_int HC.out).symm, rfl⟩
  · have H10 : Hid (¬ 10 < xs.length) := Lib.hid (by rw [HN.out]; exact h10)
    obtain ⟨rb, hrb⟩ : ∃ rb, inB long 1 400 = rb := ⟨_, rfl⟩
    have HRB := Lib.hid hrb
    clear hrb
    cases rb
    · have HC := Lib.hid (rollC_2 H10.out (.inl HRB.out))
      go_enter Try.func25, Try.ntmps25
      go_wp2_with fail
      refine (isRoll_any long _).mono ?_
      rintro e w2 ⟨rfl, rfl⟩
      rw [HRB.out]
      go_wp2_with fail
      go_ret
      exact ⟨(ret_int HC.out).symm, rfl⟩
    · go_enter Try.func25, Try.ntmps25
      go_wp2_with fail
      refine (isRoll_any long _).mono ?_
      rintro e w2 ⟨rfl, rfl⟩
      rw [HRB.out]
      go_wp2_with fail
      go_loop [27] (fun i => ∃ k : Nat, k ≤ n ∧ i = .int .i64 k ∧ betw xs 1 400 k) (fun i => n - (intOf i).toNat)
      case atStart => exact ⟨0, Nat.zero_le _, rfl, betw.zero _ _ _⟩
      case round =>
        obtain ⟨k, hk, rfl, hb⟩ := hrel
        have HB := Lib.hid hb
        by_cases hlt : k < n
        · obtain ⟨g, rfl, hc⟩ := HA.out (by intro e; have := HN.out; rw [e] at this; simp at this; omega)
          have cx := hc k (by have := HN.out; omega)
          have HS : Hid (1 ≤ xs.getD k 0 ∧ xs.getD k 0 ≤ 400 → betw xs 1 400 (k + 1)) := Lib.hid HB.out.succ
          have HBAD : Hid (¬ (1 ≤ xs.getD k 0 ∧ xs.getD k 0 ≤ 400) → betwB xs 1 400 = false) := Lib.hid (betwB_bad (by have := HN.out; omega))
          obtain ⟨x, hx⟩ : ∃ x, xs.getD k 0 = x := ⟨_, rfl⟩
          rw [hx] at cx HS HBAD
          clear hc hx hb
          by_cases h1 : 1 ≤ x ∧ x ≤ 400
          · have T := Lib.hid (inB_true h1)
            have HH := Lib.hid h1
            clear h1
            go_wp2_with fail
            refine (isRoll_any x _).mono ?_
            rintro e w2 ⟨rfl, rfl⟩
            rw [T.out]
            go_wp2_with fail
            go_round
            case rel => exact ⟨k + 1, by omega, by go_num, HS.out HH.out⟩
            case measure => simp [intOf]; omega
          · have T := Lib.hid (inB_false h1)
            have HC := Lib.hid (rollC_2 (long := long) H10.out (.inr (HBAD.out h1)))
            clear h1
            go_wp2_with fail
            refine (isRoll_any x _).mono ?_
            rintro e w2 ⟨rfl, rfl⟩
            rw [T.out]
            go_wp2_with fail
            go_ret
            exact ⟨(ret_int HC.out).symm, rfl⟩
        · have hk' : k = n := by omega
          have H4 : Hid (betwB xs 1 400 = true) := Lib.hid (betwB_true (by rw [HN.out, ← hk']; exact hb))
          clear hk' hb
          go_wp2_with fail
          go_loop [37] (fun i => ∃ k : Nat, k ≤ n ∧ i = .int .i64 k ∧ betw xs 1 long k) (fun i => n - (intOf i).toNat)
          case atStart => exact ⟨0, Nat.zero_le _, rfl, betw.zero _ _ _⟩
          case round =>
            obtain ⟨j, hj, rfl, hb⟩ := hrel
            have HB := Lib.hid hb
            by_cases hlt : j < n
            · obtain ⟨g, rfl, hc⟩ := HA.out (by intro e; have := HN.out; rw [e] at this; simp at this; omega)
              have cx := hc j (by have := HN.out; omega)
              have hlo := (betwB_spec H4.out j (by have := HN.out; omega)).1
              have HS : Hid (1 ≤ xs.getD j 0 ∧ xs.getD j 0 ≤ long → betw xs 1 long (j + 1)) := Lib.hid HB.out.succ
              have HBAD : Hid (¬ (1 ≤ xs.getD j 0 ∧ xs.getD j 0 ≤ long) → betwB xs 1 long = false) := Lib.hid (betwB_bad (by have := HN.out; omega))
              obtain ⟨x, hx⟩ : ∃ x, xs.getD j 0 = x := ⟨_, rfl⟩
              rw [hx] at cx HS HBAD hlo
              clear hc hx hb
              by_cases h1 : x ≤ long
              · have t1 : decide (long < x) = false := by simp; omega
                have HH := Lib.hid (HS.out ⟨hlo, h1⟩)
                go_wp2_with fail
                go_round
                case rel => exact ⟨j + 1, by omega, by go_num, HH.out⟩
                case measure => simp [intOf]; omega
              · have t1 : decide (long < x) = true := by simp; omega
                have HC := Lib.hid (rollC_6 H10.out HRB.out H4.out (HBAD.out (fun q => h1 q.2)))
                go_wp2_with fail
                go_ret
                exact ⟨(ret_int HC.out).symm, rfl⟩
            · have hj' : j = n := by omega
              have HC := Lib.hid (rollC_0 H10.out HRB.out H4.out (betwB_true (by rw [HN.out, ← hj']; exact hb)))
              clear hj' hb
              go_wp2_with fail
              go_ret
              exact ⟨(ret_int HC.out).symm, rfl⟩
end Go.Proofs.Ytlobfhhdddedbaa
