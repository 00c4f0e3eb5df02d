/-
  Contracts of both FitsPaper.
-/
import Derived.Test.YtjniljndnnoegaaCut2
import Derived.Test.YtjniljndnnoegaaFits2
namespace Go.Proofs.Ytjniljndnnoegaa
open Go Go.RowKit
set_option linter.unusedVariables false

theorem iroll_any (n : Int) (w : World) : Calls Try.prog 59 #[.int .i64 n] w fun e w' => e = .returned (.bool (inB n 1 400)) ∧ w' = w := by
  by_cases h1 : 1 ≤ n
  · by_cases h2 : n ≤ 400
    · have hd : decide (n ≤ 400) = true := decide_eq_true h2
      go_enter Try.func59, Try.ntmps59
      go_wp2
      go_ret
      exact ⟨(ret_bool (inB_true ⟨h1, h2⟩)).symm, rfl⟩
    · have hd : decide (n ≤ 400) = false := decide_eq_false h2
      go_enter Try.func59, Try.ntmps59
      go_wp2
      go_ret
      exact ⟨(ret_bool (inB_false (by omega))).symm, rfl⟩
  · have hd : decide (1 ≤ n) = false := decide_eq_false h1
    go_enter Try.func59, Try.ntmps59
    go_wp2
    go_ret
    exact ⟨(ret_bool (inB_false (by omega))).symm, rfl⟩

def cutB (a b c wide : Int) : Int := cutOf wide (turnsL (lo3 a b c) (mi3 a b c) (hi3 a b c))
def fpCode (a b c wide long : Int) : Int := if okB a b c = true then (if inB wide 1 400 = true ∧ inB long 1 400 = true then 0 else 2) else 1
def fpRes (a b c wide long : Int) : Bool := decide (fpCode a b c wide long = 0 ∧ 0 ≤ cutB a b c wide ∧ cutB a b c wide ≤ long)
theorem fp_bad {a b c wide long : Int} (h : okB a b c = false) : fpRes a b c wide long = false ∧ fpCode a b c wide long = 1 := by
  have e : fpCode a b c wide long = 1 := by unfold fpCode; rw [if_neg (by rw [h]; simp)]
  exact ⟨decide_eq_false (by omega), e⟩
theorem fp_far {a b c wide long : Int} (h : okB a b c = true) (g : inB wide 1 400 = false ∨ inB long 1 400 = false) : fpRes a b c wide long = false ∧ fpCode a b c wide long = 2 := by
  have e : fpCode a b c wide long = 2 := by
    unfold fpCode; rw [if_pos h, if_neg (by rcases g with g | g <;> rw [g] <;> simp)]
  exact ⟨decide_eq_false (by omega), e⟩
theorem fp_in {a b c wide long r : Int} {p : Bool} (h : okB a b c = true) (g1 : inB wide 1 400 = true) (g2 : inB long 1 400 = true) (hr : cutB a b c wide = r) (hp : decide (0 ≤ r ∧ r ≤ long) = p) : fpRes a b c wide long = p ∧ fpCode a b c wide long = 0 := by
  have e : fpCode a b c wide long = 0 := by unfold fpCode; rw [if_pos h, if_pos ⟨g1, g2⟩]
  refine ⟨?_, e⟩
  unfold fpRes
  rw [e, hr, ← hp]
  simp

set_option maxHeartbeats 1600000 in
theorem ifp_any (a b c wide long : Int) (w : World) (ha : I8s a b c) (hw : (Lit.int .i64 wide).wf = true) (hl : (Lit.int .i64 long).wf = true) :
    Calls Try.prog 35 #[.agg #[.int .i8 a, .int .i8 b, .int .i8 c], .int .i64 wide, .int .i64 long] w fun e w' => e = .returned (.tuple #[.bool (fpRes a b c wide long), .int .i64 (fpCode a b c wide long)]) ∧ Below w.heap.size w w' := by
  have HA := Lib.hid ha
  clear ha hw hl
  obtain ⟨W1, e1⟩ : ∃ W, w.alloc (.cells #[.int .i8 a, .int .i8 b, .int .i8 c] 26) = W := ⟨_, rfl⟩
  have HE1 := Lib.hid e1
  have B1 : Hid (Below w.heap.size w W1) := Lib.hid (by rw [← e1]; exact (Below.refl _ _).alloc (Nat.le_refl _) _)
  have Q1 : Hid (At3 W1 w.heap.size a b c) := Lib.hid (by rw [← e1]; exact At3.new _ _ _ _ _)
  clear e1
  obtain ⟨o, ho⟩ : ∃ o, okB a b c = o := ⟨_, rfl⟩
  obtain ⟨p, hp⟩ : ∃ p, inB wide 1 400 = p := ⟨_, rfl⟩
  obtain ⟨q, hq⟩ : ∃ q, inB long 1 400 = q := ⟨_, rfl⟩
  have HO := Lib.hid ho
  have HP := Lib.hid hp
  have HQ := Lib.hid hq
  clear ho hp hq
  cases o
  · have HR := Lib.hid (fp_bad (wide := wide) (long := long) HO.out)
    go_enter Try.func35, Try.ntmps35
    go_wp2_with fail
    rw [HE1.out]
    refine (ivbox_any a b c _ HA.out).mono ?_
    rintro e w2 ⟨rfl, b2⟩
    rw [HO.out]
    have B2 := Lib.hid (blink B1.out b2)
    have q2 := Q1.out.below b2
    have g0 := q2.1
    have g1 := q2.2.1
    have g2 := q2.2.2
    clear b2 q2
    go_wp2_with fail
    go_ret2
    exact ⟨ret_bi HR.out, B2.out⟩
  · cases p
    · have HR := Lib.hid (fp_far (long := long) HO.out (.inl HP.out))
      go_enter Try.func35, Try.ntmps35
      go_wp2_with fail
      rw [HE1.out]
      refine (ivbox_any a b c _ HA.out).mono ?_
      rintro e w2 ⟨rfl, b2⟩
      rw [HO.out]
      have B2 := Lib.hid (blink B1.out b2)
      have q2 := Q1.out.below b2
      have g0 := q2.1
      have g1 := q2.2.1
      have g2 := q2.2.2
      clear b2 q2
      go_wp2_with fail
      refine (iroll_any wide _).mono ?_
      rintro e wx ⟨rfl, hwx⟩
      subst hwx
      rw [HP.out]
      go_wp2_with fail
      go_ret2
      exact ⟨ret_bi HR.out, B2.out⟩
    · cases q
      · have HR := Lib.hid (fp_far (wide := wide) HO.out (.inr HQ.out))
        go_enter Try.func35, Try.ntmps35
        go_wp2_with fail
        rw [HE1.out]
        refine (ivbox_any a b c _ HA.out).mono ?_
        rintro e w2 ⟨rfl, b2⟩
        rw [HO.out]
        have B2 := Lib.hid (blink B1.out b2)
        have q2 := Q1.out.below b2
        have g0 := q2.1
        have g1 := q2.2.1
        have g2 := q2.2.2
        clear b2 q2
        go_wp2_with fail
        refine (iroll_any wide _).mono ?_
        rintro e wx ⟨rfl, hwx⟩
        subst hwx
        rw [HP.out]
        go_wp2_with fail
        refine (iroll_any long _).mono ?_
        rintro e wx ⟨rfl, hwx⟩
        subst hwx
        rw [HQ.out]
        go_wp2_with fail
        go_ret2
        exact ⟨ret_bi HR.out, B2.out⟩
      · obtain ⟨r, hr⟩ : ∃ r, cutB a b c wide = r := ⟨_, rfl⟩
        have HRR := Lib.hid hr
        have hcb : -1 ≤ r := by
          rw [← hr]
          have hbd := of_decide_eq_true HO.out
          have hord := ord3 a b c
          exact (cutOf_okbd (turnsL_ok (by omega) hord.1 hord.2 hbd.2)).1
        unfold cutB at hr
        have HC : Hid (∀ W, Calls Try.prog 60 #[.agg #[.int .i8 a, .int .i8 b, .int .i8 c], .int .i64 wide] W fun e w' => e = .returned (.tuple #[.int .i64 (leastOf r), .bool (foundOf r)]) ∧ Below W.heap.size W w') := Lib.hid (fun W => by
          have h := callsIn_wide.1 (ileast_in a b c wide HO.out W)
          rw [hr] at h
          exact h)
        clear hr
        by_cases h1 : 0 ≤ r
        · have e1 : leastOf r = r ∧ foundOf r = true := ⟨by unfold leastOf; rw [if_neg (by omega)], decide_eq_true h1⟩
          have HE := Lib.hid e1
          clear e1
          by_cases h2 : r ≤ long
          · have HR := Lib.hid (fp_in HO.out HP.out HQ.out HRR.out (decide_eq_true (p := 0 ≤ r ∧ r ≤ long) ⟨h1, h2⟩))
            have t2 : decide (r ≤ long) = true := decide_eq_true h2
            go_enter Try.func35, Try.ntmps35
            go_wp2_with fail
            rw [HE1.out]
            refine (ivbox_any a b c _ HA.out).mono ?_
            rintro e w2 ⟨rfl, b2⟩
            rw [HO.out]
            have B2 := Lib.hid (blink B1.out b2)
            have q2 := Q1.out.below b2
            have g0 := q2.1
            have g1 := q2.2.1
            have g2 := q2.2.2
            clear b2 q2
            go_wp2_with fail
            refine (iroll_any wide _).mono ?_
            rintro e wx ⟨rfl, hwx⟩
            subst hwx
            rw [HP.out]
            go_wp2_with fail
            refine (iroll_any long _).mono ?_
            rintro e wx ⟨rfl, hwx⟩
            subst hwx
            rw [HQ.out]
            go_wp2_with fail
            refine (HC.out _).mono ?_
            rintro e w3 ⟨rfl, b3⟩
            rw [HE.out.1, HE.out.2]
            have B2 := Lib.hid (blink B2.out b3)
            clear b3
            go_wp2_with fail
            go_ret2
            exact ⟨ret_bi HR.out, B2.out⟩
          · have HR := Lib.hid (fp_in HO.out HP.out HQ.out HRR.out (decide_eq_false (p := 0 ≤ r ∧ r ≤ long) (by omega)))
            have t2 : decide (r ≤ long) = false := decide_eq_false h2
            go_enter Try.func35, Try.ntmps35
            go_wp2_with fail
            rw [HE1.out]
            refine (ivbox_any a b c _ HA.out).mono ?_
            rintro e w2 ⟨rfl, b2⟩
            rw [HO.out]
            have B2 := Lib.hid (blink B1.out b2)
            have q2 := Q1.out.below b2
            have g0 := q2.1
            have g1 := q2.2.1
            have g2 := q2.2.2
            clear b2 q2
            go_wp2_with fail
            refine (iroll_any wide _).mono ?_
            rintro e wx ⟨rfl, hwx⟩
            subst hwx
            rw [HP.out]
            go_wp2_with fail
            refine (iroll_any long _).mono ?_
            rintro e wx ⟨rfl, hwx⟩
            subst hwx
            rw [HQ.out]
            go_wp2_with fail
            refine (HC.out _).mono ?_
            rintro e w3 ⟨rfl, b3⟩
            rw [HE.out.1, HE.out.2]
            have B2 := Lib.hid (blink B2.out b3)
            clear b3
            go_wp2_with fail
            go_ret2
            exact ⟨ret_bi HR.out, B2.out⟩
        · have HR := Lib.hid (fp_in HO.out HP.out HQ.out HRR.out (decide_eq_false (p := 0 ≤ r ∧ r ≤ long) (by omega)))
          have e1 : leastOf r = 400 ∧ foundOf r = false := ⟨by unfold leastOf; rw [if_pos (by omega)], decide_eq_false h1⟩
          have HE := Lib.hid e1
          clear e1
          go_enter Try.func35, Try.ntmps35
          go_wp2_with fail
          rw [HE1.out]
          refine (ivbox_any a b c _ HA.out).mono ?_
          rintro e w2 ⟨rfl, b2⟩
          rw [HO.out]
          have B2 := Lib.hid (blink B1.out b2)
          have q2 := Q1.out.below b2
          have g0 := q2.1
          have g1 := q2.2.1
          have g2 := q2.2.2
          clear b2 q2
          go_wp2_with fail
          refine (iroll_any wide _).mono ?_
          rintro e wx ⟨rfl, hwx⟩
          subst hwx
          rw [HP.out]
          go_wp2_with fail
          refine (iroll_any long _).mono ?_
          rintro e wx ⟨rfl, hwx⟩
          subst hwx
          rw [HQ.out]
          go_wp2_with fail
          refine (HC.out _).mono ?_
          rintro e w3 ⟨rfl, b3⟩
          rw [HE.out.1, HE.out.2]
          have B2 := Lib.hid (blink B2.out b3)
          clear b3
          go_wp2_with fail
          go_ret2
          exact ⟨ret_bi HR.out, B2.out⟩
set_option maxHeartbeats 1600000 in
theorem sfp_any (a b c wide long : Int) (w : World) (ha : I8s a b c) (hw : (Lit.int .i64 wide).wf = true) (hl : (Lit.int .i64 long).wf = true) :
    Calls Try.prog 34 #[.agg #[.int .i8 a, .int .i8 b, .int .i8 c], .int .i64 wide, .int .i64 long] w fun e w' => e = .returned (.tuple #[.bool (fpRes a b c wide long), .int .i64 (fpCode a b c wide long)]) ∧ Below w.heap.size w w' := by
  have HA := Lib.hid ha
  clear ha hw hl
  obtain ⟨W1, e1⟩ : ∃ W, w.alloc (.cells #[.int .i8 a, .int .i8 b, .int .i8 c] 26) = W := ⟨_, rfl⟩
  have HE1 := Lib.hid e1
  have B1 : Hid (Below w.heap.size w W1) := Lib.hid (by rw [← e1]; exact (Below.refl _ _).alloc (Nat.le_refl _) _)
  have Q1 : Hid (At3 W1 w.heap.size a b c) := Lib.hid (by rw [← e1]; exact At3.new _ _ _ _ _)
  clear e1
  obtain ⟨o, ho⟩ : ∃ o, okB a b c = o := ⟨_, rfl⟩
  obtain ⟨p, hp⟩ : ∃ p, inB wide 1 400 = p := ⟨_, rfl⟩
  obtain ⟨q, hq⟩ : ∃ q, inB long 1 400 = q := ⟨_, rfl⟩
  have HO := Lib.hid ho
  have HP := Lib.hid hp
  have HQ := Lib.hid hq
  clear ho hp hq
  cases o
  · have HR := Lib.hid (fp_bad (wide := wide) (long := long) HO.out)
    go_enter Try.func34, Try.ntmps34
    go_wp2_with fail
    rw [HE1.out]
    refine (sok_any a b c _ HA.out).mono ?_
    rintro e w2 ⟨rfl, b2⟩
    rw [HO.out]
    have B2 := Lib.hid (blink B1.out b2)
    have q2 := Q1.out.below b2
    have g0 := q2.1
    have g1 := q2.2.1
    have g2 := q2.2.2
    clear b2 q2
    go_wp2_with fail
    go_ret2
    exact ⟨ret_bi HR.out, B2.out⟩
  · cases p
    · have HR := Lib.hid (fp_far (long := long) HO.out (.inl HP.out))
      go_enter Try.func34, Try.ntmps34
      go_wp2_with fail
      rw [HE1.out]
      refine (sok_any a b c _ HA.out).mono ?_
      rintro e w2 ⟨rfl, b2⟩
      rw [HO.out]
      have B2 := Lib.hid (blink B1.out b2)
      have q2 := Q1.out.below b2
      have g0 := q2.1
      have g1 := q2.2.1
      have g2 := q2.2.2
      clear b2 q2
      go_wp2_with fail
      refine (in_any _ _ _ _).mono ?_
      rintro e wx ⟨rfl, hwx⟩
      subst hwx
      rw [HP.out]
      go_wp2_with fail
      go_ret2
      exact ⟨ret_bi HR.out, B2.out⟩
    · cases q
      · have HR := Lib.hid (fp_far (wide := wide) HO.out (.inr HQ.out))
        go_enter Try.func34, Try.ntmps34
        go_wp2_with fail
        rw [HE1.out]
        refine (sok_any a b c _ HA.out).mono ?_
        rintro e w2 ⟨rfl, b2⟩
        rw [HO.out]
        have B2 := Lib.hid (blink B1.out b2)
        have q2 := Q1.out.below b2
        have g0 := q2.1
        have g1 := q2.2.1
        have g2 := q2.2.2
        clear b2 q2
        go_wp2_with fail
        refine (in_any _ _ _ _).mono ?_
        rintro e wx ⟨rfl, hwx⟩
        subst hwx
        rw [HP.out]
        go_wp2_with fail
        refine (in_any _ _ _ _).mono ?_
        rintro e wx ⟨rfl, hwx⟩
        subst hwx
        rw [HQ.out]
        go_wp2_with fail
        go_ret2
        exact ⟨ret_bi HR.out, B2.out⟩
      · obtain ⟨r, hr⟩ : ∃ r, cutB a b c wide = r := ⟨_, rfl⟩
        have HRR := Lib.hid hr
        have hcb : -1 ≤ r := by
          rw [← hr]
          have hbd := of_decide_eq_true HO.out
          have hord := ord3 a b c
          exact (cutOf_okbd (turnsL_ok (by omega) hord.1 hord.2 hbd.2)).1
        unfold cutB at hr
        have HC : Hid (∀ W, Calls Try.prog 58 #[.agg #[.int .i8 a, .int .i8 b, .int .i8 c], .int .i64 wide] W fun e w' => e = .returned (.int .i64 r) ∧ Below W.heap.size W w') := Lib.hid (fun W => by
          have h := scut_any a b c wide HO.out W
          rw [hr] at h
          exact h)
        clear hr
        by_cases h1 : 0 ≤ r
        · by_cases h2 : r ≤ long
          · have HR := Lib.hid (fp_in HO.out HP.out HQ.out HRR.out (decide_eq_true (p := 0 ≤ r ∧ r ≤ long) ⟨h1, h2⟩))
            have t2 : decide (r ≤ long) = true := decide_eq_true h2
            go_enter Try.func34, Try.ntmps34
            go_wp2_with fail
            rw [HE1.out]
            refine (sok_any a b c _ HA.out).mono ?_
            rintro e w2 ⟨rfl, b2⟩
            rw [HO.out]
            have B2 := Lib.hid (blink B1.out b2)
            have q2 := Q1.out.below b2
            have g0 := q2.1
            have g1 := q2.2.1
            have g2 := q2.2.2
            clear b2 q2
            go_wp2_with fail
            refine (in_any _ _ _ _).mono ?_
            rintro e wx ⟨rfl, hwx⟩
            subst hwx
            rw [HP.out]
            go_wp2_with fail
            refine (in_any _ _ _ _).mono ?_
            rintro e wx ⟨rfl, hwx⟩
            subst hwx
            rw [HQ.out]
            go_wp2_with fail
            refine (HC.out _).mono ?_
            rintro e w3 ⟨rfl, b3⟩
            have B2 := Lib.hid (blink B2.out b3)
            clear b3
            go_wp2_with fail
            go_ret2
            exact ⟨ret_bi HR.out, B2.out⟩
          · have HR := Lib.hid (fp_in HO.out HP.out HQ.out HRR.out (decide_eq_false (p := 0 ≤ r ∧ r ≤ long) (by omega)))
            have t2 : decide (r ≤ long) = false := decide_eq_false h2
            go_enter Try.func34, Try.ntmps34
            go_wp2_with fail
            rw [HE1.out]
            refine (sok_any a b c _ HA.out).mono ?_
            rintro e w2 ⟨rfl, b2⟩
            rw [HO.out]
            have B2 := Lib.hid (blink B1.out b2)
            have q2 := Q1.out.below b2
            have g0 := q2.1
            have g1 := q2.2.1
            have g2 := q2.2.2
            clear b2 q2
            go_wp2_with fail
            refine (in_any _ _ _ _).mono ?_
            rintro e wx ⟨rfl, hwx⟩
            subst hwx
            rw [HP.out]
            go_wp2_with fail
            refine (in_any _ _ _ _).mono ?_
            rintro e wx ⟨rfl, hwx⟩
            subst hwx
            rw [HQ.out]
            go_wp2_with fail
            refine (HC.out _).mono ?_
            rintro e w3 ⟨rfl, b3⟩
            have B2 := Lib.hid (blink B2.out b3)
            clear b3
            go_wp2_with fail
            go_ret2
            exact ⟨ret_bi HR.out, B2.out⟩
        · have HR := Lib.hid (fp_in HO.out HP.out HQ.out HRR.out (decide_eq_false (p := 0 ≤ r ∧ r ≤ long) (by omega)))
          have t1 : decide (0 ≤ r) = false := decide_eq_false h1
          go_enter Try.func34, Try.ntmps34
          go_wp2_with fail
          rw [HE1.out]
          refine (sok_any a b c _ HA.out).mono ?_
          rintro e w2 ⟨rfl, b2⟩
          rw [HO.out]
          have B2 := Lib.hid (blink B1.out b2)
          have q2 := Q1.out.below b2
          have g0 := q2.1
          have g1 := q2.2.1
          have g2 := q2.2.2
          clear b2 q2
          go_wp2_with fail
          refine (in_any _ _ _ _).mono ?_
          rintro e wx ⟨rfl, hwx⟩
          subst hwx
          rw [HP.out]
          go_wp2_with fail
          refine (in_any _ _ _ _).mono ?_
          rintro e wx ⟨rfl, hwx⟩
          subst hwx
          rw [HQ.out]
          go_wp2_with fail
          refine (HC.out _).mono ?_
          rintro e w3 ⟨rfl, b3⟩
          have B2 := Lib.hid (blink B2.out b3)
          clear b3
          go_wp2_with fail
          go_ret2
          exact ⟨ret_bi HR.out, B2.out⟩
end Go.Proofs.Ytjniljndnnoegaa
