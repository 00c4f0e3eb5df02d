/-
  CutsFor: the program's, whatever the arguments are; LeastCut on both sides.
-/
import Derived.Test.YtpefkdhmkamdaaaCfI
namespace Go.Proofs.Ytpefkdhmkamdaaa
open Go Go.RowKit
set_option linter.unusedVariables false

set_option maxHeartbeats 1000000 in
theorem icuts_any (v : Value) (ps : List Tri) (wide : Int) (w : World) (hv : ReadsB w v ps) (hfit : All8 ps) (hx : ps.length ≤ 1048576) :
    Calls Try.prog 11 #[v, .int .i64 wide] w fun e w' => ∃ v', e = .returned (.tuple #[v', .int .i64 (cfC ps wide)]) ∧ OwnI w.heap.size w' v' (cfR ps wide) ∧ Below w.heap.size w w' := by
  by_cases g : vldX ps = true
  · by_cases g2 : inB wide 1 400 = true
    · exact icuts_ok v ps wide w hv hfit hx g g2
    · have g2 : inB wide 1 400 = false := by simpa using g2
      have HG := Lib.hid g
      have HG2 := Lib.hid g2
      have HR := Lib.hid (cf_2 g g2)
      have HV := Lib.hid hv
      clear g g2 hv
      go_enter Try.func11, Try.ntmps11
      go_wp2_with fail
      refine (ivldX_any _ ps _ HV.out hfit hx).mono ?_
      rintro e w1 ⟨rfl, q1⟩
      rw [HG.out]
      go_wp2_with (go_at_call 22; refine (iroll_any _ _).mono ?_; rintro e w2 ⟨rfl, hw2⟩; rw [hw2, HG2.out]; clear hw2 w2)
      go_ret2
      exact ⟨_, by rw [HR.out.1]; rfl, by rw [HR.out.2]; exact World.ownsRow_nil _ _ _ _, q1⟩
  · have g : vldX ps = false := by simpa using g
    have HG := Lib.hid g
    have HR := Lib.hid (cf_1 (wide := wide) g)
    have HV := Lib.hid hv
    clear g hv
    go_enter Try.func11, Try.ntmps11
    go_wp2_with fail
    refine (ivldX_any _ ps _ HV.out hfit hx).mono ?_
    rintro e w1 ⟨rfl, q1⟩
    rw [HG.out]
    go_wp2_with fail
    go_ret2
    exact ⟨_, by rw [HR.out.1]; rfl, by rw [HR.out.2]; exact World.ownsRow_nil _ _ _ _, q1⟩

/-! ### LeastCut -/
def lcC (a b c wide : Int) : Int := if okB a b c = false then 1 else if inB wide 1 400 = false then 2 else if cutB a b c wide < 0 then 6 else 0
def lcR (a b c wide : Int) : Int := if lcC a b c wide = 0 then cutB a b c wide else 0
theorem lc_1 {a b c wide : Int} (h : okB a b c = false) : lcC a b c wide = 1 ∧ lcR a b c wide = 0 := by
  have e : lcC a b c wide = 1 := if_pos h
  exact ⟨e, if_neg (by rw [e]; decide)⟩
theorem lc_2 {a b c wide : Int} (h : okB a b c = true) (g : inB wide 1 400 = false) : lcC a b c wide = 2 ∧ lcR a b c wide = 0 := by
  have e : lcC a b c wide = 2 := by unfold lcC; rw [if_neg (by rw [h]; simp), if_pos g]
  exact ⟨e, if_neg (by rw [e]; decide)⟩
theorem lc_6 {a b c wide : Int} (h : okB a b c = true) (g : inB wide 1 400 = true) (f : cutB a b c wide < 0) : lcC a b c wide = 6 ∧ lcR a b c wide = 0 := by
  have e : lcC a b c wide = 6 := by unfold lcC; rw [if_neg (by rw [h]; simp), if_neg (by rw [g]; simp), if_pos f]
  exact ⟨e, if_neg (by rw [e]; decide)⟩
theorem lc_0 {a b c wide : Int} (h : okB a b c = true) (g : inB wide 1 400 = true) (f : ¬ cutB a b c wide < 0) : lcC a b c wide = 0 ∧ lcR a b c wide = cutB a b c wide := by
  have e : lcC a b c wide = 0 := by unfold lcC; rw [if_neg (by rw [h]; simp), if_neg (by rw [g]; simp), if_neg f]
  exact ⟨e, if_pos e⟩
theorem one_vld (a b c : Int) : vldX [(a, b, c)] = okB a b c := by
  cases h : okB a b c
  · exact vldX_bad (k := 0) (by simp) (fun q => by unfold okX at q; simp at q; rw [h] at q; cases q)
  · refine vldX_true (by simp) (fun i hi => ?_)
    have hi' : i < 1 := hi
    obtain rfl : i = 0 := by omega
    unfold okX; simpa using h
theorem one_cut (a b c wide : Int) : cutAt [(a, b, c)] wide 0 = cutB a b c wide := rfl
theorem one_cf (a b c wide : Int) : cfC [(a, b, c)] wide = lcC a b c wide := by
  unfold cfC lcC
  rw [one_vld]
  by_cases f : cutB a b c wide < 0
  · rw [if_pos f, if_neg (fun q : hasTo [(a, b, c)] wide [(a, b, c)].length => by have := q 0 (by simp); rw [one_cut] at this; omega)]
  · rw [if_neg f, if_pos (show hasTo [(a, b, c)] wide [(a, b, c)].length from fun i hi => by
      have hi' : i < 1 := hi
      obtain rfl : i = 0 := by omega
      rw [one_cut]; omega)]
theorem one_cfR {a b c wide : Int} (h : lcC a b c wide = 0) : cfR [(a, b, c)] wide = [lcR a b c wide] := by
  unfold cfR lcR
  rw [one_cf, if_pos h, if_pos h]
  rfl

set_option maxHeartbeats 2000000 in
theorem slc_any (a b c wide : Int) (w : World) (ha : I8s a b c) (hw : (Lit.int .i64 wide).wf = true) :
    Calls Try.prog 5 #[.agg #[.int .i8 a, .int .i8 b, .int .i8 c], .int .i64 wide] w fun e w' => e = .returned (.tuple #[.int .i64 (lcR a b c wide), .int .i64 (lcC a b c wide)]) ∧ Below w.heap.size w w' := by
  have HA := Lib.hid ha
  clear ha
  obtain ⟨W1, e1⟩ : ∃ W, w.alloc (.cells #[.int .i8 a, .int .i8 b, .int .i8 c] 27) = W := ⟨_, rfl⟩
  have HE1 := Lib.hid e1
  have B1 : Hid (Below w.heap.size w W1) := Lib.hid (by rw [← e1]; exact (Below.refl _ _).alloc (Nat.le_refl _) _)
  have Q1 : Hid (At3 W1 w.heap.size a b c) := Lib.hid (by rw [← e1]; exact At3.new _ _ _ _ _)
  clear e1
  by_cases ho : okB a b c = true
  · have HO := Lib.hid ho
    by_cases hg : inB wide 1 400 = true
    · have HG := Lib.hid hg
      have hcin := cutB_in (wide := wide) ho
      have H6 := Lib.hid (fun f => lc_6 ho hg f)
      have H0 := Lib.hid (fun f => lc_0 ho hg f)
      have HSC : Hid (∀ W, Calls Try.prog 19 #[.agg #[.int .i8 a, .int .i8 b, .int .i8 c], .int .i64 wide] W fun e w' => e = .returned (.int .i64 (cutB a b c wide)) ∧ Below W.heap.size W w') := Lib.hid (fun W => scut_any a b c wide ho W)
      obtain ⟨cv, hcv⟩ : ∃ q, cutB a b c wide = q := ⟨_, rfl⟩
      rw [hcv] at HSC H6 H0 hcin
      obtain ⟨cl, cu⟩ := hcin
      clear ho hg hcv
      by_cases t : cv < 0
      · have d1 : decide (cv < 0) = true := decide_eq_true t
        have HR := Lib.hid (H6.out t)
        go_enter Try.func5, Try.ntmps5
        go_wp2_with fail
        rw [HE1.out]
        refine (sok_any a b c _ HA.out).mono ?_
        rintro e w2 ⟨rfl, b2⟩
        rw [HO.out]
        have B2 := Lib.hid (blink B1.out b2)
        have q2 := Q1.out.below b2
        have g0 := q2.1
        have g1 := q2.2.1
        have g2 := q2.2.2
        clear b2 q2
        go_wp2_with (first | (go_at_call 18; refine (in_any _ _ _ _).mono ?_; rintro e w3 ⟨rfl, hw3⟩; rw [hw3, HG.out]; clear hw3 w3) | (go_at_call 19; refine (HSC.out _).mono ?_; rintro e w4 ⟨rfl, b4⟩))
        go_ret2
        exact ⟨ret_tw3 ⟨HR.out.2.symm, HR.out.1.symm⟩, blink B2.out b4⟩
      · have d1 : decide (cv < 0) = false := decide_eq_false t
        have HR := Lib.hid (H0.out t)
        go_enter Try.func5, Try.ntmps5
        go_wp2_with fail
        rw [HE1.out]
        refine (sok_any a b c _ HA.out).mono ?_
        rintro e w2 ⟨rfl, b2⟩
        rw [HO.out]
        have B2 := Lib.hid (blink B1.out b2)
        have q2 := Q1.out.below b2
        have g0 := q2.1
        have g1 := q2.2.1
        have g2 := q2.2.2
        clear b2 q2
        go_wp2_with (first | (go_at_call 18; refine (in_any _ _ _ _).mono ?_; rintro e w3 ⟨rfl, hw3⟩; rw [hw3, HG.out]; clear hw3 w3) | (go_at_call 19; refine (HSC.out _).mono ?_; rintro e w4 ⟨rfl, b4⟩))
        go_ret2
        exact ⟨ret_tw3 ⟨HR.out.2.symm, HR.out.1.symm⟩, blink B2.out b4⟩
    · have hg : inB wide 1 400 = false := by simpa using hg
      have HG := Lib.hid hg
      have HR := Lib.hid (lc_2 ho hg)
      clear ho hg
      go_enter Try.func5, Try.ntmps5
      go_wp2_with fail
      rw [HE1.out]
      refine (sok_any a b c _ HA.out).mono ?_
      rintro e w2 ⟨rfl, b2⟩
      rw [HO.out]
      have B2 := Lib.hid (blink B1.out b2)
      clear b2
      go_wp2_with (go_at_call 18; refine (in_any _ _ _ _).mono ?_; rintro e w3 ⟨rfl, hw3⟩; rw [hw3, HG.out]; clear hw3 w3)
      go_ret2
      exact ⟨ret_tw3 ⟨HR.out.2.symm, HR.out.1.symm⟩, B2.out⟩
  · have ho : okB a b c = false := by simpa using ho
    have HO := Lib.hid ho
    have HR := Lib.hid (lc_1 (wide := wide) ho)
    clear ho
    go_enter Try.func5, Try.ntmps5
    go_wp2_with fail
    rw [HE1.out]
    refine (sok_any a b c _ HA.out).mono ?_
    rintro e w2 ⟨rfl, b2⟩
    rw [HO.out]
    have B2 := Lib.hid (blink B1.out b2)
    clear b2
    go_wp2_with fail
    go_ret2
    exact ⟨ret_tw3 ⟨HR.out.2.symm, HR.out.1.symm⟩, B2.out⟩

set_option maxHeartbeats 2000000 in
theorem ilc_any (a b c wide : Int) (w : World) (ha : I8s a b c) (hw : (Lit.int .i64 wide).wf = true) :
    Calls Try.prog 7 #[.agg #[.int .i8 a, .int .i8 b, .int .i8 c], .int .i64 wide] w fun e w' => e = .returned (.tuple #[.int .i64 (lcR a b c wide), .int .i64 (lcC a b c wide)]) ∧ Below w.heap.size w w' := by
  obtain ⟨W1, e1⟩ : ∃ W, w.alloc (.cells #[.int .i8 a, .int .i8 b, .int .i8 c] 27) = W := ⟨_, rfl⟩
  have s1 : W1.heap.size = w.heap.size + 1 := by rw [← e1]; simp
  obtain ⟨W2, e2⟩ : ∃ W, W1.alloc (.cells #[.int .i8 a, .int .i8 b, .int .i8 c] 27) = W := ⟨_, rfl⟩
  have s2 : W2.heap.size = w.heap.size + 1 + 1 := by rw [← e2]; simp [s1]
  have hB : Below w.heap.size w W2 := by rw [← e2]; refine Below.alloc ?_ (by omega) _; rw [← e1]; exact (Below.refl _ _).alloc (Nat.le_refl _) _
  have hrd : ReadsB W2 (.slice (some ⟨w.heap.size + 1, 0, none⟩) 1 1) [(a, b, c)] := by
    refine ⟨_, _, rfl, fun _ => ⟨_, rfl, fun i hi => ?_⟩⟩
    have hi' : i < 1 := hi
    obtain rfl : i = 0 := by omega
    have q : At3 W2 W1.heap.size a b c := by rw [← e2]; exact At3.new _ _ _ _ _
    rw [s1] at q
    exact q
  have HC := Lib.hid (icuts_any _ [(a, b, c)] wide W2 hrd (fun p hp => by simp at hp; subst hp; exact ha) (by simp))
  have HE := Lib.hid (And.intro e1 e2)
  have HB := Lib.hid hB
  have HCF := Lib.hid (one_cf a b c wide)
  have HCR := Lib.hid (fun h => one_cfR (a := a) (b := b) (c := c) (wide := wide) h)
  clear e1 e2 hB hrd ha
  by_cases h : lcC a b c wide = 0
  · have HZ := Lib.hid h
    have HR1 := Lib.hid (HCR.out h)
    clear h
    go_enter Try.func7, Try.ntmps7
    go_wp2_with fail
    rw [HE.out.1, ← s1, HE.out.2]
    rw [s1]
    refine HC.out.mono ?_
    rintro e w3 ⟨v', rfl, ho, b3⟩
    rw [HCF.out, HZ.out]
    rw [HR1.out] at ho
    rcases ho.cases with ⟨_, h0⟩ | ⟨gg, gc, rfl, _, _, _, _, hcell, _⟩
    · cases h0
    · have c0 := hcell 0 (by simp)
      simp only [List.length_cons, List.length_nil] at c0 ⊢
      have c0' : w3.cell? ⟨gg, 0, none⟩ = some (.int .i64 (lcR a b c wide)) := by simpa using c0
      clear ho hcell c0
      go_wp2_with fail
      go_ret2
      exact ⟨ret_tw3 ⟨rfl, HZ.out.symm⟩, HB.out.trans (b3.mono (by omega))⟩
  · have hz : (lcC a b c wide == 0) = false := by simpa using h
    have HR : Hid (lcR a b c wide = 0) := Lib.hid (if_neg h)
    clear h
    go_enter Try.func7, Try.ntmps7
    go_wp2_with fail
    rw [HE.out.1, ← s1, HE.out.2]
    rw [s1]
    refine HC.out.mono ?_
    rintro e w3 ⟨v', rfl, ho, b3⟩
    rw [HCF.out]
    clear ho
    go_wp2_with fail
    go_ret2
    exact ⟨ret_tw3 ⟨HR.out.symm, rfl⟩, HB.out.trans (b3.mono (by omega))⟩
end Go.Proofs.Ytpefkdhmkamdaaa
