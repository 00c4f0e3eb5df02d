/-
  Both PriceOf.
-/
import Derived.Test.YtgibmhafkhmcdaaDoorSums
namespace Go.Proofs.YtgibmhafkhmcdaaDoor
open Go Go.RowKit
set_option linter.unusedVariables false

theorem allB1_true {S : List Int} {n : Int} (h : stp S n < S.length) : allB S [n] = true := allB_true (fun i hi => by
  have e : i = 0 := by simp at hi; exact hi
  subst e; simpa [List.getD] using h)
theorem allB1_false {S : List Int} {n : Int} (h : ¬ stp S n < S.length) : allB S [n] = false := allB_bad (k := 0) (by simp) (by simpa [List.getD] using h)
theorem sumP1 (S : List Int) (R : List (List Int)) (z n : Int) : sumP S R z [n] = prc S R z n := by simp [sumP, prcs, sumL]

set_option maxHeartbeats 2000000 in
set_option maxRecDepth 100000 in
theorem iPriceOf_ok (v : Value) (S : List Int) (R : List (List Int)) (z n : Int) (w : World) (hv : ReadsT w v S R) (k : TabOk S R) (a0 a1 a2 a3 : Addr) (E : Errs4 w a0 a1 a2 a3) :
    Calls Tryd.prog 17 #[v, .int .i64 z, .int .i64 n] w fun e w' => e = .returned (.tuple #[.int .i64 (psX S R z [n]), .int .i64 (alone S R z [n])]) ∧ Below w.heap.size w w' := by
  obtain ⟨v1, v2, rfl, ⟨a, cap, rfl, ha⟩, ⟨b, c2, rfl, hb⟩⟩ := hv
  have H0 : Hid (ReadsT w (.agg #[.slice a S.length cap, .slice b R.length c2]) S R) := Lib.hid ⟨_, _, rfl, ⟨a, cap, rfl, ha⟩, ⟨b, c2, rfl, hb⟩⟩
  have K := Lib.hid k
  have HE := Lib.hid E
  clear ha hb k E
  go_enter Tryd.func17, Tryd.ntmps17
  go_wp2_with fail
  refine (iPricesOf_ok _ _ S R z [n] _ (H0.out.below (by repeat (first | exact Below.refl _ _ | refine Below.setCell ?_ (by first | (simp; done) | (simp; omega)) _ | refine Below.alloc ?_ (by first | (simp; done) | (simp; omega) | omega) _))) (one_reads (by simp) n _) K.out (by simp) a0 a1 a2 a3 (HE.out.below (by repeat (first | exact Below.refl _ _ | refine Below.setCell ?_ (by first | (simp; done) | (simp; omega)) _ | refine Below.alloc ?_ (by first | (simp; done) | (simp; omega) | omega) _)))).mono ?_
  rintro e w2 ⟨rfl, b2⟩
  have C := Lib.hid (Below.trans (by repeat (first | exact Below.refl _ _ | refine Below.setCell ?_ (by first | (simp; done) | (simp; omega)) _ | refine Below.alloc ?_ (by first | (simp; done) | (simp; omega) | omega) _) : Below w.heap.size w _) (b2.mono (by simp; omega)))
  clear b2
  go_wp2_with fail
  go_ret2
  exact ⟨rfl, C.out⟩

set_option maxHeartbeats 2000000 in
set_option maxRecDepth 100000 in
theorem sPriceOf_ok (v : Value) (S : List Int) (R : List (List Int)) (z n : Int) (w : World) (hv : ReadsT w v S R) (k : TabOk S R) :
    Calls Tryd.prog 16 #[v, .int .i64 z, .int .i64 n] w fun e w' => e = .returned (.tuple #[.int .i64 (psX S R z [n]), .int .i64 (alone S R z [n])]) ∧ Below w.heap.size w w' := by
  obtain ⟨v1, v2, rfl, h1, h2⟩ := hv
  have H := Lib.hid (AtT.box (T := 29) h1 h2)
  have K := Lib.hid k
  clear h1 h2 k
  by_cases ha : chk S R z [n] = 0
  · obtain ⟨hc1, hc2, hc3, hc4⟩ := chk_spec ha
    have HA : Hid (asked S R z (inB n 1 2000) = 0) := Lib.hid (by rw [← chk1_asked]; exact ha)
    have HX := Lib.hid ha
    have HV := Lib.hid hc1
    have HZ := Lib.hid hc2
    clear ha hc1 hc2 hc3 hc4
    by_cases hs : stp S n < S.length
    · have HS := Lib.hid hs
      obtain ⟨p1, p2⟩ := prc_bound (z := z) HV.out HZ.out hs
      have HP := Lib.hid (prcI_yes (z := z) (R := R) hs)
      have HAL := Lib.hid (alone_0 HX.out (allB1_true hs))
      have HPS : Hid (psX S R z [n] = prc S R z n) := Lib.hid (by rw [psX_0 HAL.out, sumP1])
      obtain ⟨p, hp⟩ : ∃ p, prc S R z n = p := ⟨_, rfl⟩
      rw [hp] at p1 p2 HP HPS
      have t1 : decide (p < 0) = false := by simp; omega
      clear hs hp
      go_enter Tryd.func16, Tryd.ntmps16
      go_wp2_with fail
      refine (sweight_any n _).mono ?_
      rintro e w2 ⟨rfl, hw⟩
      subst hw
      go_wp2_with fail
      refine (asked_any w.heap.size S R z _ _ H.out K.out).mono ?_
      rintro e w3 ⟨rfl, b3⟩
      rw [HA.out]
      have C := Lib.hid (blink (allocB w _) b3)
      have H3 := Lib.hid (H.out.below b3)
      clear b3
      go_wp2_with fail
      refine (sprice_any w.heap.size S R z n _ H3.out K.out HV.out HZ.out).mono ?_
      rintro e w4 ⟨rfl, rfl⟩
      rw [HP.out]
      go_wp2_with fail
      go_ret2
      exact ⟨ret_eq (by rw [HPS.out, HAL.out]; rfl), C.out⟩
    · have HS := Lib.hid hs
      have HP := Lib.hid (prcI_no (z := z) (R := R) hs)
      have HAL := Lib.hid (alone_6 HX.out (allB1_false hs))
      have HPS : Hid (psX S R z [n] = 0) := Lib.hid (psX_c (by rw [HAL.out]; simp))
      clear hs
      go_enter Tryd.func16, Tryd.ntmps16
      go_wp2_with fail
      refine (sweight_any n _).mono ?_
      rintro e w2 ⟨rfl, hw⟩
      subst hw
      go_wp2_with fail
      refine (asked_any w.heap.size S R z _ _ H.out K.out).mono ?_
      rintro e w3 ⟨rfl, b3⟩
      rw [HA.out]
      have C := Lib.hid (blink (allocB w _) b3)
      have H3 := Lib.hid (H.out.below b3)
      clear b3
      go_wp2_with fail
      refine (sprice_any w.heap.size S R z n _ H3.out K.out HV.out HZ.out).mono ?_
      rintro e w4 ⟨rfl, rfl⟩
      rw [HP.out]
      go_wp2_with fail
      go_ret2
      exact ⟨ret_eq (by rw [HPS.out, HAL.out]; rfl), C.out⟩
  · have HA := Lib.hid (chk1_asked S R z n)
    have HAL := Lib.hid (alone_c ha)
    have HPS : Hid (psX S R z [n] = 0) := Lib.hid (psX_c (by rw [HAL.out]; exact ha))
    obtain ⟨c, hc⟩ : ∃ c, asked S R z (inB n 1 2000) = c := ⟨_, rfl⟩
    have t1 : (c != 0) = true := by rw [← hc, ← HA.out]; simpa using ha
    have HC := Lib.hid hc
    clear ha hc
    go_enter Tryd.func16, Tryd.ntmps16
    go_wp2_with fail
    refine (sweight_any n _).mono ?_
    rintro e w2 ⟨rfl, hw⟩
    subst hw
    go_wp2_with fail
    refine (asked_any w.heap.size S R z _ _ H.out K.out).mono ?_
    rintro e w3 ⟨rfl, b3⟩
    rw [HC.out]
    have C := Lib.hid (blink (allocB w _) b3)
    clear b3
    go_wp2_with fail
    go_ret2
    exact ⟨ret_eq (by rw [HPS.out, HAL.out, HA.out, HC.out]; rfl), C.out⟩
end Go.Proofs.YtgibmhafkhmcdaaDoor
