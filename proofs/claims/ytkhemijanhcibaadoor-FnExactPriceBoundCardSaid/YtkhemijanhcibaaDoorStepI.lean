/-
  The program's StepFor.
-/
import Derived.Test.YtkhemijanhcibaaDoorStep
namespace Go.Proofs.YtkhemijanhcibaaDoor
open Go Go.RowKit
set_option linter.unusedVariables false

theorem one_reads {W : World} {b : Nat} (hb : W.heap.size = b) (n : Int) (T : TypeId) : ReadsI (W.alloc (.cells #[.int .i64 n] T)) (.slice (some ⟨b, 0, none⟩) 1 1) [n] := by
  subst hb
  refine ⟨_, _, rfl, fun _ => ⟨_, rfl, fun i hi => ?_⟩⟩
  have e : i = 0 := by simp at hi; exact hi
  subst e
  rw [cell_of_row _ W.heap.size 0 _ T (0, 0) (heap_alloc_new W _)]
  simp [List.getD]
theorem errOf_0 (a0 a1 a2 : Addr) : errOf a0 a1 a2 0 = .nilIface := rfl
theorem errOf_1 (a0 a1 a2 : Addr) : errOf a0 a1 a2 1 = .iface 104 (.pointer (some a0)) := rfl
theorem errOf_2 (a0 a1 a2 : Addr) : errOf a0 a1 a2 2 = .iface 104 (.pointer (some a1)) := rfl
theorem errOf_3 (a0 a1 a2 : Addr) : errOf a0 a1 a2 3 = .iface 104 (.pointer (some a2)) := rfl
/-- The pointer of a code's error. -/
def ptrOf (a0 a1 a2 : Addr) (c : Int) : Addr := if c = 1 then a0 else if c = 2 then a1 else a2
theorem errOf_ptr {a0 a1 a2 : Addr} {c : Int} (h : c ≠ 0) : errOf a0 a1 a2 c = .iface 104 (.pointer (some (ptrOf a0 a1 a2 c))) := by
  unfold errOf ptrOf; rw [if_neg h]; split <;> (try rfl); split <;> rfl
/-- The code of an error is what it was made of. -/
theorem code_of (a0 a1 a2 : Addr) (c : Int) (hc : c = 1 ∨ c = 2 ∨ c = 3) (w : World) (E : Errs3 w a0 a1 a2) :
    Calls Tryd.prog 40 #[.iface 104 (.pointer (some (ptrOf a0 a1 a2 c)))] w fun e w' => e = .returned (.int .i64 c) ∧ w = w' := by
  rcases hc with rfl | rfl | rfl
  · exact code_0 a0 a1 a2 w E
  · exact code_1 a0 a1 a2 w E
  · exact code_2 a0 a1 a2 w E

set_option maxHeartbeats 4000000 in
set_option maxRecDepth 100000 in
theorem iStepFor_ok (v : Value) (S : List Int) (R : List (List Int)) (n : Int) (w : World) (hv : ReadsT w v S R) (k : TabOk S R) (a0 a1 a2 a3 : Addr) (E : Errs4 w a0 a1 a2 a3) :
    Calls Tryd.prog 14 #[v, .int .i64 n] w fun e w' => e = .returned (.tuple #[.int .i64 (stepX S R n), .int .i64 (stepC S R n)]) ∧ Below w.heap.size w w' := by
  obtain ⟨v1, v2, rfl, ⟨a, cap, rfl, ha⟩, ⟨b, c2, rfl, hb⟩⟩ := hv
  have H0 : Hid (ReadsT w (.agg #[.slice a S.length cap, .slice b R.length c2]) S R) := Lib.hid ⟨_, _, rfl, ⟨a, cap, rfl, ha⟩, ⟨b, c2, rfl, hb⟩⟩
  have K := Lib.hid k
  have HE := Lib.hid E
  have hle : 0 ≤ (stp S n : Int) := by omega
  clear ha hb k E
  go_enter Tryd.func14, Tryd.ntmps14
  go_wp2_with fail
  refine (check_any _ _ S R 0 [n] a0 a1 a2 _ (H0.out.below (by repeat (first | exact Below.refl _ _ | refine Below.setCell ?_ (by first | (simp; done) | (simp; omega)) _ | refine Below.alloc ?_ (by first | (simp; done) | (simp; omega) | omega) _))) (one_reads (by simp) n _) K.out (by simp) (HE.out.e3.below (by repeat (first | exact Below.refl _ _ | refine Below.setCell ?_ (by first | (simp; done) | (simp; omega)) _ | refine Below.alloc ?_ (by first | (simp; done) | (simp; omega) | omega) _)))).mono ?_
  rintro e w2 ⟨rfl, b2⟩
  have q := ((Blk2.new (n := w.heap.size) (by simp) _ _ _).alloc _).below b2
  have c := Below.trans (by repeat (first | exact Below.refl _ _ | refine Below.setCell ?_ (by first | (simp; done) | (simp; omega)) _ | refine Below.alloc ?_ (by first | (simp; done) | (simp; omega) | omega) _) : Below w.heap.size w _) (b2.mono (by simp; omega))
  have g0 := q.at0
  have g1 := q.at1
  have C := Lib.hid c
  clear q c b2
  by_cases hc : chk S R 0 [n] = 0
  · rw [hc, errOf_0]
    have HC := Lib.hid hc
    clear hc
    by_cases hs : stp S n < S.length
    · have HS := Lib.hid hs
      clear hs
      go_wp2_with fail
      refine (istep_any _ S R n _ (H0.out.below C.out) K.out a3 (HE.out.below C.out).g3).mono ?_
      rintro e w3 ⟨rfl, b3⟩
      rw [stepV_yes a3 HS.out]
      have C3 := Lib.hid (blink C.out b3)
      clear b3
      go_wp2_with fail
      refine (code_nil _).mono ?_
      rintro e w4 ⟨rfl, rfl⟩
      go_wp2_with fail
      go_ret2
      exact ⟨ret_eq (by unfold stepX stepC; rw [if_pos ⟨HC.out, HS.out⟩, if_pos HC.out, if_pos HS.out]; rfl), C3.out⟩
    · have HS := Lib.hid hs
      clear hs
      go_wp2_with fail
      refine (istep_any _ S R n _ (H0.out.below C.out) K.out a3 (HE.out.below C.out).g3).mono ?_
      rintro e w3 ⟨rfl, b3⟩
      rw [stepV_no a3 HS.out]
      have C3 := Lib.hid (blink C.out b3)
      clear b3
      go_wp2_with fail
      refine (code_4 a0 a1 a2 a3 _ (HE.out.below C3.out)).mono ?_
      rintro e w4 ⟨rfl, rfl⟩
      go_wp2_with fail
      go_ret2
      exact ⟨ret_eq (by unfold stepX stepC; rw [if_neg (fun h => HS.out h.2), if_pos HC.out, if_neg HS.out]; rfl), C3.out⟩
  · rw [errOf_ptr hc]
    have HK : Hid (chk S R 0 [n] = 1 ∨ chk S R 0 [n] = 2 ∨ chk S R 0 [n] = 3) := Lib.hid (by rcases chk_cases S R 0 [n] with h | h | h | h; exact absurd h hc; exact .inl h; exact .inr (.inl h); exact .inr (.inr h))
    have HC := Lib.hid hc
    clear hc
    go_wp2_with fail
    refine (code_of a0 a1 a2 _ HK.out _ (HE.out.e3.below C.out)).mono ?_
    rintro e w4 ⟨rfl, rfl⟩
    go_wp2_with fail
    go_ret2
    exact ⟨ret_eq (by unfold stepX stepC; rw [if_neg (fun h => HC.out h.1), if_neg HC.out]; rfl), C.out⟩
end Go.Proofs.YtkhemijanhcibaaDoor
