/-
  Both checks whether classes are valid: each answers 'vldC'.
-/
import Derived.Test.YtocogipejchneaaRClass
import Derived.Test.YtocogipejchneaaCuP
namespace Go.Proofs.Ytocogipejchneaa
open Go Go.RowKit
set_option linter.unusedVariables false

set_option maxHeartbeats 8000000 in
set_option maxRecDepth 100000 in
theorem ivldC_row (b len cap : Nat) (ps : List (Int × Int × Int × Int)) (hl : ps.length = len) (h1 : 1 ≤ len) (h8 : len ≤ 8) (hfit : FitsC ps) (w : World) (hc : CellsC w b ps) :
    Calls Try.prog 31 #[.slice (some ⟨b, 0, none⟩) len cap] w fun e w' => e = .returned (.bool (vldC ps)) ∧ Below w.heap.size w w' := by
  have HL := Lib.hid hl
  have HI := Lib.hid hfit
  clear hl hfit
  have e1 : decide ((len : Int) < 1) = false := decide_eq_false (by omega)
  have e8 : decide ((8 : Int) < (len : Int)) = false := decide_eq_false (by omega)
  go_enter Try.func31, Try.ntmps31
  go_wp2_with fail
  go_loopw [15] (fun i wr => ∃ k : Nat, k ≤ len ∧ i = .int .i64 k ∧ OkCTo ps k ∧ Below w.heap.size w wr) (fun i _ => len - (intOf i).toNat)
  case atStart => exact ⟨0, Nat.zero_le _, rfl, OkCTo.zero ps, Below.refl _ _⟩
  case round =>
    obtain ⟨k, hk, rfl, hr, hnx⟩ := hrel
    have HR := Lib.hid hr
    have HB := Lib.hid hnx
    by_cases hlt : k < len
    · obtain ⟨c0, c1, c2, c3⟩ := hc.below hnx k (by have := HL.out; omega)
      have hf := HI.out.get k (by have := HL.out; omega)
      obtain ⟨q, hq⟩ : ∃ q, ps.getD k (0, 0, 0, 0) = q := ⟨_, rfl⟩
      rw [hq] at c0 c1 c2 c3 hf
      obtain ⟨x0, x1, x2, x3⟩ := q
      unfold FitC at hf
      simp only at hf
      obtain ⟨⟨l0, u0⟩, ⟨l1, u1⟩, ⟨l2, u2⟩, l3, u3⟩ := hf
      have hwr : w.heap.size ≤ wr.heap.size := hnx.size
      have hkl : (k : Int) < (len : Int) := by omega
      have HOK : Hid (okC (ps.getD k (0, 0, 0, 0)) ↔ ((1 ≤ x1 ∧ x1 ≤ 1000) ∧ 0 ≤ x0 ∧ x0 ≤ x1 ∧ (0 ≤ x2 ∧ x2 ≤ 100) ∧ (0 ≤ x3 ∧ x3 ≤ 1000000))) := Lib.hid (by unfold okC; rw [hq])
      clear hq hr hnx
      by_cases t1 : 1 ≤ x1
      · have d1 : decide (x1 < 1) = false := decide_eq_false (by omega)
        by_cases t2 : x1 ≤ 1000
        · have d2 : decide ((1000 : Int) < x1) = false := decide_eq_false (by omega)
          by_cases t3 : 0 ≤ x0
          · have d3 : decide (x0 < 0) = false := decide_eq_false (by omega)
            by_cases t4 : x0 ≤ x1
            · have d4 : decide (x1 < x0) = false := decide_eq_false (by omega)
              by_cases t5 : 0 ≤ x2
              · have d5 : decide (x2 < 0) = false := decide_eq_false (by omega)
                by_cases t6 : x2 ≤ 100
                · have d6 : decide ((100 : Int) < x2) = false := decide_eq_false (by omega)
                  by_cases t7 : 0 ≤ x3
                  · have d7 : decide (x3 < 0) = false := decide_eq_false (by omega)
                    by_cases t8 : x3 ≤ 1000000
                    · have d8 : decide ((1000000 : Int) < x3) = false := decide_eq_false (by omega)
                      go_wp2_with fail
                      go_roundw
                      case rel => exact ⟨k + 1, by omega, by go_num, HR.out.succ (HOK.out.2 (by omega)), by repeat (first | exact HB.out | refine Below.drew ?_ | refine Below.setCell ?_ (by first | (simp; done) | (simp; omega) | omega) _ | refine Below.alloc ?_ (by first | (simp; done) | (simp; omega) | omega) _)⟩
                      case measure => simp [intOf]; omega
                    · have d8 : decide ((1000000 : Int) < x3) = true := decide_eq_true (by omega)
                      go_wp2_with fail
                      go_ret
                      exact ⟨(ret_bool (vldC_bad (k := k) (by have := HL.out; omega) (fun h => by have := HOK.out.1 h; omega))).symm, by repeat (first | exact HB.out | refine Below.drew ?_ | refine Below.setCell ?_ (by first | (simp; done) | (simp; omega) | omega) _ | refine Below.alloc ?_ (by first | (simp; done) | (simp; omega) | omega) _)⟩
                  · have d7 : decide (x3 < 0) = true := decide_eq_true (by omega)
                    go_wp2_with fail
                    go_ret
                    exact ⟨(ret_bool (vldC_bad (k := k) (by have := HL.out; omega) (fun h => by have := HOK.out.1 h; omega))).symm, by repeat (first | exact HB.out | refine Below.drew ?_ | refine Below.setCell ?_ (by first | (simp; done) | (simp; omega) | omega) _ | refine Below.alloc ?_ (by first | (simp; done) | (simp; omega) | omega) _)⟩
                · have d6 : decide ((100 : Int) < x2) = true := decide_eq_true (by omega)
                  go_wp2_with fail
                  go_ret
                  exact ⟨(ret_bool (vldC_bad (k := k) (by have := HL.out; omega) (fun h => by have := HOK.out.1 h; omega))).symm, by repeat (first | exact HB.out | refine Below.drew ?_ | refine Below.setCell ?_ (by first | (simp; done) | (simp; omega) | omega) _ | refine Below.alloc ?_ (by first | (simp; done) | (simp; omega) | omega) _)⟩
              · have d5 : decide (x2 < 0) = true := decide_eq_true (by omega)
                go_wp2_with fail
                go_ret
                exact ⟨(ret_bool (vldC_bad (k := k) (by have := HL.out; omega) (fun h => by have := HOK.out.1 h; omega))).symm, by repeat (first | exact HB.out | refine Below.drew ?_ | refine Below.setCell ?_ (by first | (simp; done) | (simp; omega) | omega) _ | refine Below.alloc ?_ (by first | (simp; done) | (simp; omega) | omega) _)⟩
            · have d4 : decide (x1 < x0) = true := decide_eq_true (by omega)
              go_wp2_with fail
              go_ret
              exact ⟨(ret_bool (vldC_bad (k := k) (by have := HL.out; omega) (fun h => by have := HOK.out.1 h; omega))).symm, by repeat (first | exact HB.out | refine Below.drew ?_ | refine Below.setCell ?_ (by first | (simp; done) | (simp; omega) | omega) _ | refine Below.alloc ?_ (by first | (simp; done) | (simp; omega) | omega) _)⟩
          · have d3 : decide (x0 < 0) = true := decide_eq_true (by omega)
            go_wp2_with fail
            go_ret
            exact ⟨(ret_bool (vldC_bad (k := k) (by have := HL.out; omega) (fun h => by have := HOK.out.1 h; omega))).symm, by repeat (first | exact HB.out | refine Below.drew ?_ | refine Below.setCell ?_ (by first | (simp; done) | (simp; omega) | omega) _ | refine Below.alloc ?_ (by first | (simp; done) | (simp; omega) | omega) _)⟩
        · have d2 : decide ((1000 : Int) < x1) = true := decide_eq_true (by omega)
          go_wp2_with fail
          go_ret
          exact ⟨(ret_bool (vldC_bad (k := k) (by have := HL.out; omega) (fun h => by have := HOK.out.1 h; omega))).symm, by repeat (first | exact HB.out | refine Below.drew ?_ | refine Below.setCell ?_ (by first | (simp; done) | (simp; omega) | omega) _ | refine Below.alloc ?_ (by first | (simp; done) | (simp; omega) | omega) _)⟩
      · have d1 : decide (x1 < 1) = true := decide_eq_true (by omega)
        go_wp2_with fail
        go_ret
        exact ⟨(ret_bool (vldC_bad (k := k) (by have := HL.out; omega) (fun h => by have := HOK.out.1 h; omega))).symm, by repeat (first | exact HB.out | refine Below.drew ?_ | refine Below.setCell ?_ (by first | (simp; done) | (simp; omega) | omega) _ | refine Below.alloc ?_ (by first | (simp; done) | (simp; omega) | omega) _)⟩
    · have hk' : k = len := by omega
      have HE := Lib.hid hk'
      clear hk' hc hr hnx
      go_wp2_with fail
      go_ret
      exact ⟨(ret_bool (vldC_true (by rw [HL.out]; omega) (by rw [HL.out, ← HE.out]; exact HR.out))).symm, HB.out⟩

set_option maxHeartbeats 1000000 in
theorem ivldC_long (a : Option Addr) (len cap : Nat) (w : World) (h : len = 0 ∨ (8 < len ∧ len ≤ 1048576)) :
    Calls Try.prog 31 #[.slice a len cap] w fun e w' => e = .returned (.bool false) ∧ Below w.heap.size w w' := by
  rcases h with rfl | ⟨h, h'⟩
  · go_enter Try.func31, Try.ntmps31
    go_wp2
    go_ret
    exact ⟨rfl, Below.refl _ _⟩
  · have e1 : decide ((len : Int) < 1) = false := decide_eq_false (by omega)
    have e8 : decide ((8 : Int) < (len : Int)) = true := decide_eq_true (by omega)
    go_enter Try.func31, Try.ntmps31
    go_wp2
    go_ret
    exact ⟨rfl, Below.refl _ _⟩
theorem ivldC_any (v : Value) (ps : List (Int × Int × Int × Int)) (w : World) (hv : ReadsC w v ps) (hfit : FitsC ps) (hx : ps.length ≤ 1048576) :
    Calls Try.prog 31 #[v] w fun e w' => e = .returned (.bool (vldC ps)) ∧ Below w.heap.size w w' := by
  obtain ⟨a, cap, rfl, h⟩ := hv
  by_cases h8 : 1 ≤ ps.length ∧ ps.length ≤ 8
  · obtain ⟨b, rfl, hc⟩ := h (fun e => by rw [e] at h8; simp at h8)
    exact ivldC_row b ps.length cap ps rfl h8.1 h8.2 hfit w hc
  · rw [vldC_len h8]
    exact ivldC_long a ps.length cap w (by omega)

set_option maxHeartbeats 8000000 in
set_option maxRecDepth 100000 in
theorem svldC_row (b len cap : Nat) (ps : List (Int × Int × Int × Int)) (hl : ps.length = len) (hm : len ≤ 1048576) (hfit : FitsC ps) (w : World) (hc : CellsC w b ps) :
    Calls Try.prog 28 #[.slice (some ⟨b, 0, none⟩) len cap] w fun e w' => e = .returned (.bool (vldC ps)) ∧ Below w.heap.size w w' := by
  have HL := Lib.hid hl
  have HI := Lib.hid hfit
  clear hl hfit

  go_enter Try.func28, Try.ntmps28
  go_wp2_with fail
  go_loopw [3] (fun i wr => ∃ k : Nat, k ≤ len ∧ i = .int .i64 k ∧ OkCTo ps k ∧ Below w.heap.size w wr) (fun i _ => len - (intOf i).toNat)
  case atStart => exact ⟨0, Nat.zero_le _, rfl, OkCTo.zero ps, Below.refl _ _⟩
  case round =>
    obtain ⟨k, hk, rfl, hr, hnx⟩ := hrel
    have HR := Lib.hid hr
    have HB := Lib.hid hnx
    by_cases hlt : k < len
    · obtain ⟨c0, c1, c2, c3⟩ := hc.below hnx k (by have := HL.out; omega)
      have hf := HI.out.get k (by have := HL.out; omega)
      obtain ⟨q, hq⟩ : ∃ q, ps.getD k (0, 0, 0, 0) = q := ⟨_, rfl⟩
      rw [hq] at c0 c1 c2 c3 hf
      obtain ⟨x0, x1, x2, x3⟩ := q
      unfold FitC at hf
      simp only at hf
      obtain ⟨⟨l0, u0⟩, ⟨l1, u1⟩, ⟨l2, u2⟩, l3, u3⟩ := hf
      have hwr : w.heap.size ≤ wr.heap.size := hnx.size
      have hkl : (k : Int) < (len : Int) := by omega
      have HOK : Hid (okC (ps.getD k (0, 0, 0, 0)) ↔ ((1 ≤ x1 ∧ x1 ≤ 1000) ∧ 0 ≤ x0 ∧ x0 ≤ x1 ∧ (0 ≤ x2 ∧ x2 ≤ 100) ∧ (0 ≤ x3 ∧ x3 ≤ 1000000))) := Lib.hid (by unfold okC; rw [hq])
      clear hq hr hnx
      by_cases t1 : 1 ≤ x1 ∧ x1 ≤ 1000
      · have g1 := inB_true t1
        by_cases t3 : 0 ≤ x0
        · have d3 : decide (x0 < 0) = false := decide_eq_false (by omega)
          by_cases t4 : x0 ≤ x1
          · have d4 : decide (x1 < x0) = false := decide_eq_false (by omega)
            by_cases t5 : 0 ≤ x2 ∧ x2 ≤ 100
            · have g5 := inB_true t5
              by_cases t7 : 0 ≤ x3 ∧ x3 ≤ 1000000
              · have g7 := inB_true t7
                go_wp2_with (go_at_call 30; refine (in_any _ _ _ _).mono ?_; rintro e w2 ⟨rfl, hw2⟩; subst hw2)
                go_roundw
                case rel => exact ⟨k + 1, by omega, by go_num, HR.out.succ (HOK.out.2 (by omega)), by repeat (first | exact HB.out | refine Below.drew ?_ | refine Below.setCell ?_ (by first | (simp; done) | (simp; omega) | omega) _ | refine Below.alloc ?_ (by first | (simp; done) | (simp; omega) | omega) _)⟩
                case measure => simp [intOf]; omega
              · have g7 := inB_false t7
                go_wp2_with (go_at_call 30; refine (in_any _ _ _ _).mono ?_; rintro e w2 ⟨rfl, hw2⟩; subst hw2)
                go_ret
                exact ⟨(ret_bool (vldC_bad (k := k) (by have := HL.out; omega) (fun h => by have := HOK.out.1 h; omega))).symm, by repeat (first | exact HB.out | refine Below.drew ?_ | refine Below.setCell ?_ (by first | (simp; done) | (simp; omega) | omega) _ | refine Below.alloc ?_ (by first | (simp; done) | (simp; omega) | omega) _)⟩
            · have g5 := inB_false t5
              go_wp2_with (go_at_call 30; refine (in_any _ _ _ _).mono ?_; rintro e w2 ⟨rfl, hw2⟩; subst hw2)
              go_ret
              exact ⟨(ret_bool (vldC_bad (k := k) (by have := HL.out; omega) (fun h => by have := HOK.out.1 h; omega))).symm, by repeat (first | exact HB.out | refine Below.drew ?_ | refine Below.setCell ?_ (by first | (simp; done) | (simp; omega) | omega) _ | refine Below.alloc ?_ (by first | (simp; done) | (simp; omega) | omega) _)⟩
          · have d4 : decide (x1 < x0) = true := decide_eq_true (by omega)
            go_wp2_with (go_at_call 30; refine (in_any _ _ _ _).mono ?_; rintro e w2 ⟨rfl, hw2⟩; subst hw2)
            go_ret
            exact ⟨(ret_bool (vldC_bad (k := k) (by have := HL.out; omega) (fun h => by have := HOK.out.1 h; omega))).symm, by repeat (first | exact HB.out | refine Below.drew ?_ | refine Below.setCell ?_ (by first | (simp; done) | (simp; omega) | omega) _ | refine Below.alloc ?_ (by first | (simp; done) | (simp; omega) | omega) _)⟩
        · have d3 : decide (x0 < 0) = true := decide_eq_true (by omega)
          go_wp2_with (go_at_call 30; refine (in_any _ _ _ _).mono ?_; rintro e w2 ⟨rfl, hw2⟩; subst hw2)
          go_ret
          exact ⟨(ret_bool (vldC_bad (k := k) (by have := HL.out; omega) (fun h => by have := HOK.out.1 h; omega))).symm, by repeat (first | exact HB.out | refine Below.drew ?_ | refine Below.setCell ?_ (by first | (simp; done) | (simp; omega) | omega) _ | refine Below.alloc ?_ (by first | (simp; done) | (simp; omega) | omega) _)⟩
      · have g1 := inB_false t1
        go_wp2_with (go_at_call 30; refine (in_any _ _ _ _).mono ?_; rintro e w2 ⟨rfl, hw2⟩; subst hw2)
        go_ret
        exact ⟨(ret_bool (vldC_bad (k := k) (by have := HL.out; omega) (fun h => by have := HOK.out.1 h; omega))).symm, by repeat (first | exact HB.out | refine Below.drew ?_ | refine Below.setCell ?_ (by first | (simp; done) | (simp; omega) | omega) _ | refine Below.alloc ?_ (by first | (simp; done) | (simp; omega) | omega) _)⟩
    · have hk' : k = len := by omega
      have HE := Lib.hid hk'
      clear hk' hc hr hnx
      by_cases h8 : 1 ≤ (len : Int) ∧ (len : Int) ≤ 8
      · have d8 := inB_true h8
        go_wp2_with (go_at_call 30; refine (in_any _ _ _ _).mono ?_; rintro e w2 ⟨rfl, hw2⟩; subst hw2)
        go_ret
        exact ⟨(ret_bool (vldC_true (by rw [HL.out]; omega) (by rw [HL.out, ← HE.out]; exact HR.out))).symm, HB.out⟩
      · have d8 := inB_false h8
        have H8 := Lib.hid h8
        clear h8
        go_wp2_with (go_at_call 30; refine (in_any _ _ _ _).mono ?_; rintro e w2 ⟨rfl, hw2⟩; subst hw2)
        go_ret
        exact ⟨(ret_bool (vldC_len (by rw [HL.out]; have := H8.out; omega))).symm, HB.out⟩

set_option maxHeartbeats 1000000 in
theorem svldC_zero (a : Option Addr) (cap : Nat) (w : World) :
    Calls Try.prog 28 #[.slice a 0 cap] w fun e w' => e = .returned (.bool false) ∧ Below w.heap.size w w' := by
  have d8 : inB 0 1 8 = false := by decide
  go_enter Try.func28, Try.ntmps28
  go_wp2
  refine wp_loop_rounds 1 ?_
  rw [rounds_succ]
  go_wp2_with (go_at_call 30; refine (in_any _ _ _ _).mono ?_; rintro e w2 ⟨rfl, hw2⟩; subst hw2)
  go_ret
  exact ⟨rfl, Below.refl _ _⟩
theorem sclasses_any (v : Value) (ps : List (Int × Int × Int × Int)) (w : World) (hv : ReadsC w v ps) (hfit : FitsC ps) (hx : ps.length ≤ 1048576) :
    Calls Try.prog 28 #[v] w fun e w' => e = .returned (.bool (vldC ps)) ∧ Below w.heap.size w w' := by
  obtain ⟨a, cap, rfl, h⟩ := hv
  by_cases h0 : ps = []
  · subst h0
    rw [show vldC [] = false from vldC_len (by simp)]
    exact svldC_zero a cap w
  · obtain ⟨b, rfl, hc⟩ := h h0
    exact svldC_row b ps.length cap ps rfl hx hfit w hc
end Go.Proofs.Ytocogipejchneaa
