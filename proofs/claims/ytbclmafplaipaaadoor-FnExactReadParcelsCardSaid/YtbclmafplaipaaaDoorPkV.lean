/-
  Contracts of both checks whether parcels are valid: each answers 'vldQ'.
-/
import Derived.Test.YtbclmafplaipaaaDoorRParcel
import Derived.Test.YtbclmafplaipaaaDoorPkP
namespace Go.Proofs.YtbclmafplaipaaaDoor
open Go Go.RowKit
set_option linter.unusedVariables false

theorem isStopB_true {s : Int} (h : 0 ≤ s ∧ s < 9) : isStopB s = true := decide_eq_true h
theorem isStopB_false {s : Int} (h : ¬ (0 ≤ s ∧ s < 9)) : isStopB s = false := decide_eq_false h

theorem isStop_any (n : Int) (w : World) :
    Calls Tryd.prog 153 #[.int .i64 n] w fun e w' => e = .returned (.bool (isStopB n)) ∧ w = w' := by
  by_cases h1 : 0 ≤ n
  · by_cases h2 : n < 9
    · have hd : decide (n < 9) = true := decide_eq_true h2
      go_enter Tryd.func153, Tryd.ntmps153
      go_wp2
      go_ret
      exact ⟨(ret_bool (isStopB_true ⟨h1, h2⟩)).symm, rfl⟩
    · have hd : decide (n < 9) = false := decide_eq_false h2
      go_enter Tryd.func153, Tryd.ntmps153
      go_wp2
      go_ret
      exact ⟨(ret_bool (isStopB_false (by omega))).symm, rfl⟩
  · have hd : decide (0 ≤ n) = false := decide_eq_false h1
    go_enter Tryd.func153, Tryd.ntmps153
    go_wp2
    go_ret
    exact ⟨(ret_bool (isStopB_false (by omega))).symm, rfl⟩

set_option maxHeartbeats 1000000 in
theorem ivldQ_long (a : Option Addr) (len cap : Nat) (w : World) (h : 10 < len) (h' : len ≤ 1048576) :
    Calls Tryd.prog 127 #[.slice a len cap] w fun e w' => e = .returned (.bool false) ∧ Below w.heap.size w w' := by
  go_enter Tryd.func127, Tryd.ntmps127
  go_wp2
  go_ret
  exact ⟨rfl, Below.refl _ _⟩
set_option maxHeartbeats 1000000 in
theorem ivldQ_zero (a : Option Addr) (cap : Nat) (w : World) :
    Calls Tryd.prog 127 #[.slice a 0 cap] w fun e w' => e = .returned (.bool true) ∧ Below w.heap.size w w' := by
  go_enter Tryd.func127, Tryd.ntmps127
  go_wp2
  refine wp_loop_rounds 1 ?_
  rw [rounds_succ]
  go_wp2
  go_ret
  exact ⟨rfl, Below.refl _ _⟩

set_option maxHeartbeats 4000000 in
set_option maxRecDepth 100000 in
theorem ivldQ_row (b len cap : Nat) (ps : List (Int × Int)) (hl : ps.length = len) (h8 : len ≤ 10) (hfit : FitsQ ps) (w : World) (hc : CellsQ w b ps) :
    Calls Tryd.prog 127 #[.slice (some ⟨b, 0, none⟩) len cap] w fun e w' => e = .returned (.bool (vldQ ps)) ∧ Below w.heap.size w w' := by
  have HL := Lib.hid hl
  have HI := Lib.hid hfit
  clear hl hfit
  have h8' : decide ((10 : Int) < (len : Int)) = false := by simp; omega
  go_enter Tryd.func127, Tryd.ntmps127
  go_wp2_with fail
  go_loopw [10] (fun i wr => ∃ k : Nat, k ≤ len ∧ i = .int .i64 k ∧ OkTo ps k ∧ Below w.heap.size w wr) (fun i _ => len - (intOf i).toNat)
  case atStart => exact ⟨0, Nat.zero_le _, rfl, OkTo.zero ps, Below.refl _ _⟩
  case round =>
    obtain ⟨k, hk, rfl, hr, hnx⟩ := hrel
    have HR := Lib.hid hr
    have HB := Lib.hid hnx
    by_cases hlt : k < len
    · obtain ⟨c0, c1⟩ := hc.below hnx k (by have := HL.out; omega)
      have hf := HI.out.get k (by have := HL.out; omega)
      obtain ⟨q, hq⟩ : ∃ q, ps.getD k (0, 0) = q := ⟨_, rfl⟩
      rw [hq] at c0 c1 hf
      obtain ⟨x, y⟩ := q
      unfold FitQ at hf
      simp only at hf
      have hx1 := hf.1.1
      have hx2 := hf.1.2
      have HC := Lib.hid hc
      have hwr : w.heap.size ≤ wr.heap.size := hnx.size
      have HOK : Hid (okQ ps k ↔ (0 ≤ x ∧ x ≤ 8 ∧ 1 ≤ y ∧ y ≤ 5000)) := Lib.hid (by unfold okQ; rw [hq])
      clear hc hq hr hnx hf
      by_cases t1 : 0 ≤ x ∧ x < 9
      · have d1 := isStopB_true t1
        by_cases t3 : 1 ≤ y
        · have d3 : decide (y < 1) = false := decide_eq_false (by omega)
          by_cases t4 : y ≤ 5000
          · have d4 : decide ((5000 : Int) < y) = false := decide_eq_false (by omega)
            go_wp2_with (go_at_call 153; refine (isStop_any _ _).mono ?_; rintro e w2 ⟨rfl, rfl⟩)
            go_roundw
            case rel => exact ⟨k + 1, by omega, by go_num, HR.out.succ (HOK.out.2 ⟨t1.1, by omega, t3, t4⟩), by repeat (first | exact HB.out | refine Below.setCell ?_ (by first | (simp; done) | (simp; omega)) _ | refine Below.alloc ?_ (by first | (simp; done) | (simp; omega) | omega) _)⟩
            case measure => simp [intOf]; omega
          · have d4 : decide ((5000 : Int) < y) = true := decide_eq_true (by omega)
            go_wp2_with (go_at_call 153; refine (isStop_any _ _).mono ?_; rintro e w2 ⟨rfl, rfl⟩)
            go_ret
            exact ⟨(ret_bool (vldQ_bad (k := k) (by have := HL.out; omega) (fun h => by have := HOK.out.1 h; omega))).symm, by repeat (first | exact HB.out | refine Below.setCell ?_ (by first | (simp; done) | (simp; omega)) _ | refine Below.alloc ?_ (by first | (simp; done) | (simp; omega) | omega) _)⟩
        · have d3 : decide (y < 1) = true := decide_eq_true (by omega)
          go_wp2_with (go_at_call 153; refine (isStop_any _ _).mono ?_; rintro e w2 ⟨rfl, rfl⟩)
          go_ret
          exact ⟨(ret_bool (vldQ_bad (k := k) (by have := HL.out; omega) (fun h => by have := HOK.out.1 h; omega))).symm, by repeat (first | exact HB.out | refine Below.setCell ?_ (by first | (simp; done) | (simp; omega)) _ | refine Below.alloc ?_ (by first | (simp; done) | (simp; omega) | omega) _)⟩
      · have d1 := isStopB_false t1
        go_wp2_with (go_at_call 153; refine (isStop_any _ _).mono ?_; rintro e w2 ⟨rfl, rfl⟩)
        go_ret
        exact ⟨(ret_bool (vldQ_bad (k := k) (by have := HL.out; omega) (fun h => by have := HOK.out.1 h; omega))).symm, by repeat (first | exact HB.out | refine Below.setCell ?_ (by first | (simp; done) | (simp; omega)) _ | refine Below.alloc ?_ (by first | (simp; done) | (simp; omega) | omega) _)⟩
    · have hk' : k = len := by omega
      have HE := Lib.hid hk'
      clear hk' hc hr hnx
      go_wp2_with fail
      go_ret
      exact ⟨(ret_bool (vldQ_true (by rw [HL.out]; omega) (by rw [HL.out, ← HE.out]; exact HR.out))).symm, HB.out⟩

theorem ivldQ_any (v : Value) (ps : List (Int × Int)) (w : World) (hv : ReadsQ w v ps) (hfit : FitsQ ps) (hx : ps.length ≤ 1048576) :
    Calls Tryd.prog 127 #[v] w fun e w' => e = .returned (.bool (vldQ ps)) ∧ Below w.heap.size w w' := by
  obtain ⟨a, cap, rfl, h⟩ := hv
  by_cases h8 : ps.length ≤ 10
  · by_cases h0 : ps = []
    · subst h0
      rw [show vldQ [] = true from vldQ_true (by simp) (OkTo.zero _)]
      exact ivldQ_zero a cap w
    · obtain ⟨b, rfl, hc⟩ := h h0
      exact ivldQ_row b ps.length cap ps rfl h8 hfit w hc
  · rw [vldQ_len h8]
    exact ivldQ_long a ps.length cap w (by omega) hx

set_option maxHeartbeats 4000000 in
set_option maxRecDepth 100000 in
theorem svldQ_row (b len cap : Nat) (ps : List (Int × Int)) (hl : ps.length = len) (hm : len ≤ 1048576) (hfit : FitsQ ps) (w : World) (hc : CellsQ w b ps) :
    Calls Tryd.prog 79 #[.slice (some ⟨b, 0, none⟩) len cap] w fun e w' => e = .returned (.bool (vldQ ps)) ∧ Below w.heap.size w w' := by
  have HL := Lib.hid hl
  have HI := Lib.hid hfit
  clear hl hfit
  go_enter Tryd.func79, Tryd.ntmps79
  go_wp2_with fail
  go_loopw [3] (fun i wr => ∃ k : Nat, k ≤ len ∧ i = .int .i64 k ∧ OkTo ps k ∧ Below w.heap.size w wr) (fun i _ => len - (intOf i).toNat)
  case atStart => exact ⟨0, Nat.zero_le _, rfl, OkTo.zero ps, Below.refl _ _⟩
  case round =>
    obtain ⟨k, hk, rfl, hr, hnx⟩ := hrel
    have HR := Lib.hid hr
    have HB := Lib.hid hnx
    by_cases hlt : k < len
    · obtain ⟨c0, c1⟩ := hc.below hnx k (by have := HL.out; omega)
      have hf := HI.out.get k (by have := HL.out; omega)
      obtain ⟨q, hq⟩ : ∃ q, ps.getD k (0, 0) = q := ⟨_, rfl⟩
      rw [hq] at c0 c1 hf
      obtain ⟨x, y⟩ := q
      unfold FitQ at hf
      simp only at hf
      have hx1 := hf.1.1
      have hx2 := hf.1.2
      have hy1 := hf.2.1
      have hy2 := hf.2.2
      have hkl : (k : Int) < (len : Int) := by omega
      have HC := Lib.hid hc
      have HOK : Hid (okQ ps k ↔ (0 ≤ x ∧ x ≤ 8 ∧ 1 ≤ y ∧ y ≤ 5000)) := Lib.hid (by unfold okQ; rw [hq])
      clear hc hq hr hnx hf
      by_cases t1 : 0 ≤ x ∧ x ≤ 8
      · have g1 := inB_true t1
        by_cases t2 : 1 ≤ y ∧ y ≤ 5000
        · have g2 := inB_true t2
          go_wp2_with (go_at_call 115; refine (in_any _ _ _ _).mono ?_; rintro e w2 ⟨rfl, hw2⟩; subst hw2)
          go_roundw
          case rel => exact ⟨k + 1, by omega, by go_num, HR.out.succ (HOK.out.2 ⟨t1.1, t1.2, t2.1, t2.2⟩), HB.out⟩
          case measure => simp [intOf]; omega
        · have g2 := inB_false t2
          have HT2 := Lib.hid t2
          clear t2
          go_wp2_with (go_at_call 115; refine (in_any _ _ _ _).mono ?_; rintro e w2 ⟨rfl, hw2⟩; subst hw2)
          go_ret
          exact ⟨(ret_bool (vldQ_bad (k := k) (by have := HL.out; omega) (fun h => by have := HOK.out.1 h; have := HT2.out; omega))).symm, HB.out⟩
      · have g1 := inB_false t1
        have HT1 := Lib.hid t1
        clear t1
        go_wp2_with (go_at_call 115; refine (in_any _ _ _ _).mono ?_; rintro e w2 ⟨rfl, hw2⟩; subst hw2)
        go_ret
        exact ⟨(ret_bool (vldQ_bad (k := k) (by have := HL.out; omega) (fun h => by have := HOK.out.1 h; have := HT1.out; omega))).symm, HB.out⟩
    · have hk' : k = len := by omega
      have HE := Lib.hid hk'
      clear hk' hc hr hnx
      by_cases h8 : len ≤ 10
      · have d8 : decide ((len : Int) ≤ 10) = true := by simp; omega
        go_wp2_with fail
        go_ret
        exact ⟨(ret_bool (vldQ_true (by rw [HL.out]; omega) (by rw [HL.out, ← HE.out]; exact HR.out))).symm, HB.out⟩
      · have d8 : decide ((len : Int) ≤ 10) = false := by simp; omega
        go_wp2_with fail
        go_ret
        exact ⟨(ret_bool (vldQ_len (by rw [HL.out]; omega))).symm, HB.out⟩

set_option maxHeartbeats 1000000 in
theorem svldQ_zero (a : Option Addr) (cap : Nat) (w : World) :
    Calls Tryd.prog 79 #[.slice a 0 cap] w fun e w' => e = .returned (.bool true) ∧ Below w.heap.size w w' := by
  go_enter Tryd.func79, Tryd.ntmps79
  go_wp2
  refine wp_loop_rounds 1 ?_
  rw [rounds_succ]
  go_wp2
  go_ret
  exact ⟨rfl, Below.refl _ _⟩

theorem sokQ_any (v : Value) (ps : List (Int × Int)) (w : World) (hv : ReadsQ w v ps) (hfit : FitsQ ps) (hx : ps.length ≤ 1048576) :
    Calls Tryd.prog 79 #[v] w fun e w' => e = .returned (.bool (vldQ ps)) ∧ Below w.heap.size w w' := by
  obtain ⟨a, cap, rfl, h⟩ := hv
  by_cases h0 : ps = []
  · subst h0
    rw [show vldQ [] = true from vldQ_true (by simp) (OkTo.zero _)]
    exact svldQ_zero a cap w
  · obtain ⟨b, rfl, hc⟩ := h h0
    exact svldQ_row b ps.length cap ps rfl hx hfit w hc

end Go.Proofs.YtbclmafplaipaaaDoor
