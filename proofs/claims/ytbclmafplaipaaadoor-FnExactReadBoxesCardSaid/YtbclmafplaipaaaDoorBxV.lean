/-
  Contracts of both checks whether a list of boxes is valid: each answers 'vldX'.
-/
import Derived.Test.YtbclmafplaipaaaDoorTrip
import Derived.Test.YtbclmafplaipaaaDoorBoxF
namespace Go.Proofs.YtbclmafplaipaaaDoor
open Go Go.RowKit
set_option linter.unusedVariables false

def okX (ps : List Tri) (k : Nat) : Prop := okB (ps.getD k (0, 0, 0)).1 (ps.getD k (0, 0, 0)).2.1 (ps.getD k (0, 0, 0)).2.2 = true
instance (ps : List Tri) (k : Nat) : Decidable (okX ps k) := inferInstanceAs (Decidable (_ = _))
def AllX (ps : List Tri) (k : Nat) : Prop := ∀ i, i < k → okX ps i
instance (ps : List Tri) (k : Nat) : Decidable (AllX ps k) := inferInstanceAs (Decidable (∀ i, i < k → _))
theorem AllX.zero (ps : List Tri) : AllX ps 0 := fun i hi => absurd hi (by omega)
theorem AllX.succ {ps : List Tri} {k : Nat} (h : AllX ps k) (h1 : okX ps k) : AllX ps (k + 1) := fun i hi => by
  by_cases e : i = k
  · subst e; exact h1
  · exact h i (by omega)
def vldX (ps : List Tri) : Bool := decide (ps.length ≤ 10 ∧ AllX ps ps.length)
theorem vldX_true {ps : List Tri} (h2 : ps.length ≤ 10) (h : AllX ps ps.length) : vldX ps = true := decide_eq_true ⟨h2, h⟩
theorem vldX_len {ps : List Tri} (h : ¬ ps.length ≤ 10) : vldX ps = false := decide_eq_false fun k => h k.1
theorem vldX_bad {ps : List Tri} {k : Nat} (hk : k < ps.length) (h : ¬ okX ps k) : vldX ps = false := decide_eq_false fun q => h (q.2 k hk)
theorem vldX_spec {ps : List Tri} (h : vldX ps = true) : ps.length ≤ 10 ∧ AllX ps ps.length := of_decide_eq_true h
theorem vldX_sides {ps : List Tri} (h : vldX ps = true) {k : Nat} (hk : k < ps.length) : 1 ≤ (ps.getD k (0, 0, 0)).1 ∧ (ps.getD k (0, 0, 0)).1 ≤ 60 ∧ 1 ≤ (ps.getD k (0, 0, 0)).2.1 ∧ (ps.getD k (0, 0, 0)).2.1 ≤ 60 ∧ 1 ≤ (ps.getD k (0, 0, 0)).2.2 ∧ (ps.getD k (0, 0, 0)).2.2 ≤ 60 := okB_spec ((vldX_spec h).2 k hk)

set_option maxHeartbeats 1000000 in
theorem ivldX_long (a : Option Addr) (len cap : Nat) (w : World) (h : 10 < len) (h' : len ≤ 1048576) :
    Calls Tryd.prog 121 #[.slice a len cap] w fun e w' => e = .returned (.bool false) ∧ Below w.heap.size w w' := by
  go_enter Tryd.func121, Tryd.ntmps121
  go_wp2
  go_ret
  exact ⟨rfl, Below.refl _ _⟩
set_option maxHeartbeats 1000000 in
theorem ivldX_zero (a : Option Addr) (cap : Nat) (w : World) :
    Calls Tryd.prog 121 #[.slice a 0 cap] w fun e w' => e = .returned (.bool true) ∧ Below w.heap.size w w' := by
  go_enter Tryd.func121, Tryd.ntmps121
  go_wp2
  refine wp_loop_rounds 1 ?_
  rw [rounds_succ]
  go_wp2
  go_ret
  exact ⟨rfl, Below.refl _ _⟩

set_option maxHeartbeats 4000000 in
set_option maxRecDepth 100000 in
theorem ivldX_row (b len cap : Nat) (ps : List Tri) (hl : ps.length = len) (h8 : len ≤ 10) (hfit : All8 ps) (w : World) (hc : CellsB w b ps) :
    Calls Tryd.prog 121 #[.slice (some ⟨b, 0, none⟩) len cap] w fun e w' => e = .returned (.bool (vldX ps)) ∧ Below w.heap.size w w' := by
  have HL := Lib.hid hl
  have HI := Lib.hid hfit
  clear hl hfit
  have h8' : decide ((10 : Int) < (len : Int)) = false := by simp; omega
  go_enter Tryd.func121, Tryd.ntmps121
  go_wp2_with fail
  go_loopw [10] (fun i wr => ∃ k : Nat, k ≤ len ∧ i = .int .i64 k ∧ AllX ps k ∧ Below w.heap.size w wr) (fun i _ => len - (intOf i).toNat)
  case atStart => exact ⟨0, Nat.zero_le _, rfl, AllX.zero ps, Below.refl _ _⟩
  case round =>
    obtain ⟨k, hk, rfl, hr, hnx⟩ := hrel
    have HR := Lib.hid hr
    have HB := Lib.hid hnx
    by_cases hlt : k < len
    · obtain ⟨c0, c1, c2⟩ := hc.below hnx k (by have := HL.out; omega)
      have hf := HI.out.get k (by have := HL.out; omega)
      have HOK : Hid (okX ps k ↔ okB (ps.getD k (0, 0, 0)).1 (ps.getD k (0, 0, 0)).2.1 (ps.getD k (0, 0, 0)).2.2 = true) := Lib.hid Iff.rfl
      obtain ⟨q, hq⟩ : ∃ q, ps.getD k (0, 0, 0) = q := ⟨_, rfl⟩
      rw [hq] at c0 c1 c2 hf HOK
      obtain ⟨x, y, z⟩ := q
      simp only at hf c0 c1 c2 HOK
      have HF := Lib.hid hf
      have HC := Lib.hid hc
      have hwr : w.heap.size ≤ wr.heap.size := hnx.size
      obtain ⟨W1, hW1⟩ : ∃ W, wr.alloc (.cells #[.int .i8 x, .int .i8 y, .int .i8 z] 90) = W := ⟨_, rfl⟩
      have B1 : Blk3 W1 wr.heap.size 90 x y z := by rw [← hW1]; exact Blk3.new _ _ _ _ _
      have E1 : Hid (Below w.heap.size w W1) := Lib.hid (by rw [← hW1]; exact (HB.out).alloc hwr _)
      have HW1 := Lib.hid hW1
      obtain ⟨v0, v1, v2⟩ := B1.at3
      clear hc hq hr hnx hf hW1 B1
      cases hb : okB x y z
      · have HBB := Lib.hid hb
        clear hb
        go_wp2_with fail
        rw [HW1.out]
        go_wp2_with fail
        refine (ivbox_any x y z _ HF.out).mono ?_
        rintro e w2 ⟨rfl, b2⟩
        rw [HBB.out]
        have HB2 : Hid (Below w.heap.size w w2) := Lib.hid (blink E1.out b2)
        clear b2
        go_wp2_with fail
        go_ret
        exact ⟨(ret_bool (vldX_bad (k := k) (by have := HL.out; omega) (fun h => by have := HOK.out.1 h; rw [HBB.out] at this; exact absurd this (by simp)))).symm, HB2.out⟩
      · have HBB := Lib.hid hb
        clear hb
        go_wp2_with fail
        rw [HW1.out]
        go_wp2_with fail
        refine (ivbox_any x y z _ HF.out).mono ?_
        rintro e w2 ⟨rfl, b2⟩
        rw [HBB.out]
        have HB2 : Hid (Below w.heap.size w w2) := Lib.hid (blink E1.out b2)
        clear b2
        go_wp2_with fail
        go_roundw
        case rel => exact ⟨k + 1, by omega, by go_num, HR.out.succ (HOK.out.2 HBB.out), HB2.out⟩
        case measure => simp [intOf]; omega
    · have hk' : k = len := by omega
      have HE := Lib.hid hk'
      clear hk' hc hr hnx
      go_wp2_with fail
      go_ret
      exact ⟨(ret_bool (vldX_true (by rw [HL.out]; omega) (by rw [HL.out, ← HE.out]; exact HR.out))).symm, HB.out⟩

theorem ivldX_any (v : Value) (ps : List Tri) (w : World) (hv : ReadsB w v ps) (hfit : All8 ps) (hx : ps.length ≤ 1048576) :
    Calls Tryd.prog 121 #[v] w fun e w' => e = .returned (.bool (vldX ps)) ∧ Below w.heap.size w w' := by
  obtain ⟨a, cap, rfl, h⟩ := hv
  by_cases h8 : ps.length ≤ 10
  · by_cases h0 : ps = []
    · subst h0
      rw [show vldX [] = true from vldX_true (by simp) (AllX.zero _)]
      exact ivldX_zero a cap w
    · obtain ⟨b, rfl, hc⟩ := h h0
      exact ivldX_row b ps.length cap ps rfl h8 hfit w hc
  · rw [vldX_len h8]
    exact ivldX_long a ps.length cap w (by omega) hx

set_option maxHeartbeats 4000000 in
set_option maxRecDepth 100000 in
theorem svldX_row (b len cap : Nat) (ps : List Tri) (hl : ps.length = len) (hm : len ≤ 1048576) (hfit : All8 ps) (w : World) (hc : CellsB w b ps) :
    Calls Tryd.prog 62 #[.slice (some ⟨b, 0, none⟩) len cap] w fun e w' => e = .returned (.bool (vldX ps)) ∧ Below w.heap.size w w' := by
  have HL := Lib.hid hl
  have HI := Lib.hid hfit
  clear hl hfit
  go_enter Tryd.func62, Tryd.ntmps62
  go_wp2_with fail
  go_loopw [3] (fun i wr => ∃ k : Nat, k ≤ len ∧ i = .int .i64 k ∧ AllX ps k ∧ Below w.heap.size w wr) (fun i _ => len - (intOf i).toNat)
  case atStart => exact ⟨0, Nat.zero_le _, rfl, AllX.zero ps, Below.refl _ _⟩
  case round =>
    obtain ⟨k, hk, rfl, hr, hnx⟩ := hrel
    have HR := Lib.hid hr
    have HB := Lib.hid hnx
    by_cases hlt : k < len
    · obtain ⟨c0, c1, c2⟩ := hc.below hnx k (by have := HL.out; omega)
      have hf := HI.out.get k (by have := HL.out; omega)
      have HOK : Hid (okX ps k ↔ okB (ps.getD k (0, 0, 0)).1 (ps.getD k (0, 0, 0)).2.1 (ps.getD k (0, 0, 0)).2.2 = true) := Lib.hid Iff.rfl
      obtain ⟨q, hq⟩ : ∃ q, ps.getD k (0, 0, 0) = q := ⟨_, rfl⟩
      rw [hq] at c0 c1 c2 hf HOK
      obtain ⟨x, y, z⟩ := q
      simp only at hf c0 c1 c2 HOK
      have HF := Lib.hid hf
      have HC := Lib.hid hc
      have hkl : (k : Int) < (len : Int) := by omega
      have hwr : w.heap.size ≤ wr.heap.size := hnx.size
      clear hc hq hr hnx hf
      cases hb : okB x y z
      · have HBB := Lib.hid hb
        clear hb
        go_wp2_with fail
        refine (sok_any x y z _ HF.out).mono ?_
        rintro e w2 ⟨rfl, b2⟩
        rw [HBB.out]
        have HB2 : Hid (Below w.heap.size w w2) := Lib.hid (HB.out.trans (b2.mono hwr))
        clear b2
        go_wp2_with fail
        go_ret
        exact ⟨(ret_bool (vldX_bad (k := k) (by have := HL.out; omega) (fun h => by have := HOK.out.1 h; rw [HBB.out] at this; exact absurd this (by simp)))).symm, HB2.out⟩
      · have HBB := Lib.hid hb
        clear hb
        go_wp2_with fail
        refine (sok_any x y z _ HF.out).mono ?_
        rintro e w2 ⟨rfl, b2⟩
        rw [HBB.out]
        have HB2 : Hid (Below w.heap.size w w2) := Lib.hid (HB.out.trans (b2.mono hwr))
        clear b2
        go_wp2_with fail
        go_roundw
        case rel => exact ⟨k + 1, by omega, by go_num, HR.out.succ (HOK.out.2 HBB.out), HB2.out⟩
        case measure => simp [intOf]; omega
    · have hk' : k = len := by omega
      have HE := Lib.hid hk'
      clear hk' hc hr hnx
      by_cases h8 : len ≤ 10
      · have d8 : decide ((len : Int) ≤ 10) = true := by simp; omega
        go_wp2_with fail
        go_ret
        exact ⟨(ret_bool (vldX_true (by rw [HL.out]; omega) (by rw [HL.out, ← HE.out]; exact HR.out))).symm, HB.out⟩
      · have d8 : decide ((len : Int) ≤ 10) = false := by simp; omega
        go_wp2_with fail
        go_ret
        exact ⟨(ret_bool (vldX_len (by rw [HL.out]; omega))).symm, HB.out⟩

set_option maxHeartbeats 1000000 in
theorem svldX_zero (a : Option Addr) (cap : Nat) (w : World) :
    Calls Tryd.prog 62 #[.slice a 0 cap] w fun e w' => e = .returned (.bool true) ∧ Below w.heap.size w w' := by
  go_enter Tryd.func62, Tryd.ntmps62
  go_wp2
  refine wp_loop_rounds 1 ?_
  rw [rounds_succ]
  go_wp2
  go_ret
  exact ⟨rfl, Below.refl _ _⟩

theorem svldX_any (v : Value) (ps : List Tri) (w : World) (hv : ReadsB w v ps) (hfit : All8 ps) (hx : ps.length ≤ 1048576) :
    Calls Tryd.prog 62 #[v] w fun e w' => e = .returned (.bool (vldX ps)) ∧ Below w.heap.size w w' := by
  obtain ⟨a, cap, rfl, h⟩ := hv
  by_cases h0 : ps = []
  · subst h0
    rw [show vldX [] = true from vldX_true (by simp) (AllX.zero _)]
    exact svldX_zero a cap w
  · obtain ⟨b, rfl, hc⟩ := h h0
    exact svldX_row b ps.length cap ps rfl hx hfit w hc
end Go.Proofs.YtbclmafplaipaaaDoor
