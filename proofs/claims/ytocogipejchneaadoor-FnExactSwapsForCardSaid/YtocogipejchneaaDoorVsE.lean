/-
  slices.Equal at numbers.
-/
import Derived.Test.YtocogipejchneaaDoorBase
import Derived.Test.YtocogipejchneaaDoorProg
namespace Go.Proofs.YtocogipejchneaaDoor
open Go Go.RowKit
set_option linter.unusedVariables false

set_option maxHeartbeats 1000000 in
theorem leq_row (b c len cap cap2 : Nat) (xs ys : List Int) (hx : xs.length = len) (hy : ys.length = len) (hm : len ≤ 1048576) (w : World) (hcx : Cells w b xs) (hcy : Cells w c ys) :
    Calls Tryd.prog 38 #[.slice (some ⟨b, 0, none⟩) len cap, .slice (some ⟨c, 0, none⟩) len cap2] w fun e w' => e = .returned (.bool (eqB xs ys)) ∧ Below w.heap.size w w' := by
  go_enter Tryd.func38, Tryd.ntmps38
  go_wp2
  go_loopw [13] (fun i wr => ∃ k : Nat, k ≤ len ∧ i = .int .i64 k ∧ xs.take k = ys.take k ∧ Below w.heap.size w wr) (fun i _ => len - (intOf i).toNat)
  case atStart => exact ⟨0, Nat.zero_le _, rfl, by simp, Below.refl _ _⟩
  case round =>
    obtain ⟨k, hk, rfl, htk, hnx⟩ := hrel
    have HT := Lib.hid htk
    have HB := Lib.hid hnx
    have HX := Lib.hid hx
    have HY := Lib.hid hy
    by_cases hlt : k < len
    · have cx := hcx.below hnx k (by omega)
      have cy := hcy.below hnx k (by omega)
      obtain ⟨x, hxk⟩ : ∃ x, xs.getD k 0 = x := ⟨_, rfl⟩
      obtain ⟨y, hyk⟩ : ∃ y, ys.getD k 0 = y := ⟨_, rfl⟩
      rw [hxk] at cx
      rw [hyk] at cy
      have HXK := Lib.hid hxk
      have HYK := Lib.hid hyk
      have HCX := Lib.hid hcx
      have HCY := Lib.hid hcy
      clear hcx hcy hx hy htk hnx hxk hyk
      have hkl : (k : Int) < (len : Int) := by omega
      by_cases hxy : x = y
      · subst hxy
        go_wp2
        go_quiet (fail)
        go_wp2
        go_roundw
        case rel => exact ⟨k + 1, by omega, by go_num, take_step (by have := HX.out; omega) (by have := HY.out; omega) HT.out (HXK.out.trans HYK.out.symm), below_drewN HB.out _⟩
        case measure => simp [intOf]; omega
      · go_wp2
        go_quiet (fail)
        go_wp2
        go_ret
        exact ⟨ret_bool (eqB_false (fun h => hxy (by rw [← HXK.out, ← HYK.out, h]))).symm, below_drewN HB.out _⟩
    · clear hcx hcy hx hy htk hnx
      have hke : k = len := by omega
      have HE := Lib.hid hke
      clear hke
      go_wp2
      go_ret
      refine ⟨ret_bool (eqB_true ?_).symm, HB.out⟩
      have h := HT.out
      rw [HE.out, List.take_of_length_le (by rw [HX.out]; omega), List.take_of_length_le (by rw [HY.out]; omega)] at h
      exact h
set_option maxHeartbeats 1000000 in
theorem leq_differ (a c : Option Addr) (l m cap cap2 : Nat) (hne : l ≠ m) (hl : l ≤ 1048576) (hm : m ≤ 1048576) (w : World) :
    Calls Tryd.prog 38 #[.slice a l cap, .slice c m cap2] w fun e w' => e = .returned (.bool false) ∧ Below w.heap.size w w' := by
  have hb : ((l : Int) != (m : Int)) = true := by simp; omega
  go_enter Tryd.func38, Tryd.ntmps38
  go_wp2
  go_ret
  exact ⟨rfl, Below.refl _ _⟩
set_option maxHeartbeats 1000000 in
theorem leq_empty (a c : Option Addr) (cap cap2 : Nat) (w : World) :
    Calls Tryd.prog 38 #[.slice a 0 cap, .slice c 0 cap2] w fun e w' => e = .returned (.bool true) ∧ Below w.heap.size w w' := by
  go_enter Tryd.func38, Tryd.ntmps38
  go_wp2
  refine wp_loop_rounds 1 ?_
  rw [rounds_succ]
  go_wp2
  go_ret
  exact ⟨rfl, Below.refl _ _⟩
theorem leq_any (v u : Value) (xs ys : List Int) (w : World) (hv : ReadsI w v xs) (hu : ReadsI w u ys) (hx : xs.length ≤ 1048576) (hy : ys.length ≤ 1048576) :
    Calls Tryd.prog 38 #[v, u] w fun e w' => e = .returned (.bool (eqB xs ys)) ∧ Below w.heap.size w w' := by
  obtain ⟨a, cap, rfl, ha⟩ := hv
  obtain ⟨c, cap2, rfl, hc⟩ := hu
  by_cases hl : xs.length = ys.length
  · by_cases h0 : xs = []
    · subst h0
      have h1 : ys = [] := List.eq_nil_of_length_eq_zero hl.symm
      subst h1
      exact leq_empty a c cap cap2 w
    · have h1 : ys ≠ [] := fun h => h0 (List.eq_nil_of_length_eq_zero (by rw [hl, h]; rfl))
      obtain ⟨b1, rfl, c1⟩ := ha h0
      obtain ⟨b2, rfl, c2⟩ := hc h1
      rw [← hl]
      exact leq_row b1 b2 xs.length cap cap2 xs ys rfl hl.symm hx w c1 c2
  · rw [eqB_false (fun h => hl (by rw [h]))]
    exact leq_differ a c xs.length ys.length cap cap2 hl hx hy w
end Go.Proofs.YtocogipejchneaaDoor
