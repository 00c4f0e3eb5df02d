/-
  Contracts of both SameStock (and of slices.Equal at stamps), and the walk of FnExactSameStock.
-/
import Derived.Test.YtgbckddojfajjabStock
namespace Go.Proofs.Ytgbckddojfajjab
open Go Go.RowKit
set_option linter.unusedVariables false

set_option maxHeartbeats 2000000 in
set_option maxRecDepth 100000 in
theorem ssame_row (b c len cap cap2 : Nat) (xs ys : List (Int × Int)) (hx : xs.length = len) (hy : ys.length = len) (hm : len ≤ 1048576) (w : World) (hcx : CellsP w b xs) (hcy : CellsP w c ys) :
    Calls Try.prog 16 #[.slice (some ⟨b, 0, none⟩) len cap, .slice (some ⟨c, 0, none⟩) len cap2] w fun e w' => e = .returned (.bool (eqPs xs ys)) ∧ Below w.heap.size w w' := by
  go_enter Try.func16, Try.ntmps16
  go_wp2_with fail
  go_loopw [5] (fun i wr => ∃ k : Nat, k ≤ len ∧ i = .int .i64 k ∧ xs.take k = ys.take k ∧ Below w.heap.size w wr) (fun i _ => len - (intOf i).toNat)
  case atStart => exact ⟨0, Nat.zero_le _, rfl, by simp, Below.refl _ _⟩
  case round =>
    obtain ⟨k, hk, rfl, htk, hnx⟩ := hrel
    have HT := Lib.hid htk
    have HB := Lib.hid hnx
    have HX := Lib.hid hx
    have HY := Lib.hid hy
    by_cases hlt : k < len
    · obtain ⟨c0, c1⟩ := hcx.below hnx k (by omega)
      obtain ⟨d0, d1⟩ := hcy.below hnx k (by omega)
      obtain ⟨p, hp⟩ : ∃ p, xs.getD k (0, 0) = p := ⟨_, rfl⟩
      obtain ⟨q, hq⟩ : ∃ q, ys.getD k (0, 0) = q := ⟨_, rfl⟩
      rw [hp] at c0 c1
      rw [hq] at d0 d1
      obtain ⟨x, y⟩ := p
      obtain ⟨x', y'⟩ := q
      have HP := Lib.hid hp
      have HQ := Lib.hid hq
      have HCX := Lib.hid hcx
      have HCY := Lib.hid hcy
      have hkl : (k : Int) < (len : Int) := by omega
      clear hcx hcy hx hy htk hnx hp hq
      by_cases hxy : x = x' ∧ y = y'
      · obtain ⟨rfl, rfl⟩ := hxy
        go_wp2_with fail
        go_quiet (fail)
        go_wp2_with fail
        go_roundw
        case rel => exact ⟨k + 1, by omega, by go_num, takeP_step (by have := HX.out; omega) (by have := HY.out; omega) HT.out (by rw [HP.out, HQ.out]), below_drewN HB.out _⟩
        case measure => simp [intOf]; omega
      · have HNE : Hid (eqPs xs ys = false) := Lib.hid (eqPs_false (fun h => hxy (by have h1 := HP.out; rw [h, HQ.out] at h1; simpa [eq_comm] using h1)))
        by_cases h1 : x = x'
        · subst h1
          have t2 : (y == y') = false := by simp at hxy; simpa using hxy
          have t3 : ¬ y = y' := by simp at hxy; exact hxy
          clear hxy
          go_wp2_with fail
          go_quiet (fail)
          go_wp2_with fail
          go_ret
          exact ⟨(ret_bool HNE.out).symm, below_drewN HB.out _⟩
        · have t1 : (x == x') = false := by simpa using h1
          clear hxy
          go_wp2_with fail
          go_quiet (fail)
          go_wp2_with fail
          go_ret
          exact ⟨(ret_bool HNE.out).symm, below_drewN HB.out _⟩
    · clear hcx hcy hx hy htk hnx
      have hke : k = len := by omega
      have HE := Lib.hid hke
      clear hke
      go_wp2_with fail
      go_ret
      refine ⟨ret_bool (eqPs_true ?_).symm, HB.out⟩
      have h := HT.out
      rw [HE.out, List.take_of_length_le (by rw [HX.out]; omega), List.take_of_length_le (by rw [HY.out]; omega)] at h
      exact h

set_option maxHeartbeats 1000000 in
theorem ssame_differ (a c : Option Addr) (l m cap cap2 : Nat) (hne : l ≠ m) (hl : l ≤ 1048576) (hm : m ≤ 1048576) (w : World) :
    Calls Try.prog 16 #[.slice a l cap, .slice c m cap2] w fun e w' => e = .returned (.bool false) ∧ Below w.heap.size w w' := by
  have hb : ((l : Int) != (m : Int)) = true := by simp; omega
  go_enter Try.func16, Try.ntmps16
  go_wp2
  go_ret
  exact ⟨rfl, Below.refl _ _⟩
set_option maxHeartbeats 1000000 in
theorem ssame_empty (a c : Option Addr) (cap cap2 : Nat) (w : World) :
    Calls Try.prog 16 #[.slice a 0 cap, .slice c 0 cap2] w fun e w' => e = .returned (.bool true) ∧ Below w.heap.size w w' := by
  go_enter Try.func16, Try.ntmps16
  go_wp2
  refine wp_loop_rounds 1 ?_
  rw [rounds_succ]
  go_wp2
  go_ret
  exact ⟨rfl, Below.refl _ _⟩
theorem ssame_any (v u : Value) (xs ys : List (Int × Int)) (w : World) (hv : ReadsP w v xs) (hu : ReadsP w u ys) (hx : xs.length ≤ 1048576) (hy : ys.length ≤ 1048576) :
    Calls Try.prog 16 #[v, u] w fun e w' => e = .returned (.bool (eqPs xs ys)) ∧ Below w.heap.size w w' := by
  obtain ⟨a, cap, rfl, ha⟩ := hv
  obtain ⟨c, cap2, rfl, hc⟩ := hu
  by_cases hl : xs.length = ys.length
  · by_cases h0 : xs = []
    · subst h0
      have h1 : ys = [] := List.eq_nil_of_length_eq_zero hl.symm
      subst h1
      exact ssame_empty a c cap cap2 w
    · have h1 : ys ≠ [] := fun h => h0 (List.eq_nil_of_length_eq_zero (by rw [hl, h]; rfl))
      obtain ⟨b1, rfl, c1⟩ := ha h0
      obtain ⟨b2, rfl, c2⟩ := hc h1
      rw [← hl]
      exact ssame_row b1 b2 xs.length cap cap2 xs ys rfl hl.symm hx w c1 c2
  · rw [eqPs_false (fun h => hl (by rw [h]))]
    exact ssame_differ a c xs.length ys.length cap cap2 hl hx hy w

set_option maxHeartbeats 2000000 in
set_option maxRecDepth 100000 in
theorem equal_row (b c len cap cap2 : Nat) (xs ys : List (Int × Int)) (hx : xs.length = len) (hy : ys.length = len) (hm : len ≤ 1048576) (w : World) (hcx : CellsP w b xs) (hcy : CellsP w c ys) :
    Calls Try.prog 39 #[.slice (some ⟨b, 0, none⟩) len cap, .slice (some ⟨c, 0, none⟩) len cap2] w fun e w' => e = .returned (.bool (eqPs xs ys)) ∧ Below w.heap.size w w' := by
  go_enter Try.func39, Try.ntmps39
  go_wp2_with fail
  go_loopw [13] (fun i wr => ∃ k : Nat, k ≤ len ∧ i = .int .i64 k ∧ xs.take k = ys.take k ∧ Below w.heap.size w wr) (fun i _ => len - (intOf i).toNat)
  case atStart => exact ⟨0, Nat.zero_le _, rfl, by simp, Below.refl _ _⟩
  case round =>
    obtain ⟨k, hk, rfl, htk, hnx⟩ := hrel
    have HT := Lib.hid htk
    have HB := Lib.hid hnx
    have HX := Lib.hid hx
    have HY := Lib.hid hy
    by_cases hlt : k < len
    · obtain ⟨c0, c1⟩ := hcx.below hnx k (by omega)
      obtain ⟨d0, d1⟩ := hcy.below hnx k (by omega)
      obtain ⟨p, hp⟩ : ∃ p, xs.getD k (0, 0) = p := ⟨_, rfl⟩
      obtain ⟨q, hq⟩ : ∃ q, ys.getD k (0, 0) = q := ⟨_, rfl⟩
      rw [hp] at c0 c1
      rw [hq] at d0 d1
      obtain ⟨x, y⟩ := p
      obtain ⟨x', y'⟩ := q
      have HP := Lib.hid hp
      have HQ := Lib.hid hq
      have HCX := Lib.hid hcx
      have HCY := Lib.hid hcy
      have hkl : (k : Int) < (len : Int) := by omega
      clear hcx hcy hx hy htk hnx hp hq
      by_cases hxy : x = x' ∧ y = y'
      · obtain ⟨rfl, rfl⟩ := hxy
        go_wp2_with fail
        go_quiet (fail)
        go_wp2_with fail
        go_roundw
        case rel => exact ⟨k + 1, by omega, by go_num, takeP_step (by have := HX.out; omega) (by have := HY.out; omega) HT.out (by rw [HP.out, HQ.out]), below_drewN HB.out _⟩
        case measure => simp [intOf]; omega
      · have HNE : Hid (eqPs xs ys = false) := Lib.hid (eqPs_false (fun h => hxy (by have h1 := HP.out; rw [h, HQ.out] at h1; simpa [eq_comm] using h1)))
        by_cases h1 : x = x'
        · subst h1
          have t2 : (y == y') = false := by simp at hxy; simpa using hxy
          have t3 : ¬ y = y' := by simp at hxy; exact hxy
          clear hxy
          go_wp2_with fail
          go_quiet (fail)
          go_wp2_with fail
          go_ret
          exact ⟨(ret_bool HNE.out).symm, below_drewN HB.out _⟩
        · have t1 : (x == x') = false := by simpa using h1
          clear hxy
          go_wp2_with fail
          go_quiet (fail)
          go_wp2_with fail
          go_ret
          exact ⟨(ret_bool HNE.out).symm, below_drewN HB.out _⟩
    · clear hcx hcy hx hy htk hnx
      have hke : k = len := by omega
      have HE := Lib.hid hke
      clear hke
      go_wp2_with fail
      go_ret
      refine ⟨ret_bool (eqPs_true ?_).symm, HB.out⟩
      have h := HT.out
      rw [HE.out, List.take_of_length_le (by rw [HX.out]; omega), List.take_of_length_le (by rw [HY.out]; omega)] at h
      exact h

set_option maxHeartbeats 1000000 in
theorem equal_differ (a c : Option Addr) (l m cap cap2 : Nat) (hne : l ≠ m) (hl : l ≤ 1048576) (hm : m ≤ 1048576) (w : World) :
    Calls Try.prog 39 #[.slice a l cap, .slice c m cap2] w fun e w' => e = .returned (.bool false) ∧ Below w.heap.size w w' := by
  have hb : ((l : Int) != (m : Int)) = true := by simp; omega
  go_enter Try.func39, Try.ntmps39
  go_wp2
  go_ret
  exact ⟨rfl, Below.refl _ _⟩
set_option maxHeartbeats 1000000 in
theorem equal_empty (a c : Option Addr) (cap cap2 : Nat) (w : World) :
    Calls Try.prog 39 #[.slice a 0 cap, .slice c 0 cap2] w fun e w' => e = .returned (.bool true) ∧ Below w.heap.size w w' := by
  go_enter Try.func39, Try.ntmps39
  go_wp2
  refine wp_loop_rounds 1 ?_
  rw [rounds_succ]
  go_wp2
  go_ret
  exact ⟨rfl, Below.refl _ _⟩
theorem equal_any (v u : Value) (xs ys : List (Int × Int)) (w : World) (hv : ReadsP w v xs) (hu : ReadsP w u ys) (hx : xs.length ≤ 1048576) (hy : ys.length ≤ 1048576) :
    Calls Try.prog 39 #[v, u] w fun e w' => e = .returned (.bool (eqPs xs ys)) ∧ Below w.heap.size w w' := by
  obtain ⟨a, cap, rfl, ha⟩ := hv
  obtain ⟨c, cap2, rfl, hc⟩ := hu
  by_cases hl : xs.length = ys.length
  · by_cases h0 : xs = []
    · subst h0
      have h1 : ys = [] := List.eq_nil_of_length_eq_zero hl.symm
      subst h1
      exact equal_empty a c cap cap2 w
    · have h1 : ys ≠ [] := fun h => h0 (List.eq_nil_of_length_eq_zero (by rw [hl, h]; rfl))
      obtain ⟨b1, rfl, c1⟩ := ha h0
      obtain ⟨b2, rfl, c2⟩ := hc h1
      rw [← hl]
      exact equal_row b1 b2 xs.length cap cap2 xs ys rfl hl.symm hx w c1 c2
  · rw [eqPs_false (fun h => hl (by rw [h]))]
    exact equal_differ a c xs.length ys.length cap cap2 hl hx hy w

theorem isame_any (v u : Value) (xs ys : List (Int × Int)) (w : World) (hv : ReadsP w v xs) (hu : ReadsP w u ys) (hx : xs.length ≤ 1048576) (hy : ys.length ≤ 1048576) :
    Calls Try.prog 17 #[v, u] w fun e w' => e = .returned (.bool (eqPs xs ys)) ∧ Below w.heap.size w w' := by
  go_enter Try.func17, Try.ntmps17
  go_wp2_with fail
  refine (equal_any _ _ xs ys _ hv hu hx hy).mono ?_
  rintro e w2 ⟨rfl, b2⟩
  go_wp2_with fail
  go_ret
  exact ⟨rfl, b2⟩

theorem szStamp_gen (a : Option Addr) (len cap : Nat) (l : Int) (h0 : 0 ≤ l) (h1 : l ≤ 1048576) (hm : (len : Int) ≤ l) (w : World) :
    Calls Try.prog 11 #[.slice a len cap, .int .i64 l] w fun e w' => e = .returned (.int .i64 (l - len)) ∧ w = w' := by
  have t1 : decide (l - (len : Int) < 0) = false := by simp; omega
  go_enter Try.func11, Try.ntmps11
  go_wp2
  go_ret
  exact ⟨rfl, rfl⟩
theorem szStamp_over (a : Option Addr) (len cap : Nat) (l : Int) (h0 : 0 ≤ l) (h1 : l ≤ 1048576) (hm : l < (len : Int)) (hb : len ≤ 9223372036854775807) (w : World) :
    Calls Try.prog 11 #[.slice a len cap, .int .i64 l] w fun e w' => e = .returned (.int .i64 (-1)) ∧ w = w' := by
  have t1 : decide (l - (len : Int) < 0) = true := by simp; omega
  go_enter Try.func11, Try.ntmps11
  go_wp2
  go_ret
  exact ⟨rfl, rfl⟩
end Go.Proofs.Ytgbckddojfajjab
