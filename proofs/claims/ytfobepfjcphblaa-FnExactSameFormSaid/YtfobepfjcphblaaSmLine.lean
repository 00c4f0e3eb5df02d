/-
  Both functions that tell whether two slices of Line are equal (the program's by slices.Equal).
-/
import Derived.Test.YtfobepfjcphblaaRLine
namespace Go.Proofs.Ytfobepfjcphblaa
open Go Go.RowKit
set_option linter.unusedVariables false

def eqLL (xs ys : List (Int × Int × Int × Int)) : Bool := decide (xs = ys)
theorem eqLL_true {xs ys : List (Int × Int × Int × Int)} (h : xs = ys) : eqLL xs ys = true := decide_eq_true h
theorem eqLL_false {xs ys : List (Int × Int × Int × Int)} (h : xs ≠ ys) : eqLL xs ys = false := decide_eq_false h
theorem takeL_step {xs ys : List (Int × Int × Int × Int)} {k : Nat} (hx : k < xs.length) (hy : k < ys.length) (h : xs.take k = ys.take k) (he : xs.getD k (0, 0, 0, 0) = ys.getD k (0, 0, 0, 0)) : xs.take (k + 1) = ys.take (k + 1) := by
  rw [List.take_succ_eq_append_getElem hx, List.take_succ_eq_append_getElem hy, h]
  simp only [List.getD, List.getElem?_eq_getElem hx, List.getElem?_eq_getElem hy, Option.getD_some] at he
  rw [he]

set_option maxHeartbeats 4000000 in
set_option maxRecDepth 100000 in
theorem ssmL_row (b c len cap cap2 : Nat) (xs ys : List (Int × Int × Int × Int)) (hx : xs.length = len) (hy : ys.length = len) (hm : len ≤ 1048576) (w : World) (hcx : CellsL w b xs) (hcy : CellsL w c ys) :
    Calls Try.prog 25 #[.slice (some ⟨b, 0, none⟩) len cap, .slice (some ⟨c, 0, none⟩) len cap2] w fun e w' => e = .returned (.bool (eqLL xs ys)) ∧ Below w.heap.size w w' := by
  go_enter Try.func25, Try.ntmps25
  go_wp2_with fail
  go_loopw [5] (fun i wr => ∃ k : Nat, k ≤ len ∧ i = .int .i64 k ∧ xs.take k = ys.take k ∧ Below w.heap.size w wr) (fun i _ => len - (intOf i).toNat)
  case atStart => exact ⟨0, Nat.zero_le _, rfl, by simp, Below.refl _ _⟩
  case round =>
    obtain ⟨k, hk, rfl, htk, hnx⟩ := hrel
    have HT := Lib.hid htk
    have HB := Lib.hid hnx
    have HX := Lib.hid hx
    have HY := Lib.hid hy
    by_cases hlt : k < len
    · obtain ⟨c0, c1, c2, c3⟩ := hcx.below hnx k (by omega)
      obtain ⟨d0, d1, d2, d3⟩ := hcy.below hnx k (by omega)
      obtain ⟨p, hp⟩ : ∃ p, xs.getD k (0, 0, 0, 0) = p := ⟨_, rfl⟩
      obtain ⟨q, hq⟩ : ∃ q, ys.getD k (0, 0, 0, 0) = q := ⟨_, rfl⟩
      rw [hp] at c0 c1 c2 c3
      rw [hq] at d0 d1 d2 d3
      obtain ⟨x0, x1, x2, x3⟩ := p
      obtain ⟨y0, y1, y2, y3⟩ := q
      have HP := Lib.hid hp
      have HQ := Lib.hid hq
      have HCX := Lib.hid hcx
      have HCY := Lib.hid hcy
      have hkl : (k : Int) < (len : Int) := by omega
      clear hcx hcy hx hy htk hnx hp hq
      by_cases hxy : x0 = y0 ∧ x1 = y1 ∧ x2 = y2 ∧ x3 = y3
      · obtain ⟨rfl, rfl, rfl, rfl⟩ := hxy
        go_wp2_with fail
        go_quiet (fail)
        go_wp2_with fail
        go_roundw
        case rel => exact ⟨k + 1, by omega, by go_num, takeL_step (by have := HX.out; omega) (by have := HY.out; omega) HT.out (by rw [HP.out, HQ.out]), below_drewN HB.out _⟩
        case measure => simp [intOf]; omega
      · have HNE : Hid (eqLL xs ys = false) := Lib.hid (eqLL_false (fun h => hxy (by have h1 := HP.out; rw [h, HQ.out] at h1; simpa [eq_comm] using h1)))
        have HXY := Lib.hid hxy
        clear hxy
        by_cases h0 : x0 = y0
        · subst h0
          by_cases h1 : x1 = y1
          · subst h1
            by_cases h2 : x2 = y2
            · subst h2
              by_cases h3 : x3 = y3
              · subst h3
                exact absurd ⟨rfl, rfl, rfl, rfl⟩ HXY.out
              · have t3 : (x3 == y3) = false := by simpa using h3
                clear HXY
                go_wp2_with fail
                go_quiet (fail)
                go_wp2_with fail
                go_ret
                exact ⟨(ret_bool HNE.out).symm, below_drewN HB.out _⟩
            · have t2 : (x2 == y2) = false := by simpa using h2
              clear HXY
              go_wp2_with fail
              go_quiet (fail)
              go_wp2_with fail
              go_ret
              exact ⟨(ret_bool HNE.out).symm, below_drewN HB.out _⟩
          · have t1 : (x1 == y1) = false := by simpa using h1
            clear HXY
            go_wp2_with fail
            go_quiet (fail)
            go_wp2_with fail
            go_ret
            exact ⟨(ret_bool HNE.out).symm, below_drewN HB.out _⟩
        · have t0 : (x0 == y0) = false := by simpa using h0
          clear HXY
          go_wp2_with fail
          go_quiet (fail)
          go_wp2_with fail
          go_ret
          exact ⟨(ret_bool HNE.out).symm, below_drewN HB.out _⟩
    · clear hcx hcy hx hy htk hnx
      have hke : k = len := by omega
      have HE := Lib.hid hke
      clear hke
      go_wp2_with fail
      go_ret
      refine ⟨ret_bool (eqLL_true ?_).symm, HB.out⟩
      have h := HT.out
      rw [HE.out, List.take_of_length_le (by rw [HX.out]; omega), List.take_of_length_le (by rw [HY.out]; omega)] at h
      exact h

set_option maxHeartbeats 1000000 in
theorem ssmL_differ (a c : Option Addr) (l m cap cap2 : Nat) (hne : l ≠ m) (hl : l ≤ 1048576) (hm : m ≤ 1048576) (w : World) :
    Calls Try.prog 25 #[.slice a l cap, .slice c m cap2] w fun e w' => e = .returned (.bool false) ∧ Below w.heap.size w w' := by
  have hb : ((l : Int) != (m : Int)) = true := by simp; omega
  go_enter Try.func25, Try.ntmps25
  go_wp2
  go_ret
  exact ⟨rfl, Below.refl _ _⟩
set_option maxHeartbeats 1000000 in
theorem ssmL_empty (a c : Option Addr) (cap cap2 : Nat) (w : World) :
    Calls Try.prog 25 #[.slice a 0 cap, .slice c 0 cap2] w fun e w' => e = .returned (.bool true) ∧ Below w.heap.size w w' := by
  go_enter Try.func25, Try.ntmps25
  go_wp2
  refine wp_loop_rounds 1 ?_
  rw [rounds_succ]
  go_wp2
  go_ret
  exact ⟨rfl, Below.refl _ _⟩
theorem ssmL_any (v u : Value) (xs ys : List (Int × Int × Int × Int)) (w : World) (hv : ReadsL w v xs) (hu : ReadsL w u ys) (hx : xs.length ≤ 1048576) (hy : ys.length ≤ 1048576) :
    Calls Try.prog 25 #[v, u] w fun e w' => e = .returned (.bool (eqLL xs ys)) ∧ Below w.heap.size w w' := by
  obtain ⟨a, cap, rfl, ha⟩ := hv
  obtain ⟨c, cap2, rfl, hc⟩ := hu
  by_cases hl : xs.length = ys.length
  · by_cases h0 : xs = []
    · subst h0
      have h1 : ys = [] := List.eq_nil_of_length_eq_zero hl.symm
      subst h1
      exact ssmL_empty a c cap cap2 w
    · have h1 : ys ≠ [] := fun h => h0 (List.eq_nil_of_length_eq_zero (by rw [hl, h]; rfl))
      obtain ⟨b1, rfl, c1⟩ := ha h0
      obtain ⟨b2, rfl, c2⟩ := hc h1
      rw [← hl]
      exact ssmL_row b1 b2 xs.length cap cap2 xs ys rfl hl.symm hx w c1 c2
  · rw [eqLL_false (fun h => hl (by rw [h]))]
    exact ssmL_differ a c xs.length ys.length cap cap2 hl hx hy w

set_option maxHeartbeats 4000000 in
set_option maxRecDepth 100000 in
theorem equalL_row (b c len cap cap2 : Nat) (xs ys : List (Int × Int × Int × Int)) (hx : xs.length = len) (hy : ys.length = len) (hm : len ≤ 1048576) (w : World) (hcx : CellsL w b xs) (hcy : CellsL w c ys) :
    Calls Try.prog 52 #[.slice (some ⟨b, 0, none⟩) len cap, .slice (some ⟨c, 0, none⟩) len cap2] w fun e w' => e = .returned (.bool (eqLL xs ys)) ∧ Below w.heap.size w w' := by
  go_enter Try.func52, Try.ntmps52
  go_wp2_with fail
  go_loopw [13] (fun i wr => ∃ k : Nat, k ≤ len ∧ i = .int .i64 k ∧ xs.take k = ys.take k ∧ Below w.heap.size w wr) (fun i _ => len - (intOf i).toNat)
  case atStart => exact ⟨0, Nat.zero_le _, rfl, by simp, Below.refl _ _⟩
  case round =>
    obtain ⟨k, hk, rfl, htk, hnx⟩ := hrel
    have HT := Lib.hid htk
    have HB := Lib.hid hnx
    have HX := Lib.hid hx
    have HY := Lib.hid hy
    by_cases hlt : k < len
    · obtain ⟨c0, c1, c2, c3⟩ := hcx.below hnx k (by omega)
      obtain ⟨d0, d1, d2, d3⟩ := hcy.below hnx k (by omega)
      obtain ⟨p, hp⟩ : ∃ p, xs.getD k (0, 0, 0, 0) = p := ⟨_, rfl⟩
      obtain ⟨q, hq⟩ : ∃ q, ys.getD k (0, 0, 0, 0) = q := ⟨_, rfl⟩
      rw [hp] at c0 c1 c2 c3
      rw [hq] at d0 d1 d2 d3
      obtain ⟨x0, x1, x2, x3⟩ := p
      obtain ⟨y0, y1, y2, y3⟩ := q
      have HP := Lib.hid hp
      have HQ := Lib.hid hq
      have HCX := Lib.hid hcx
      have HCY := Lib.hid hcy
      have hkl : (k : Int) < (len : Int) := by omega
      clear hcx hcy hx hy htk hnx hp hq
      by_cases hxy : x0 = y0 ∧ x1 = y1 ∧ x2 = y2 ∧ x3 = y3
      · obtain ⟨rfl, rfl, rfl, rfl⟩ := hxy
        go_wp2_with fail
        go_quiet (fail)
        go_wp2_with fail
        go_roundw
        case rel => exact ⟨k + 1, by omega, by go_num, takeL_step (by have := HX.out; omega) (by have := HY.out; omega) HT.out (by rw [HP.out, HQ.out]), below_drewN HB.out _⟩
        case measure => simp [intOf]; omega
      · have HNE : Hid (eqLL xs ys = false) := Lib.hid (eqLL_false (fun h => hxy (by have h1 := HP.out; rw [h, HQ.out] at h1; simpa [eq_comm] using h1)))
        have HXY := Lib.hid hxy
        clear hxy
        by_cases h0 : x0 = y0
        · subst h0
          by_cases h1 : x1 = y1
          · subst h1
            by_cases h2 : x2 = y2
            · subst h2
              by_cases h3 : x3 = y3
              · subst h3
                exact absurd ⟨rfl, rfl, rfl, rfl⟩ HXY.out
              · have t3 : (x3 == y3) = false := by simpa using h3
                clear HXY
                go_wp2_with fail
                go_quiet (fail)
                go_wp2_with fail
                go_ret
                exact ⟨(ret_bool HNE.out).symm, below_drewN HB.out _⟩
            · have t2 : (x2 == y2) = false := by simpa using h2
              clear HXY
              go_wp2_with fail
              go_quiet (fail)
              go_wp2_with fail
              go_ret
              exact ⟨(ret_bool HNE.out).symm, below_drewN HB.out _⟩
          · have t1 : (x1 == y1) = false := by simpa using h1
            clear HXY
            go_wp2_with fail
            go_quiet (fail)
            go_wp2_with fail
            go_ret
            exact ⟨(ret_bool HNE.out).symm, below_drewN HB.out _⟩
        · have t0 : (x0 == y0) = false := by simpa using h0
          clear HXY
          go_wp2_with fail
          go_quiet (fail)
          go_wp2_with fail
          go_ret
          exact ⟨(ret_bool HNE.out).symm, below_drewN HB.out _⟩
    · clear hcx hcy hx hy htk hnx
      have hke : k = len := by omega
      have HE := Lib.hid hke
      clear hke
      go_wp2_with fail
      go_ret
      refine ⟨ret_bool (eqLL_true ?_).symm, HB.out⟩
      have h := HT.out
      rw [HE.out, List.take_of_length_le (by rw [HX.out]; omega), List.take_of_length_le (by rw [HY.out]; omega)] at h
      exact h

set_option maxHeartbeats 1000000 in
theorem equalL_differ (a c : Option Addr) (l m cap cap2 : Nat) (hne : l ≠ m) (hl : l ≤ 1048576) (hm : m ≤ 1048576) (w : World) :
    Calls Try.prog 52 #[.slice a l cap, .slice c m cap2] w fun e w' => e = .returned (.bool false) ∧ Below w.heap.size w w' := by
  have hb : ((l : Int) != (m : Int)) = true := by simp; omega
  go_enter Try.func52, Try.ntmps52
  go_wp2
  go_ret
  exact ⟨rfl, Below.refl _ _⟩
set_option maxHeartbeats 1000000 in
theorem equalL_empty (a c : Option Addr) (cap cap2 : Nat) (w : World) :
    Calls Try.prog 52 #[.slice a 0 cap, .slice c 0 cap2] w fun e w' => e = .returned (.bool true) ∧ Below w.heap.size w w' := by
  go_enter Try.func52, Try.ntmps52
  go_wp2
  refine wp_loop_rounds 1 ?_
  rw [rounds_succ]
  go_wp2
  go_ret
  exact ⟨rfl, Below.refl _ _⟩
theorem equalL_any (v u : Value) (xs ys : List (Int × Int × Int × Int)) (w : World) (hv : ReadsL w v xs) (hu : ReadsL w u ys) (hx : xs.length ≤ 1048576) (hy : ys.length ≤ 1048576) :
    Calls Try.prog 52 #[v, u] w fun e w' => e = .returned (.bool (eqLL xs ys)) ∧ Below w.heap.size w w' := by
  obtain ⟨a, cap, rfl, ha⟩ := hv
  obtain ⟨c, cap2, rfl, hc⟩ := hu
  by_cases hl : xs.length = ys.length
  · by_cases h0 : xs = []
    · subst h0
      have h1 : ys = [] := List.eq_nil_of_length_eq_zero hl.symm
      subst h1
      exact equalL_empty a c cap cap2 w
    · have h1 : ys ≠ [] := fun h => h0 (List.eq_nil_of_length_eq_zero (by rw [hl, h]; rfl))
      obtain ⟨b1, rfl, c1⟩ := ha h0
      obtain ⟨b2, rfl, c2⟩ := hc h1
      rw [← hl]
      exact equalL_row b1 b2 xs.length cap cap2 xs ys rfl hl.symm hx w c1 c2
  · rw [eqLL_false (fun h => hl (by rw [h]))]
    exact equalL_differ a c xs.length ys.length cap cap2 hl hx hy w

theorem ismL_any (v u : Value) (xs ys : List (Int × Int × Int × Int)) (w : World) (hv : ReadsL w v xs) (hu : ReadsL w u ys) (hx : xs.length ≤ 1048576) (hy : ys.length ≤ 1048576) :
    Calls Try.prog 26 #[v, u] w fun e w' => e = .returned (.bool (eqLL xs ys)) ∧ Below w.heap.size w w' := by
  go_enter Try.func26, Try.ntmps26
  go_wp2_with fail
  refine (equalL_any _ _ xs ys _ hv hu hx hy).mono ?_
  rintro e w2 ⟨rfl, b2⟩
  go_wp2_with fail
  go_ret
  exact ⟨rfl, b2⟩
end Go.Proofs.Ytfobepfjcphblaa
