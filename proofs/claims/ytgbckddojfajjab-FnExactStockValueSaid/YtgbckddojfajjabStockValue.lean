/-
  Contracts of both StockValue.
-/
import Derived.Test.YtgbckddojfajjabStock
namespace Go.Proofs.Ytgbckddojfajjab
open Go Go.RowKit
set_option linter.unusedVariables false

/-- The sum of the first k stamps. -/
def sumK (ps : List (Int × Int)) : Nat → Int
  | 0 => 0
  | k + 1 => sumK ps k + (ps.getD k (0, 0)).1 * (ps.getD k (0, 0)).2
theorem okS_mul {ps : List (Int × Int)} (h : RiseS ps ps.length) {k : Nat} (hk : k < ps.length) : 0 ≤ (ps.getD k (0, 0)).1 * (ps.getD k (0, 0)).2 ∧ (ps.getD k (0, 0)).1 * (ps.getD k (0, 0)).2 ≤ 25000 := by
  have h1 := h k hk
  have h2 := RiseS.prev (fun i hi => h i (by omega) : RiseS ps k)
  unfold okS at h1
  constructor
  · exact Int.mul_nonneg (by omega) (by omega)
  · have h3 := Int.mul_le_mul (show (ps.getD k (0, 0)).1 ≤ 500 by omega) (show (ps.getD k (0, 0)).2 ≤ 50 by omega) (by omega) (by omega)
    omega
theorem sumK_bounds {ps : List (Int × Int)} (h : RiseS ps ps.length) (k : Nat) (hk : k ≤ ps.length) : 0 ≤ sumK ps k ∧ sumK ps k ≤ 25000 * k := by
  induction k with
  | zero => simp [sumK]
  | succ k ih =>
    have h1 := okS_mul h (show k < ps.length by omega)
    have h2 := ih (by omega)
    rw [sumK]
    omega
def valRes (ps : List (Int × Int)) : Int := if vldS ps then sumK ps ps.length else 0
def codeS (ps : List (Int × Int)) : Int := if vldS ps then 0 else 1
theorem ret_two' {k l : IntKind} {a b c d : Int} (h : a = b) (g : c = d) : Ending.returned (.tuple #[.int k a, .int l c]) = .returned (.tuple #[.int k b, .int l d]) := by rw [h, g]

set_option maxHeartbeats 4000000 in
set_option maxRecDepth 100000 in
theorem ivalue_any (v : Value) (ps : List (Int × Int)) (w : World) (hv : ReadsP w v ps) (hi16 : I16 ps) (hx : ps.length ≤ 1048576) :
    Calls Try.prog 19 #[v] w fun e w' => e = .returned (.tuple #[.int .i64 (valRes ps), .int .i64 (codeS ps)]) ∧ Below w.heap.size w w' := by
  cases hvl : vldS ps
  · have HR : Hid (valRes ps = 0 ∧ codeS ps = 1) := Lib.hid ⟨by simp [valRes, hvl], by simp [codeS, hvl]⟩
    go_enter Try.func19, Try.ntmps19
    go_wp2_with fail
    refine (istock_any _ ps _ hv hx).mono ?_
    rintro e w2 ⟨rfl, b2⟩
    rw [hvl]
    go_wp2_with fail
    go_ret2
    exact ⟨ret_two' HR.out.1.symm HR.out.2.symm, b2⟩
  · have HR : Hid (valRes ps = sumK ps ps.length ∧ codeS ps = 0) := Lib.hid ⟨by simp [valRes, hvl], by simp [codeS, hvl]⟩
    obtain ⟨h8, hri⟩ := vldS_spec hvl
    have HRI := Lib.hid hri
    obtain ⟨n, hn⟩ : ∃ n, ps.length = n := ⟨_, rfl⟩
    have HN := Lib.hid hn
    obtain ⟨a, cap, rfl, h⟩ := hv
    have hv2 : ReadsP w (.slice a ps.length cap) ps := ⟨a, cap, rfl, h⟩
    by_cases h0 : ps = []
    · subst h0
      go_enter Try.func19, Try.ntmps19
      go_wp2_with fail
      refine (istock_any _ [] _ hv2 hx).mono ?_
      rintro e w2 ⟨rfl, b2⟩
      rw [hvl]
      go_wp2_with fail
      refine wp_loop_rounds 1 ?_
      rw [rounds_succ]
      go_wp2_with fail
      go_ret2
      exact ⟨ret_two' (by rw [HR.out.1]; rfl) HR.out.2.symm, b2⟩
    · obtain ⟨b, rfl, hc⟩ := h h0
      rw [hn] at hv2 h8 ⊢
      clear hri hn h0 h
      go_enter Try.func19, Try.ntmps19
      go_wp2_with fail
      refine (istock_any _ ps _ hv2 (by rw [HN.out]; omega)).mono ?_
      rintro e w2 ⟨rfl, b2⟩
      rw [hvl]
      have HB2 := Lib.hid b2
      have hw2 : w.heap.size ≤ w2.heap.size := b2.size
      have hc2 := hc.below b2
      clear hc hv2 hvl b2
      go_wp2_with fail
      go_loopw [4, 12] (fun s i wr => ∃ k : Nat, k ≤ n ∧ i = .int .i64 k ∧ s = .int .i64 (sumK ps k) ∧ Below w2.heap.size w2 wr) (fun _ i _ => n - (intOf i).toNat)
      case atStart => exact ⟨0, Nat.zero_le _, rfl, rfl, Below.refl _ _⟩
      case round =>
        obtain ⟨k, hk, rfl, rfl, hnx⟩ := hrel
        have HB := Lib.hid hnx
        by_cases hlt : k < n
        · obtain ⟨c0, c1⟩ := hc2.below hnx k (by have := HN.out; omega)
          have hm := okS_mul HRI.out (show k < ps.length by have := HN.out; omega)
          have hs := sumK_bounds HRI.out k (by have := HN.out; omega)
          have hb16 := hi16.get k (by have := HN.out; omega)
          have HS : Hid (sumK ps (k + 1) = sumK ps k + (ps.getD k (0, 0)).1 * (ps.getD k (0, 0)).2) := Lib.hid rfl
          obtain ⟨q, hq⟩ : ∃ q, ps.getD k (0, 0) = q := ⟨_, rfl⟩
          rw [hq] at c0 c1 hb16 hm HS
          obtain ⟨x, y⟩ := q
          obtain ⟨s, hs'⟩ : ∃ s, sumK ps k = s := ⟨_, rfl⟩
          rw [hs'] at hs HS ⊢
          have hx1 : -32768 ≤ x := hb16.1
          have hx2 : x ≤ 32767 := hb16.2.1
          have hy1 : -32768 ≤ y := hb16.2.2.1
          have hy2 : y ≤ 32767 := hb16.2.2.2
          have hm1 : 0 ≤ x * y := hm.1
          have hm2 : x * y ≤ 25000 := hm.2
          have hs1 := hs.1
          have hs2 : s ≤ 200000 := by omega
          have hwr : w2.heap.size ≤ wr.heap.size := hnx.size
          clear hq hs' hnx hm hs hb16
          go_wp2_with fail
          go_roundw
          case rel => exact ⟨k + 1, by omega, by go_num, by rw [HS.out], by repeat (first | exact HB.out | refine Below.setCell ?_ (by first | (simp; done) | (simp; omega)) _ | refine Below.alloc ?_ (by first | (simp; done) | (simp; omega) | omega) _)⟩
          case measure => simp [intOf]; omega
        · have hk' : k = ps.length := by have := HN.out; omega
          have HE := Lib.hid hk'
          clear hk' hnx hc2
          go_wp2_with fail
          go_ret2
          exact ⟨ret_two' (by rw [HR.out.1, ← HE.out]) HR.out.2.symm, blink HB2.out HB.out⟩
set_option maxHeartbeats 4000000 in
set_option maxRecDepth 100000 in
theorem svalue_any (v : Value) (ps : List (Int × Int)) (w : World) (hv : ReadsP w v ps) (hi16 : I16 ps) (hx : ps.length ≤ 1048576) :
    Calls Try.prog 18 #[v] w fun e w' => e = .returned (.tuple #[.int .i64 (valRes ps), .int .i64 (codeS ps)]) ∧ Below w.heap.size w w' := by
  cases hvl : vldS ps
  · have HR : Hid (valRes ps = 0 ∧ codeS ps = 1) := Lib.hid ⟨by simp [valRes, hvl], by simp [codeS, hvl]⟩
    go_enter Try.func18, Try.ntmps18
    go_wp2_with fail
    refine (sstock_any _ ps _ hv hi16 hx).mono ?_
    rintro e w2 ⟨rfl, b2⟩
    rw [hvl]
    go_wp2_with fail
    go_ret2
    exact ⟨ret_two' HR.out.1.symm HR.out.2.symm, b2⟩
  · have HR : Hid (valRes ps = sumK ps ps.length ∧ codeS ps = 0) := Lib.hid ⟨by simp [valRes, hvl], by simp [codeS, hvl]⟩
    obtain ⟨h8, hri⟩ := vldS_spec hvl
    have HRI := Lib.hid hri
    obtain ⟨n, hn⟩ : ∃ n, ps.length = n := ⟨_, rfl⟩
    have HN := Lib.hid hn
    obtain ⟨a, cap, rfl, h⟩ := hv
    have hv2 : ReadsP w (.slice a ps.length cap) ps := ⟨a, cap, rfl, h⟩
    by_cases h0 : ps = []
    · subst h0
      go_enter Try.func18, Try.ntmps18
      go_wp2_with fail
      refine (sstock_any _ [] _ hv2 hi16 hx).mono ?_
      rintro e w2 ⟨rfl, b2⟩
      rw [hvl]
      go_wp2_with fail
      refine wp_loop_rounds 1 ?_
      rw [rounds_succ]
      go_wp2_with fail
      go_ret2
      exact ⟨ret_two' (by rw [HR.out.1]; rfl) HR.out.2.symm, b2⟩
    · obtain ⟨b, rfl, hc⟩ := h h0
      rw [hn] at hv2 h8 ⊢
      clear hri hn h0 h
      go_enter Try.func18, Try.ntmps18
      go_wp2_with fail
      refine (sstock_any _ ps _ hv2 hi16 (by rw [HN.out]; omega)).mono ?_
      rintro e w2 ⟨rfl, b2⟩
      rw [hvl]
      have HB2 := Lib.hid b2
      have hw2 : w.heap.size ≤ w2.heap.size := b2.size
      have hc2 := hc.below b2
      clear hc hv2 hvl b2
      go_wp2_with fail
      go_loopw [4, 5] (fun s i wr => ∃ k : Nat, k ≤ n ∧ i = .int .i64 k ∧ s = .int .i64 (sumK ps k) ∧ Below w2.heap.size w2 wr) (fun _ i _ => n - (intOf i).toNat)
      case atStart => exact ⟨0, Nat.zero_le _, rfl, rfl, Below.refl _ _⟩
      case round =>
        obtain ⟨k, hk, rfl, rfl, hnx⟩ := hrel
        have HB := Lib.hid hnx
        by_cases hlt : k < n
        · obtain ⟨c0, c1⟩ := hc2.below hnx k (by have := HN.out; omega)
          have hm := okS_mul HRI.out (show k < ps.length by have := HN.out; omega)
          have hs := sumK_bounds HRI.out k (by have := HN.out; omega)
          have hb16 := hi16.get k (by have := HN.out; omega)
          have HS : Hid (sumK ps (k + 1) = sumK ps k + (ps.getD k (0, 0)).1 * (ps.getD k (0, 0)).2) := Lib.hid rfl
          obtain ⟨q, hq⟩ : ∃ q, ps.getD k (0, 0) = q := ⟨_, rfl⟩
          rw [hq] at c0 c1 hb16 hm HS
          obtain ⟨x, y⟩ := q
          obtain ⟨s, hs'⟩ : ∃ s, sumK ps k = s := ⟨_, rfl⟩
          rw [hs'] at hs HS ⊢
          have hx1 : -32768 ≤ x := hb16.1
          have hx2 : x ≤ 32767 := hb16.2.1
          have hy1 : -32768 ≤ y := hb16.2.2.1
          have hy2 : y ≤ 32767 := hb16.2.2.2
          have hm1 : 0 ≤ x * y := hm.1
          have hm2 : x * y ≤ 25000 := hm.2
          have hs1 := hs.1
          have hs2 : s ≤ 200000 := by omega
          have hkn : (k : Int) < (n : Int) := by omega
          clear hq hs' hnx hm hs hb16
          go_wp2_with fail
          go_quiet (fail)
          go_wp2_with fail
          go_roundw
          case rel => exact ⟨k + 1, by omega, by go_num, by rw [HS.out], below_drewN HB.out _⟩
          case measure => simp [intOf]; omega
        · have hk' : k = ps.length := by have := HN.out; omega
          have HE := Lib.hid hk'
          clear hk' hnx hc2
          go_wp2_with fail
          go_ret2
          exact ⟨ret_two' (by rw [HR.out.1, ← HE.out]) HR.out.2.symm, blink HB2.out HB.out⟩
end Go.Proofs.Ytgbckddojfajjab
