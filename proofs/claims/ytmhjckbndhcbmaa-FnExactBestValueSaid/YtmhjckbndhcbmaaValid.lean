/-
  Contracts of l00In, and of both checks whether values are valid: each answers 'vldB'.
-/
import Derived.Test.YtmhjckbndhcbmaaIn
namespace Go.Proofs.Ytmhjckbndhcbmaa
open Go Go.RowKit
set_option linter.unusedVariables false

/-- The value ahead of number i; 0 ahead of the first. -/
def prevOf (xs : List Int) (i : Nat) : Int := if i = 0 then 0 else xs.getD (i - 1) 0
/-- The first k values rise, from 1 to 500. -/
def Rise (xs : List Int) (k : Nat) : Prop := ∀ i, i < k → prevOf xs i < xs.getD i 0 ∧ xs.getD i 0 ≤ 500
theorem Rise.zero (xs : List Int) : Rise xs 0 := fun i hi => absurd hi (by omega)
theorem Rise.succ {xs : List Int} {k : Nat} (h : Rise xs k) (h1 : prevOf xs k < xs.getD k 0) (h2 : xs.getD k 0 ≤ 500) : Rise xs (k + 1) := fun i hi => by
  by_cases e : i = k
  · subst e; exact ⟨h1, h2⟩
  · exact h i (by omega)
theorem Rise.prev_nonneg {xs : List Int} {k : Nat} (h : Rise xs k) : 0 ≤ prevOf xs k ∧ prevOf xs k ≤ 500 := by
  induction k with
  | zero => simp [prevOf]
  | succ k ih =>
    have h0 := h k (by omega)
    have h1 := ih (fun i hi => h i (by omega))
    simp only [prevOf, Nat.succ_ne_zero, if_false, Nat.add_sub_cancel]
    omega
instance (xs : List Int) (k : Nat) : Decidable (Rise xs k) := inferInstanceAs (Decidable (∀ i, i < k → _))
def vldB (xs : List Int) : Bool := decide (1 ≤ xs.length ∧ xs.length ≤ 8 ∧ Rise xs xs.length)
theorem vldB_true {xs : List Int} (h1 : 1 ≤ xs.length) (h2 : xs.length ≤ 8) (h : Rise xs xs.length) : vldB xs = true := decide_eq_true ⟨h1, h2, h⟩
theorem vldB_len {xs : List Int} (h : ¬ (1 ≤ xs.length ∧ xs.length ≤ 8)) : vldB xs = false := decide_eq_false fun k => h ⟨k.1, k.2.1⟩
theorem vldB_bad {xs : List Int} {k : Nat} (hk : k < xs.length) (h : ¬ (prevOf xs k < xs.getD k 0 ∧ xs.getD k 0 ≤ 500)) : vldB xs = false := decide_eq_false fun q => h (q.2.2 k hk)
theorem vldB_spec {xs : List Int} (h : vldB xs = true) : 1 ≤ xs.length ∧ xs.length ≤ 8 ∧ Rise xs xs.length := of_decide_eq_true h

set_option maxHeartbeats 1000000 in
theorem ivalid_len (a : Option Addr) (len cap : Nat) (w : World) (h : len = 0 ∨ (8 < len ∧ len ≤ 1048576)) :
    Calls Try.prog 64 #[.slice a len cap] w fun e w' => e = .returned (.bool false) ∧ w = w' := by
  rcases h with rfl | ⟨h, h'⟩
  all_goals
    go_enter Try.func64, Try.ntmps64
    go_wp2
    go_ret
    exact ⟨rfl, rfl⟩

set_option maxHeartbeats 1000000 in
theorem ivalid_row (b len cap : Nat) (xs : List Int) (hl : xs.length = len) (h1 : 1 ≤ len) (h8 : len ≤ 8) (w : World) (hc : Cells w b xs) :
    Calls Try.prog 64 #[.slice (some ⟨b, 0, none⟩) len cap] w fun e w' => e = .returned (.bool (vldB xs)) ∧ w = w' := by
  have HL := Lib.hid hl
  clear hl
  have h1' : decide ((len : Int) < 1) = false := by simp; omega
  have h8' : decide ((8 : Int) < (len : Int)) = false := by simp; omega
  go_enter Try.func64, Try.ntmps64
  go_wp2
  go_loop [3, 16] (fun p i => ∃ k : Nat, k ≤ len ∧ i = .int .i64 k ∧ p = .int .i64 (prevOf xs k) ∧ Rise xs k) (fun _ i => len - (intOf i).toNat)
  case atStart => exact ⟨0, Nat.zero_le _, rfl, rfl, Rise.zero xs⟩
  case round =>
    obtain ⟨k, hk, rfl, rfl, hr⟩ := hrel
    have HR := Lib.hid hr
    clear hr
    by_cases hlt : k < len
    · have cx := hc k (by have := HL.out; omega)
      obtain ⟨x, hxk⟩ : ∃ x, xs.getD k 0 = x := ⟨_, rfl⟩
      rw [hxk] at cx
      have HXK := Lib.hid hxk
      have HC := Lib.hid hc
      obtain ⟨p, hp⟩ : ∃ p, prevOf xs k = p := ⟨_, rfl⟩
      rw [hp]
      have HP := Lib.hid hp
      clear hc hxk hp
      by_cases hpx : p < x
      · by_cases hx : x ≤ 500
        · have t1 : decide (x ≤ p) = false := by simp; omega
          have t2 : decide ((500 : Int) < x) = false := by simp; omega
          go_wp2
          go_round
          case rel => exact ⟨k + 1, by omega, by go_num, by rw [prevOf, if_neg (by omega), Nat.add_sub_cancel, HXK.out], HR.out.succ (by rw [HP.out, HXK.out]; omega) (by rw [HXK.out]; omega)⟩
          case measure => simp [intOf]; omega
        · have t1 : decide (x ≤ p) = false := by simp; omega
          go_wp2
          go_ret
          exact ⟨(ret_bool (vldB_bad (k := k) (by have := HL.out; omega) (by rw [HP.out, HXK.out]; omega))).symm, rfl⟩
      · go_wp2
        go_ret
        exact ⟨(ret_bool (vldB_bad (k := k) (by have := HL.out; omega) (by rw [HP.out, HXK.out]; omega))).symm, rfl⟩
    · have hk' : k = len := by omega
      have HE := Lib.hid hk'
      clear hk' hc
      go_wp2
      go_ret
      exact ⟨(ret_bool (vldB_true (by rw [HL.out]; omega) (by rw [HL.out]; omega) (by rw [HL.out, ← HE.out]; exact HR.out))).symm, rfl⟩

/-- impl.ValidValues on whatever reads as xs. -/
theorem ivalid_any (v : Value) (xs : List Int) (w : World) (hv : ReadsI w v xs) (hx : xs.length ≤ 1048576) :
    Calls Try.prog 64 #[v] w fun e w' => e = .returned (.bool (vldB xs)) ∧ w = w' := by
  obtain ⟨a, cap, rfl, h⟩ := hv
  by_cases h1 : 1 ≤ xs.length ∧ xs.length ≤ 8
  · obtain ⟨b, rfl, hc⟩ := h (fun e => by rw [e] at h1; simp at h1)
    exact ivalid_row b xs.length cap xs rfl h1.1 h1.2 w hc
  · rw [vldB_len h1]
    exact ivalid_len a xs.length cap w (by omega)

set_option maxHeartbeats 2000000 in
theorem sl01_row (b len cap : Nat) (xs : List Int) (hl : xs.length = len) (hm : len ≤ 1048576) (w : World) (hc : Cells w b xs) :
    Calls Try.prog 63 #[.slice (some ⟨b, 0, none⟩) len cap] w fun e w' => e = .returned (.bool (vldB xs)) ∧ Below w.heap.size w w' := by
  have HL := Lib.hid hl
  clear hl
  go_enter Try.func63, Try.ntmps63
  go_wp2
  go_loopw [3] (fun i wr => ∃ k : Nat, k ≤ len ∧ i = .int .i64 k ∧ Rise xs k ∧ Below w.heap.size w wr) (fun i _ => len - (intOf i).toNat)
  case atStart => exact ⟨0, Nat.zero_le _, rfl, Rise.zero xs, Below.refl _ _⟩
  case round =>
    obtain ⟨k, hk, rfl, hr, hnx⟩ := hrel
    have HR := Lib.hid hr
    have HB := Lib.hid hnx
    by_cases hlt : k < len
    · have cx := hc.below hnx k (by have := HL.out; omega)
      obtain ⟨x, hxk⟩ : ∃ x, xs.getD k 0 = x := ⟨_, rfl⟩
      rw [hxk] at cx
      have HXK := Lib.hid hxk
      have hkl : (k : Int) < (len : Int) := by omega
      have hpn := hr.prev_nonneg
      by_cases hin : 1 ≤ x ∧ x ≤ 500
      · have t1 := inB_true hin
        by_cases hk0 : k = 0
        · subst hk0
          have HC := Lib.hid hc
          clear hc hxk hr hnx hpn
          go_wp2
          go_quiet ((go_at_call 39; exact Calls.quiet_of_same (in_any _ _ _ _)))
          go_wp2
          go_roundw
          case rel => exact ⟨0 + 1, by omega, by go_num, HR.out.succ (by rw [HXK.out]; simp [prevOf]; omega) (by rw [HXK.out]; omega), below_drewN HB.out _⟩
          case measure => simp [intOf]; omega
        · have cp := hc.below hnx (k - 1) (by have := HL.out; omega)
          obtain ⟨p, hpk⟩ : ∃ p, xs.getD (k - 1) 0 = p := ⟨_, rfl⟩
          rw [hpk] at cp
          have HPK : Hid (prevOf xs k = p) := Lib.hid (by rw [prevOf, if_neg hk0, hpk])
          have HC := Lib.hid hc
          have hk1 : 0 < k := by omega
          have hk1b : decide (0 < k) = true := decide_eq_true hk1
          have hkm : ((k : Int) - 1).toNat = k - 1 := by omega
          have hkm2 : (k : Int) - 1 < (len : Int) := by omega
          have hkm3 : 0 ≤ (k : Int) - 1 := by omega
          clear hc hxk hr hnx hpk hpn
          by_cases hpx : p < x
          · have t2 : decide (x ≤ p) = false := by simp; omega
            go_wp2
            go_quiet ((go_at_call 39; exact Calls.quiet_of_same (in_any _ _ _ _)))
            go_wp2
            go_roundw
            case rel => exact ⟨k + 1, by omega, by go_num, HR.out.succ (by rw [HPK.out, HXK.out]; omega) (by rw [HXK.out]; omega), below_drewN HB.out _⟩
            case measure => simp [intOf]; omega
          · have t2 : decide (x ≤ p) = true := by simp; omega
            go_wp2
            go_quiet ((go_at_call 39; exact Calls.quiet_of_same (in_any _ _ _ _)))
            go_wp2
            go_ret
            exact ⟨(ret_bool (vldB_bad (k := k) (by have := HL.out; omega) (by rw [HPK.out, HXK.out]; omega))).symm, below_drewN HB.out _⟩
      · have t1 := inB_false hin
        have HC := Lib.hid hc
        have hpn2 := Lib.hid hpn
        clear hc hxk hr hnx hpn
        go_wp2
        go_quiet ((go_at_call 39; exact Calls.quiet_of_same (in_any _ _ _ _)))
        go_wp2
        go_ret
        exact ⟨(ret_bool (vldB_bad (k := k) (by have := HL.out; omega) (by have h := hpn2.out; rw [HXK.out]; omega))).symm, below_drewN HB.out _⟩
    · have hk' : k = len := by omega
      have HE := Lib.hid hk'
      clear hk' hc hr hnx
      go_wp2_with (go_at_call 39; refine (in_any _ _ _ _).mono ?_; rintro e w2 ⟨rfl, rfl⟩)
      go_ret
      refine ⟨ret_bool ?_, HB.out⟩
      by_cases h18 : 1 ≤ len ∧ len ≤ 8
      · rw [inB_true (by omega), vldB_true (by rw [HL.out]; omega) (by rw [HL.out]; omega) (by rw [HL.out, ← HE.out]; exact HR.out)]
      · rw [inB_false (by omega), vldB_len (by rw [HL.out]; omega)]

set_option maxHeartbeats 1000000 in
theorem sl01_zero (a : Option Addr) (cap : Nat) (w : World) :
    Calls Try.prog 63 #[.slice a 0 cap] w fun e w' => e = .returned (.bool false) ∧ Below w.heap.size w w' := by
  have t0 : inB 0 1 8 = false := inB_false (by omega)
  go_enter Try.func63, Try.ntmps63
  go_wp2
  refine wp_loop_rounds 1 ?_
  rw [rounds_succ]
  go_wp2_with (go_at_call 39; refine (in_any _ _ _ _).mono ?_; rintro e w2 ⟨rfl, rfl⟩)
  go_ret
  exact ⟨rfl, Below.refl _ _⟩

theorem sl01_any (v : Value) (xs : List Int) (w : World) (hv : ReadsI w v xs) (hx : xs.length ≤ 1048576) :
    Calls Try.prog 63 #[v] w fun e w' => e = .returned (.bool (vldB xs)) ∧ Below w.heap.size w w' := by
  obtain ⟨a, cap, rfl, h⟩ := hv
  by_cases h0 : xs = []
  · subst h0
    rw [vldB_len (by simp)]
    exact sl01_zero a cap w
  · obtain ⟨b, rfl, hc⟩ := h h0
    exact sl01_row b xs.length cap xs rfl hx w hc

end Go.Proofs.Ytmhjckbndhcbmaa
