/-
  Contracts of the laws' helpers that compare Line and rows of them, where both are the same.
-/
import Derived.Test.YtocogipejchneaaRLine
namespace Go.Proofs.Ytocogipejchneaa
open Go Go.RowKit
set_option linter.unusedVariables false

set_option maxHeartbeats 1000000 in
theorem eqLine_eq (x0 x1 x2 x3 : Int) (w : World) :
    Calls Try.prog 26 #[.agg #[.int .i8 x0, .int .i16 x1, .int .i32 x2, .int .i32 x3], .agg #[.int .i8 x0, .int .i16 x1, .int .i32 x2, .int .i32 x3]] w fun e w' => e = .returned (.bool true) ∧ Below w.heap.size w w' := by
  go_enter Try.func26, Try.ntmps26
  go_wp2
  go_ret
  exact ⟨rfl, by repeat (first | exact Below.refl _ _ | refine Below.drew ?_ | refine Below.setCell ?_ (by first | (simp; done) | (simp; omega)) _ | refine Below.alloc ?_ (by first | (simp; done) | (simp; omega)) _)⟩

set_option maxHeartbeats 2000000 in
set_option maxRecDepth 100000 in
theorem eqLineS_row (b c len cap cap2 : Nat) (xs : List (Int × Int × Int × Int)) (hx : xs.length = len) (hm : len ≤ 1048576) (w : World) (hcx : CellsL w b xs) (hcy : CellsL w c xs) :
    Calls Try.prog 10 #[.slice (some ⟨b, 0, none⟩) len cap, .slice (some ⟨c, 0, none⟩) len cap2] w fun e w' => e = .returned (.bool true) ∧ Below w.heap.size w w' := by
  have HX := Lib.hid hx
  go_enter Try.func10, Try.ntmps10
  go_wp2_with fail
  go_loopw [5] (fun i wr => ∃ k : Nat, k ≤ len ∧ i = .int .i64 k ∧ Below w.heap.size w wr) (fun i _ => len - (intOf i).toNat)
  case atStart => exact ⟨0, Nat.zero_le _, rfl, Below.refl _ _⟩
  case round =>
    obtain ⟨k, hk, rfl, hnx⟩ := hrel
    have HB := Lib.hid hnx
    by_cases hlt : k < len
    · obtain ⟨c0, c1, c2, c3⟩ := hcx.below hnx k (by omega)
      obtain ⟨d0, d1, d2, d3⟩ := hcy.below hnx k (by omega)
      obtain ⟨p, hp⟩ : ∃ p, xs.getD k (0, 0, 0, 0) = p := ⟨_, rfl⟩
      rw [hp] at c0 c1 c2 c3 d0 d1 d2 d3
      obtain ⟨x0, x1, x2, x3⟩ := p
      have HCX := Lib.hid hcx
      have HCY := Lib.hid hcy
      have hwr : w.heap.size ≤ wr.heap.size := hnx.size
      have hkl : (k : Int) < (len : Int) := by omega
      clear hcx hcy hx hnx hp
      go_wp2_with fail
      go_still_tail 8, (by kernel_rfl)
      change wpList _ _ _ _ _ wr.drew
      have HBD : Hid (Below w.heap.size w wr.drew) := Lib.hid HB.out.drew
      have hwd : w.heap.size ≤ wr.drew.heap.size := hwr
      generalize wr.drew = wd at HBD hwd ⊢
      go_wp2_with fail
      refine (eqLine_eq x0 x1 x2 x3 _).mono ?_
      rintro e w2 ⟨rfl, b2⟩
      have HB2 : Hid (Below w.heap.size w w2) := Lib.hid (HBD.out.trans (b2.mono hwd))
      clear b2
      go_wp2_with fail
      go_roundw
      case rel => exact ⟨k + 1, by omega, by go_num, HB2.out⟩
      case measure => simp [intOf]; omega
    · clear hcx hcy hx hnx
      have hke : k = len := by omega
      go_wp2_with fail
      go_ret
      exact ⟨rfl, HB.out⟩

set_option maxHeartbeats 1000000 in
theorem eqLineS_empty (a c : Option Addr) (cap cap2 : Nat) (w : World) :
    Calls Try.prog 10 #[.slice a 0 cap, .slice c 0 cap2] w fun e w' => e = .returned (.bool true) ∧ Below w.heap.size w w' := by
  go_enter Try.func10, Try.ntmps10
  go_wp2
  refine wp_loop_rounds 1 ?_
  rw [rounds_succ]
  go_wp2
  go_ret
  exact ⟨rfl, Below.refl _ _⟩

theorem eqLineS_eq (v u : Value) (xs : List (Int × Int × Int × Int)) (w : World) (hv : ReadsL w v xs) (hu : ReadsL w u xs) (hx : xs.length ≤ 1048576) :
    Calls Try.prog 10 #[v, u] w fun e w' => e = .returned (.bool true) ∧ Below w.heap.size w w' := by
  obtain ⟨a, cap, rfl, ha⟩ := hv
  obtain ⟨c, cap2, rfl, hc⟩ := hu
  by_cases h0 : xs = []
  · subst h0
    exact eqLineS_empty a c cap cap2 w
  · obtain ⟨b1, rfl, c1⟩ := ha h0
    obtain ⟨b2, rfl, c2⟩ := hc h0
    exact eqLineS_row b1 b2 xs.length cap cap2 xs rfl hx w c1 c2
end Go.Proofs.Ytocogipejchneaa
