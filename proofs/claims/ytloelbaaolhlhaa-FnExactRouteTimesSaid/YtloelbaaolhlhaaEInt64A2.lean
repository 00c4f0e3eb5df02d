/-
  Contracts of the laws' helpers that compare rows of [2]int64, where both are the same.
-/
import Derived.Test.YtloelbaaolhlhaaRInt64A2
import Derived.Test.YtloelbaaolhlhaaBlk
import Derived.BigQuiet
namespace Go.Proofs.Ytloelbaaolhlhaa
open Go Go.RowKit
set_option linter.unusedVariables false

set_option maxHeartbeats 1000000 in
set_option maxRecDepth 100000 in
theorem eqInt64A2_eq (x0 x1 : Int) (w : World) :
    Calls Try.prog 71 #[.agg #[.int .i64 x0, .int .i64 x1], .agg #[.int .i64 x0, .int .i64 x1]] w fun e w' => e = .returned (.bool true) ∧ Below w.heap.size w w' := by
  have b1 : Below w.heap.size w ((w.alloc (.cells #[.int .i64 x0, .int .i64 x1] 102)).alloc (.cells #[.int .i64 x0, .int .i64 x1] 102)) := ((Below.refl _ _).alloc (Nat.le_refl _) _).alloc (by simp) _
  have X1 : BlkA ((w.alloc (.cells #[.int .i64 x0, .int .i64 x1] 102)).alloc (.cells #[.int .i64 x0, .int .i64 x1] 102)) w.heap.size 102 #[.int .i64 x0, .int .i64 x1] := (BlkA.new rfl _ _).alloc _
  have Y1 : BlkA ((w.alloc (.cells #[.int .i64 x0, .int .i64 x1] 102)).alloc (.cells #[.int .i64 x0, .int .i64 x1] 102)) (w.heap.size + 1) 102 #[.int .i64 x0, .int .i64 x1] := BlkA.new (by simp) _ _
  obtain ⟨W1, hW⟩ : ∃ W, ((w.alloc (.cells #[.int .i64 x0, .int .i64 x1] 102)).alloc (.cells #[.int .i64 x0, .int .i64 x1] 102)) = W := ⟨_, rfl⟩
  rw [hW] at b1 X1 Y1
  have HW := Lib.hid hW
  have HX := Lib.hid X1
  have HY := Lib.hid Y1
  have HB := Lib.hid b1
  clear hW b1 X1 Y1
  go_enter Try.func71, Try.ntmps71
  go_wp2_with fail
  rw [HW.out]
  go_loopw [5] (fun i wr => ∃ k : Nat, k ≤ 2 ∧ i = .int .i64 k ∧ Below W1.heap.size W1 wr) (fun i _ => 2 - (intOf i).toNat)
  case atStart => exact ⟨0, by omega, rfl, Below.refl _ _⟩
  case round =>
    obtain ⟨k, hk, rfl, hnx⟩ := hrel
    have HN := Lib.hid hnx
    have a0 := (HX.out.below hnx).at 0
    have a1 := (HX.out.below hnx).at 1
    have c0 := (HY.out.below hnx).at 0
    have c1 := (HY.out.below hnx).at 1
    clear hnx
    match k, hk with
    | 0, _ =>
      go_wp2_with fail
      go_quiet (fail)
      go_wp2_with fail
      go_roundw
      case rel => exact ⟨1, by omega, by go_num, below_drewN HN.out _⟩
      case measure => simp [intOf]
    | 1, _ =>
      go_wp2_with fail
      go_quiet (fail)
      go_wp2_with fail
      go_roundw
      case rel => exact ⟨2, by omega, by go_num, below_drewN HN.out _⟩
      case measure => simp [intOf]
    | 2, _ =>
      go_wp2_with fail
      go_ret
      exact ⟨rfl, blink HB.out HN.out⟩

set_option maxHeartbeats 2000000 in
set_option maxRecDepth 100000 in
theorem eqInt64A2S_row (b c len cap cap2 : Nat) (xs : List (Int × Int)) (hx : xs.length = len) (hm : len ≤ 1048576) (w : World) (hcx : CellsA w b xs) (hcy : CellsA w c xs) :
    Calls Try.prog 27 #[.slice (some ⟨b, 0, none⟩) len cap, .slice (some ⟨c, 0, none⟩) len cap2] w fun e w' => e = .returned (.bool true) ∧ Below w.heap.size w w' := by
  have HX := Lib.hid hx
  go_enter Try.func27, Try.ntmps27
  go_wp2_with fail
  go_loopw [5] (fun i wr => ∃ k : Nat, k ≤ len ∧ i = .int .i64 k ∧ Below w.heap.size w wr) (fun i _ => len - (intOf i).toNat)
  case atStart => exact ⟨0, Nat.zero_le _, rfl, Below.refl _ _⟩
  case round =>
    obtain ⟨k, hk, rfl, hnx⟩ := hrel
    have HB := Lib.hid hnx
    by_cases hlt : k < len
    · obtain ⟨c0, c1⟩ := hcx.below hnx k (by omega)
      obtain ⟨d0, d1⟩ := hcy.below hnx k (by omega)
      obtain ⟨p, hp⟩ : ∃ p, xs.getD k (0, 0) = p := ⟨_, rfl⟩
      rw [hp] at c0 c1 d0 d1
      obtain ⟨x0, x1⟩ := p
      have HCX := Lib.hid hcx
      have HCY := Lib.hid hcy
      have hwr : w.heap.size ≤ wr.heap.size := hnx.size
      have hkl : (k : Int) < (len : Int) := by omega
      clear hcx hcy hx hnx hp
      go_wp2_with fail
      go_still_tail 8, (by kernel_rfl)
      change wpList _ _ _ _ _ wr.drew
      have HBD : Hid (Below w.heap.size w wr.drew) := Lib.hid HB.out.drew
      have hwd : w.heap.size ≤ wr.drew.heap.size := hwr
      generalize wr.drew = wd at HBD hwd ⊢
      go_wp2_with fail
      refine (eqInt64A2_eq x0 x1 _).mono ?_
      rintro e w2 ⟨rfl, b2⟩
      have HB2 : Hid (Below w.heap.size w w2) := Lib.hid (HBD.out.trans (b2.mono hwd))
      clear b2
      go_wp2_with fail
      go_roundw
      case rel => exact ⟨k + 1, by omega, by go_num, HB2.out⟩
      case measure => simp [intOf]; omega
    · clear hcx hcy hx hnx
      have hke : k = len := by omega
      go_wp2_with fail
      go_ret
      exact ⟨rfl, HB.out⟩

set_option maxHeartbeats 1000000 in
theorem eqInt64A2S_empty (a c : Option Addr) (cap cap2 : Nat) (w : World) :
    Calls Try.prog 27 #[.slice a 0 cap, .slice c 0 cap2] w fun e w' => e = .returned (.bool true) ∧ Below w.heap.size w w' := by
  go_enter Try.func27, Try.ntmps27
  go_wp2
  refine wp_loop_rounds 1 ?_
  rw [rounds_succ]
  go_wp2
  go_ret
  exact ⟨rfl, Below.refl _ _⟩

theorem eqInt64A2S_eq (v u : Value) (xs : List (Int × Int)) (w : World) (hv : ReadsA w v xs) (hu : ReadsA w u xs) (hx : xs.length ≤ 1048576) :
    Calls Try.prog 27 #[v, u] w fun e w' => e = .returned (.bool true) ∧ Below w.heap.size w w' := by
  obtain ⟨a, cap, rfl, ha⟩ := hv
  obtain ⟨c, cap2, rfl, hc⟩ := hu
  by_cases h0 : xs = []
  · subst h0
    exact eqInt64A2S_empty a c cap cap2 w
  · obtain ⟨b1, rfl, c1⟩ := ha h0
    obtain ⟨b2, rfl, c2⟩ := hc h0
    exact eqInt64A2S_row b1 b2 xs.length cap cap2 xs rfl hx w c1 c2
end Go.Proofs.Ytloelbaaolhlhaa
