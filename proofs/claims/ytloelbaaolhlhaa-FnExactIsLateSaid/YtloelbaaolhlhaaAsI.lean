/-
  The hours of a set, ascending.
-/
import Derived.Test.YtloelbaaolhlhaaArM
import Derived.Test.YtloelbaaolhlhaaNtL
namespace Go.Proofs.Ytloelbaaolhlhaa
open Go Go.RowKit
set_option linter.unusedVariables false

/-- The first k hours for which p holds. -/
def hourTo (p : Nat → Bool) : Nat → List Int
  | 0 => []
  | k + 1 => if p k = true then hourTo p k ++ [(k : Int)] else hourTo p k
theorem hourTo_len (p : Nat → Bool) (k : Nat) : (hourTo p k).length ≤ k := by
  induction k with
  | zero => exact Nat.le_refl _
  | succ k ih =>
    rw [hourTo]; split
    · simp; omega
    · omega
theorem hourTo_yes {p : Nat → Bool} {k : Nat} (h : p k = true) : hourTo p (k + 1) = hourTo p k ++ [(k : Int)] := if_pos h
theorem hourTo_no {p : Nat → Bool} {k : Nat} (h : p k = false) : hourTo p (k + 1) = hourTo p k := if_neg (by rw [h]; simp)
theorem hourTo_congr {p q : Nat → Bool} {k : Nat} (h : ∀ i, i < k → p i = q i) : hourTo p k = hourTo q k := by
  induction k with
  | zero => rfl
  | succ k ih => rw [hourTo, hourTo, ih (fun i hi => h i (by omega)), h k (by omega)]

set_option maxHeartbeats 4000000 in
set_option maxRecDepth 100000 in
theorem iasc_any (N : Nat) (w : World) :
    Calls Try.prog 110 #[hv N] w fun e w' => ∃ v, e = .returned v ∧ OwnI w.heap.size w' v (hourTo (fun h => N.testBit h) 301) ∧ Below w.heap.size w w' := by
  obtain ⟨i0, hi, hz0, hz1, hz2⟩ := info_parts info_i64
  have hb0 : Below w.heap.size w (w.alloc (.cells (hw N) 85)) := (Below.refl _ _).alloc (Nat.le_refl _) _
  have BX : BlkH (w.alloc (.cells (hw N) 85)) w.heap.size N := BlkA.new rfl _ _
  go_enter Try.func110, Try.ntmps110
  go_wp2_with fail
  obtain ⟨W1, hW⟩ : ∃ W, w.alloc (.cells (hw N) 85) = W := ⟨_, rfl⟩
  rw [hW] at hb0 BX
  have hW' : w.alloc (.cells #[.int .u64 (wd N 0 : Nat), .int .u64 (wd N 1 : Nat), .int .u64 (wd N 2 : Nat), .int .u64 (wd N 3 : Nat), .int .u64 (wd N 4 : Nat)] 85) = W1 := hW
  rw [hW']
  have HB0 := Lib.hid hb0
  have HBX := Lib.hid BX
  clear hW hW' hb0 BX
  go_loopw [3, 5] (fun g i wr => ∃ k : Nat, k ≤ 301 ∧ i = .int .i64 k ∧ wr.ownsRow (w.heap.size + 1) 2 1 g (hourTo (fun h => N.testBit h) k).length ((hourTo (fun h => N.testBit h) k).map (Value.int .i64)) ∧ BlkH wr w.heap.size N ∧ Below w.heap.size w wr) (fun _ i _ => 301 - (intOf i).toNat)
  case atStart => exact ⟨0, by omega, rfl, World.ownsRow_nil _ _ _ _, HBX.out, HB0.out⟩
  case round =>
    obtain ⟨k, hk, rfl, hown, bx, hnx⟩ := hrel
    have hww : w.heap.size < wr.heap.size := BlkA.lt bx
    have HN0 := Lib.hid hnx
    have HBX2 := Lib.hid bx
    have hkl := hourTo_len (fun h => N.testBit h) k
    obtain ⟨x0, x1, x2, x3, x4⟩ := bx.cells
    by_cases hlt : k < 301
    · have t0 : decide ((k : Int) < 301) = true := decide_eq_true (by omega)
      have HYES : Hid (N.testBit k = true → hourTo (fun h => N.testBit h) (k + 1) = hourTo (fun h => N.testBit h) k ++ [(k : Int)]) := Lib.hid (fun h => hourTo_yes (p := fun h => N.testBit h) h)
      have HNO : Hid (N.testBit k = false → hourTo (fun h => N.testBit h) (k + 1) = hourTo (fun h => N.testBit h) k) := Lib.hid (fun h => hourTo_no (p := fun h => N.testBit h) h)
      obtain ⟨ls, hls⟩ : ∃ ls, hourTo (fun h => N.testBit h) k = ls := ⟨_, rfl⟩
      rw [hls] at hown hkl HYES HNO
      have HO := Lib.hid hown
      clear hls hnx bx hown
      go_wp2_with fail
      refine (ihbit_any N k (by omega) wr).mono ?_
      rintro e w2 ⟨rfl, b2⟩
      have HB2 := Lib.hid (blink HN0.out b2)
      have HX2 := Lib.hid (BlkA.below HBX2.out b2)
      have hown := ownRow_below HO.out b2
      have hw2 : w.heap.size < w2.heap.size := BlkA.lt HX2.out
      have hwz : w.heap.size ≤ w2.heap.size := Nat.le_of_lt hw2
      clear b2 x0 x1 x2 x3 x4
      obtain ⟨bv, hbv⟩ : ∃ bv, N.testBit k = bv := ⟨_, rfl⟩
      rw [hbv]
      cases bv with
      | true =>
        have HG := Lib.hid (HYES.out hbv)
        clear hbv HYES HNO
        go_wp2_with (at_builtin; refine wpList_append_own _ rfl _ _ 30 rfl (w.heap.size + 1) 2 i0 (.int .i64 0) 1 8 Try.underlying30 hi hz0 hz1 hz2 rfl (by decide) _ _ _ rfl (hown.alloc _) ⟨w2.heap.size, 0, none⟩ 1 1 [.int .i64 k] rfl rfl (cell_one_new _ _ _) (ints_oneCell .i64 [(k : Int)]) ?c3 ?c4 ?c5 ?_)
        case c3 => unfold maxLen; omega
        case c4 => omega
        case c5 => first | omega | (simp; omega)
        intro v' w3 hown' hgrow _
        have HO' : Hid (w3.ownsRow (w.heap.size + 1) 2 1 v' (hourTo (fun h => N.testBit h) (k + 1)).length ((hourTo (fun h => N.testBit h) (k + 1)).map (Value.int .i64))) := Lib.hid (by
          rw [HG.out, List.map_append, List.length_append]; exact hown')
        have HB' : Hid (Below w.heap.size w w3) := Lib.hid (((HB2.out.alloc hwz _)).grown hgrow (by simp; omega) (fun j hj => Nat.le_of_succ_le (hown.lt j hj).1))
        have HX' : Hid (BlkH w3 w.heap.size N) := Lib.hid ((hgrow.block _ (by simp; omega) (fun e => by have := (hown.lt _ e.symm).1; omega)).trans (BlkA.alloc HX2.out _))
        clear hown' hgrow hown
        go_wp2
        go_roundw
        case rel => exact ⟨k + 1, by omega, by go_num, HO'.out, HX'.out, HB'.out⟩
        case measure => simp [intOf]; omega
      | false =>
        have HG := Lib.hid (HNO.out hbv)
        have HO2 := Lib.hid hown
        clear hbv HYES HNO hown
        go_wp2_with fail
        go_roundw
        case rel => exact ⟨k + 1, by omega, by go_num, by rw [HG.out]; exact HO2.out, HX2.out, HB2.out⟩
        case measure => simp [intOf]; omega
    · have hk' : k = 301 := by omega
      have t0 : decide ((k : Int) < 301) = false := decide_eq_false (by omega)
      have HO2 : Hid (OwnI (w.heap.size + 1) wr _ (hourTo (fun h => N.testBit h) 301)) := Lib.hid (by rw [← hk']; exact hown)
      clear hk' hown hnx bx x0 x1 x2 x3 x4
      go_wp2_with fail
      go_ret
      exact ⟨_, rfl, HO2.out.mono (Nat.le_succ _), HN0.out⟩
end Go.Proofs.Ytloelbaaolhlhaa
