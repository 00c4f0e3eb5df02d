/-
  The model's Decimal: the decimal numeral.
-/
import Derived.Test.YtfngcaoknahonaaDoorTs
import Derived.Test.YtfngcaoknahonaaDoorProg
import Derived.RangeFuncBox
import Derived.RangeFuncLeaves
import Derived.RangeFuncNested
import Derived.Deep.RegionHeld3
namespace Go.Proofs.YtfngcaoknahonaaDoor
open Go Go.RowKit
set_option linter.unusedVariables false

set_option maxHeartbeats 1000000 in
theorem sdec_small (n : Nat) (h : n < 10) (w : World) :
    Calls Tryd.prog 52 #[.int .i64 (n : Int)] w fun e w' => e = .returned (.string (str (dec n))) ∧ Below w.heap.size w w' := by
  have t1 : decide ((n : Int) < 10) = true := decide_eq_true (by omega)
  have t2 : Int.tmod (n : Int) 10 = (n : Int) := Int.tmod_eq_of_lt (by omega) (by omega)
  have t3 : (n : Int) % 10 = (n : Int) := Int.emod_eq_of_lt (by omega) (by omega)
  have hconv := run_convert_bytes_arg (P := Tryd.prog) (w.alloc (.cells #[.int .u8 (48 + (n : Int))] 5)) 95 5 Tryd.underlying95 Tryd.underlying5 w.heap.size 0 1 1 [48 + (n : Int)] rfl (fun i hi => by
    obtain rfl : i = 0 := by omega
    exact cell_of_row _ w.heap.size 0 _ 5 (0, 0) (heap_alloc_new w _)) 9 Tryd.underlying9
  have HD : Hid (strOfNums [48 + (n : Int)] = str (dec n)) := Lib.hid (by
    rw [dec_small h, nums_str, show (48 + (n : Int)).toNat = 48 + n from by omega])
  go_enter Tryd.func52, Tryd.ntmps52
  go_wp2_with fail
  go_ret
  exact ⟨by rw [HD.out]; rfl, (Below.refl _ _).alloc (Nat.le_refl _) _⟩

abbrev OpBox (o : Oper) : Oper := o
theorem box_op8 {P : Program} {id : Nat} {o0 o1 o2 o3 o4 o5 o6 o7 o8 : Oper} {rest : List Oper} {Q : Exit → Act → World → Prop} {a : Act} {w : World}
    (h : (Code.region id (List.toArray (o0 :: o1 :: o2 :: o3 :: o4 :: o5 :: o6 :: o7 :: OpBox o8 :: rest)) true).wp P Q a w) : (Code.region id (List.toArray (o0 :: o1 :: o2 :: o3 :: o4 :: o5 :: o6 :: o7 :: o8 :: rest)) true).wp P Q a w := h
set_option maxHeartbeats 1000000 in
set_option maxRecDepth 100000 in
theorem sdec_big (n : Nat) (h : ¬ n < 10) (hm : n ≤ 1000000000) (ih : ∀ W, Calls Tryd.prog 52 #[.int .i64 ((n / 10 : Nat) : Int)] W fun e w' => e = .returned (.string (str (dec (n / 10)))) ∧ Below W.heap.size W w') (w : World) :
    Calls Tryd.prog 52 #[.int .i64 (n : Int)] w fun e w' => e = .returned (.string (str (dec n))) ∧ Below w.heap.size w w' := by
  have t1 : decide ((n : Int) < 10) = false := decide_eq_false (by omega)
  obtain ⟨r, hr⟩ : ∃ r, (n : Int).tmod 10 = r := ⟨_, rfl⟩
  obtain ⟨m, hmq⟩ : ∃ m, IntKind.i64.wrap ((n : Int) / 10) = m := ⟨_, rfl⟩
  obtain ⟨c, hcq⟩ : ∃ c, IntKind.u8.wrap (IntKind.i64.wrap (48 + r)) = c := ⟨_, rfl⟩
  have hrv : r = (n : Int) % 10 := by rw [← hr, Int.tmod_eq_emod_of_nonneg (by omega)]
  have hcv : c = 48 + (n : Int) % 10 := by
    rw [← hcq, hrv, IntWalk.i64_in _ (by omega)]
    exact IntWalk.u8_in _ (by omega)
  have HIH : Hid (∀ W, Calls Tryd.prog 52 #[.int .i64 m] W fun e w' => e = .returned (.string (str (dec (n / 10)))) ∧ Below W.heap.size W w') := Lib.hid (fun W => by
    rw [← hmq, IntWalk.i64_in ((n : Int) / 10) (by omega), show (n : Int) / 10 = ((n / 10 : Nat) : Int) from by omega]; exact ih W)
  have hs : strOfNums [c] = str [UInt8.ofNat (48 + n % 10)] := by
    rw [hcv, nums_str, show (48 + (n : Int) % 10).toNat = 48 + n % 10 from by omega]
  have hconv : ∀ (W : World) (b : Nat), W.cell? ⟨b, 0, none⟩ = some (.int .u8 c) → (convert 95 9 (.slice (some ⟨b, 0, none⟩) 1 1)).run Tryd.prog W = .ok (.string (str [UInt8.ofNat (48 + n % 10)])) W := fun W b hcell => by
    rw [← hs]
    exact run_convert_bytes_arg (P := Tryd.prog) W 95 5 Tryd.underlying95 Tryd.underlying5 b 0 1 1 [c] rfl (fun i hi => by
      obtain rfl : i = 0 := by omega
      exact hcell) 9 Tryd.underlying9
  have hl := dec_len (n / 10)
  have HD : Hid (dec (n / 10) ++ [UInt8.ofNat (48 + n % 10)] = dec n) := Lib.hid (dec_big h).symm
  obtain ⟨t, ht⟩ : ∃ t, [UInt8.ofNat (48 + n % 10)] = t := ⟨_, rfl⟩
  obtain ⟨d, hd⟩ : ∃ d, dec (n / 10) = d := ⟨_, rfl⟩
  have htl : t.length = 1 := by rw [← ht]; rfl
  rw [ht] at hconv HD
  rw [hd] at HD hl HIH
  have hadd : ∀ W, (Op.stringOp .add (str d) (str t)).run Tryd.prog W = .ok (.string (str (dec n))) W := fun W => by
    rw [add_str _ _ W (by omega), HD.out]
  have HCV := Lib.hid hconv
  have q1 := hconv ((w.alloc (.cells #[.int .u8 c] 5)).drew) w.heap.size (cell_of_row (w.alloc _) w.heap.size 0 _ _ (0, 0) (heap_alloc_new _ _))
  clear ih hs hconv hrv hcv ht hd htl
  go_enter Tryd.func52, Tryd.ntmps52
  go_wp2_with fail
  refine box_op8 ?_
  go_region_held3 (fun u => True) (trivial) (first | (go_at_call 52; (with_reducible refine (HIH.out _).mono ?_); rintro e w2 ⟨rfl, b2⟩; have q2 := HCV.out (w2.alloc (.cells #[.int .u8 c] 5)) w2.heap.size (cell_of_row (w2.alloc _) w2.heap.size 0 _ _ (0, 0) (heap_alloc_new _ _)); (try (have q3 := HCV.out w2 w.heap.size ((b2.cell (p := ⟨w.heap.size, 0, none⟩) (by simp)).trans (cell_of_row (w.alloc _) w.heap.size 0 _ _ (0, 0) (heap_alloc_new _ _)))))))
  · go_wp2_with fail
    go_ret
    exact ⟨rfl, ((Below.refl _ _).drew.trans b2).alloc (by have := b2.size; exact this) _⟩
  · go_wp2_with fail
    go_ret
    exact ⟨rfl, ((Below.refl _ _).alloc (Nat.le_refl _) _).drew.trans (b2.mono (by simp))⟩
  · go_wp2_with fail
    go_ret
    exact ⟨rfl, ((Below.refl _ _).alloc (Nat.le_refl _) _).drew.trans (b2.mono (by simp))⟩
theorem sdec_any (n : Nat) (hm : n ≤ 1000000000) (w : World) :
    Calls Tryd.prog 52 #[.int .i64 (n : Int)] w fun e w' => e = .returned (.string (str (dec n))) ∧ Below w.heap.size w w' := by
  induction n using Nat.strongRecOn generalizing w with
  | ind n ih =>
    by_cases h : n < 10
    · exact sdec_small n h w
    · exact sdec_big n h hm (fun W => ih (n / 10) (by omega) (by omega) W) w
end Go.Proofs.YtfngcaoknahonaaDoor
