/-
  Returns: days, buyers and items that there are; what orders and returns have in common; on both sides.
-/
import Derived.Test.YtgimpmdiilmkoaaDoorIn
namespace Go.Proofs.YtgimpmdiilmkoaaDoor
open Go Go.RowKit
set_option linter.unusedVariables false

def dayB (n : Int) : Bool := decide ((0 : Int) ≤ n ∧ n ≤ 1000)
theorem dayB_true {n : Int} (h : (0 : Int) ≤ n ∧ n ≤ 1000) : dayB n = true := decide_eq_true h
theorem dayB_false {n : Int} (h : ¬ ((0 : Int) ≤ n ∧ n ≤ 1000)) : dayB n = false := decide_eq_false h
theorem dayB_spec {n : Int} (h : dayB n = true) : (0 : Int) ≤ n ∧ n ≤ 1000 := of_decide_eq_true h
theorem dayB_in (n : Int) : dayB n = inB n 0 1000 := rfl
def knownB (b i : Int) : Bool := decide ((0 ≤ b ∧ b ≤ 8) ∧ (0 ≤ i ∧ i ≤ 11))
theorem knownB_true {b i : Int} (h : (0 ≤ b ∧ b ≤ 8) ∧ (0 ≤ i ∧ i ≤ 11)) : knownB b i = true := decide_eq_true h
theorem knownB_false {b i : Int} (h : ¬ ((0 ≤ b ∧ b ≤ 8) ∧ (0 ≤ i ∧ i ≤ 11))) : knownB b i = false := decide_eq_false h
def goodsB (b i n d : Int) : Bool := decide ((0 ≤ b ∧ b ≤ 8) ∧ (0 ≤ i ∧ i ≤ 11) ∧ (1 ≤ n ∧ n ≤ 100) ∧ (0 ≤ d ∧ d ≤ 1000))
theorem goodsB_true {b i n d : Int} (h : (0 ≤ b ∧ b ≤ 8) ∧ (0 ≤ i ∧ i ≤ 11) ∧ (1 ≤ n ∧ n ≤ 100) ∧ (0 ≤ d ∧ d ≤ 1000)) : goodsB b i n d = true := decide_eq_true h
theorem goodsB_false {b i n d : Int} (h : ¬ ((0 ≤ b ∧ b ≤ 8) ∧ (0 ≤ i ∧ i ≤ 11) ∧ (1 ≤ n ∧ n ≤ 100) ∧ (0 ≤ d ∧ d ≤ 1000))) : goodsB b i n d = false := decide_eq_false h

theorem sdays_any (n : Int) (w : World) : Calls Tryd.prog 68 #[.int .i64 n] w fun e w' => e = .returned (.bool (dayB n)) ∧ w' = w := by
  go_enter Tryd.func68, Tryd.ntmps68
  go_wp2_with (go_at_call 72; refine (in_any _ _ _ _).mono ?_; rintro e w2 ⟨rfl, hw2⟩; subst hw2)
  go_ret
  exact ⟨(ret_bool (dayB_in n)).symm, rfl⟩

theorem sknown_any (b i : Int) (w : World) : Calls Tryd.prog 51 #[.int .i64 b, .int .i64 i] w fun e w' => e = .returned (.bool (knownB b i)) ∧ w' = w := by
  by_cases h1 : 0 ≤ b ∧ b ≤ 8
  · have d1 := inB_true h1
    by_cases h2 : 0 ≤ i ∧ i ≤ 11
    · have d2 := inB_true h2
      go_enter Tryd.func51, Tryd.ntmps51
      go_wp2_with (go_at_call 72; refine (in_any _ _ _ _).mono ?_; rintro e w2 ⟨rfl, hw2⟩; subst hw2)
      go_ret
      exact ⟨(ret_bool (knownB_true ⟨h1, h2⟩)).symm, rfl⟩
    · have d2 := inB_false h2
      have HT := Lib.hid h2
      clear h2
      go_enter Tryd.func51, Tryd.ntmps51
      go_wp2_with (go_at_call 72; refine (in_any _ _ _ _).mono ?_; rintro e w2 ⟨rfl, hw2⟩; subst hw2)
      go_ret
      exact ⟨(ret_bool (knownB_false (fun h => HT.out h.2))).symm, rfl⟩
  · have d1 := inB_false h1
    have HT := Lib.hid h1
    clear h1
    go_enter Tryd.func51, Tryd.ntmps51
    go_wp2_with (go_at_call 72; refine (in_any _ _ _ _).mono ?_; rintro e w2 ⟨rfl, hw2⟩; subst hw2)
    go_ret
    exact ⟨(ret_bool (knownB_false (fun h => HT.out h.1))).symm, rfl⟩

theorem iday_any (n : Int) (w : World) : Calls Tryd.prog 89 #[.int .i64 n] w fun e w' => e = .returned (.bool (dayB n)) ∧ w' = w := by
  by_cases h1 : 0 ≤ n
  · by_cases h2 : n ≤ 1000
    · have hd : decide (n ≤ 1000) = true := decide_eq_true h2
      go_enter Tryd.func89, Tryd.ntmps89
      go_wp2
      go_ret
      exact ⟨(ret_bool (dayB_true ⟨h1, h2⟩)).symm, rfl⟩
    · have hd : decide (n ≤ 1000) = false := decide_eq_false h2
      go_enter Tryd.func89, Tryd.ntmps89
      go_wp2
      go_ret
      exact ⟨(ret_bool (dayB_false (by omega))).symm, rfl⟩
  · have hd : decide (0 ≤ n) = false := decide_eq_false h1
    go_enter Tryd.func89, Tryd.ntmps89
    go_wp2
    go_ret
    exact ⟨(ret_bool (dayB_false (by omega))).symm, rfl⟩

theorem iknown_any (b i : Int) (w : World) : Calls Tryd.prog 56 #[.int .i64 b, .int .i64 i] w fun e w' => e = .returned (.bool (knownB b i)) ∧ w' = w := by
  by_cases h1 : 0 ≤ b
  · by_cases h2 : b < 9
    · have d2 : decide (b < 9) = true := decide_eq_true h2
      by_cases h3 : 0 ≤ i
      · by_cases h4 : i < 12
        · have hd : decide (i < 12) = true := decide_eq_true h4
          go_enter Tryd.func56, Tryd.ntmps56
          go_wp2
          go_ret
          exact ⟨(ret_bool (knownB_true (by omega))).symm, rfl⟩
        · have hd : decide (i < 12) = false := decide_eq_false h4
          go_enter Tryd.func56, Tryd.ntmps56
          go_wp2
          go_ret
          exact ⟨(ret_bool (knownB_false (by omega))).symm, rfl⟩
      · have hd : decide (0 ≤ i) = false := decide_eq_false h3
        go_enter Tryd.func56, Tryd.ntmps56
        go_wp2
        go_ret
        exact ⟨(ret_bool (knownB_false (by omega))).symm, rfl⟩
    · have hd : decide (b < 9) = false := decide_eq_false h2
      go_enter Tryd.func56, Tryd.ntmps56
      go_wp2
      go_ret
      exact ⟨(ret_bool (knownB_false (by omega))).symm, rfl⟩
  · have hd : decide (0 ≤ b) = false := decide_eq_false h1
    go_enter Tryd.func56, Tryd.ntmps56
    go_wp2
    go_ret
    exact ⟨(ret_bool (knownB_false (by omega))).symm, rfl⟩

set_option maxHeartbeats 4000000 in
theorem iareV_any (b i n d : Int) (hb : -128 ≤ b ∧ b ≤ 127) (hi : -128 ≤ i ∧ i ≤ 127) (hd : -32768 ≤ d ∧ d ≤ 32767) (w : World) : Calls Tryd.prog 112 #[.agg #[.int .i8 b, .int .i8 i, .int .i16 n, .int .i16 d]] w fun e w' => e = .returned (.bool (goodsB b i n d)) ∧ w' = w.alloc (.cells #[.int .i8 b, .int .i8 i, .int .i16 n, .int .i16 d] 92) := by
  obtain ⟨hb1, hb2⟩ := hb
  obtain ⟨hi1, hi2⟩ := hi
  obtain ⟨hd1, hd2⟩ := hd
  by_cases h1 : (0 ≤ b ∧ b ≤ 8) ∧ (0 ≤ i ∧ i ≤ 11)
  · have k1 := knownB_true h1
    by_cases h2 : 1 ≤ n
    · have d2 : decide (1 ≤ n) = true := decide_eq_true h2
      by_cases h3 : n ≤ 100
      · have d3 : decide (n ≤ 100) = true := decide_eq_true h3
        by_cases h4 : (0 : Int) ≤ d ∧ d ≤ 1000
        · have k4 := dayB_true h4
          have HG := Lib.hid (goodsB_true (b := b) (i := i) (n := n) (d := d) ⟨h1.1, h1.2, ⟨h2, h3⟩, h4⟩)
          clear h1 h4
          go_enter Tryd.func112, Tryd.ntmps112
          go_wp2_with (first | (go_at_call 56; refine (iknown_any _ _ _).mono ?_; rintro e w2 ⟨rfl, hw2⟩; subst hw2) | (go_at_call 89; refine (iday_any _ _).mono ?_; rintro e w2 ⟨rfl, hw2⟩; subst hw2))
          go_ret
          exact ⟨(ret_bool HG.out).symm, rfl⟩
        · have k4 := dayB_false h4
          have HG := Lib.hid (goodsB_false (b := b) (i := i) (n := n) (d := d) (fun h => h4 h.2.2.2))
          clear h1 h4
          go_enter Tryd.func112, Tryd.ntmps112
          go_wp2_with (first | (go_at_call 56; refine (iknown_any _ _ _).mono ?_; rintro e w2 ⟨rfl, hw2⟩; subst hw2) | (go_at_call 89; refine (iday_any _ _).mono ?_; rintro e w2 ⟨rfl, hw2⟩; subst hw2))
          go_ret
          exact ⟨(ret_bool HG.out).symm, rfl⟩
      · have d3 : decide (n ≤ 100) = false := decide_eq_false h3
        have HG := Lib.hid (goodsB_false (b := b) (i := i) (n := n) (d := d) (fun h => h3 h.2.2.1.2))
        clear h1 h3
        go_enter Tryd.func112, Tryd.ntmps112
        go_wp2_with (first | (go_at_call 56; refine (iknown_any _ _ _).mono ?_; rintro e w2 ⟨rfl, hw2⟩; subst hw2) | (go_at_call 89; refine (iday_any _ _).mono ?_; rintro e w2 ⟨rfl, hw2⟩; subst hw2))
        go_ret
        exact ⟨(ret_bool HG.out).symm, rfl⟩
    · have d2 : decide (1 ≤ n) = false := decide_eq_false h2
      have HG := Lib.hid (goodsB_false (b := b) (i := i) (n := n) (d := d) (fun h => h2 h.2.2.1.1))
      clear h1 h2
      go_enter Tryd.func112, Tryd.ntmps112
      go_wp2_with (first | (go_at_call 56; refine (iknown_any _ _ _).mono ?_; rintro e w2 ⟨rfl, hw2⟩; subst hw2) | (go_at_call 89; refine (iday_any _ _).mono ?_; rintro e w2 ⟨rfl, hw2⟩; subst hw2))
      go_ret
      exact ⟨(ret_bool HG.out).symm, rfl⟩
  · have k1 := knownB_false h1
    have HG := Lib.hid (goodsB_false (b := b) (i := i) (n := n) (d := d) (fun h => h1 ⟨h.1, h.2.1⟩))
    clear h1
    go_enter Tryd.func112, Tryd.ntmps112
    go_wp2_with (first | (go_at_call 56; refine (iknown_any _ _ _).mono ?_; rintro e w2 ⟨rfl, hw2⟩; subst hw2) | (go_at_call 89; refine (iday_any _ _).mono ?_; rintro e w2 ⟨rfl, hw2⟩; subst hw2))
    go_ret
    exact ⟨(ret_bool HG.out).symm, rfl⟩

set_option maxHeartbeats 4000000 in
theorem isold_any (b i n p d : Int) (w : World) : Calls Tryd.prog 90 #[.agg #[.int .i8 b, .int .i8 i, .int .i16 n, .int .i16 p, .int .i16 d]] w fun e w' => e = .returned (.agg #[.int .i8 b, .int .i8 i, .int .i16 n, .int .i16 d, .int .i16 p]) ∧ Below w.heap.size w w' := by
  go_enter Tryd.func90, Tryd.ntmps90
  go_wp2_with fail
  exact bodyPost_ret (v := .agg #[.int .i8 b, .int .i8 i, .int .i16 n, .int .i16 d, .int .i16 p]) (by simp [results, Tryd.results90, go_sem]) rfl ⟨rfl, by repeat (first | exact Below.refl _ _ | refine Below.drew ?_ | refine Below.setCell ?_ (by first | (simp; done) | (simp; omega) | omega) _ | refine Below.alloc ?_ (by first | (simp; done) | (simp; omega) | omega) _)⟩
set_option maxHeartbeats 4000000 in
theorem isent_any (b i n d : Int) (w : World) : Calls Tryd.prog 91 #[.agg #[.int .i8 b, .int .i8 i, .int .i16 n, .int .i16 d]] w fun e w' => e = .returned (.agg #[.int .i8 b, .int .i8 i, .int .i16 n, .int .i16 d]) ∧ Below w.heap.size w w' := by
  go_enter Tryd.func91, Tryd.ntmps91
  go_wp2_with fail
  exact bodyPost_ret (v := .agg #[.int .i8 b, .int .i8 i, .int .i16 n, .int .i16 d]) (by simp [results, Tryd.results91, go_sem]) rfl ⟨rfl, by repeat (first | exact Below.refl _ _ | refine Below.drew ?_ | refine Below.setCell ?_ (by first | (simp; done) | (simp; omega) | omega) _ | refine Below.alloc ?_ (by first | (simp; done) | (simp; omega) | omega) _)⟩
theorem field_goods (b i n d : Int) (w : World) : (Instr.field 96 (.agg #[.int .i8 b, .int .i8 i, .int .i16 n, .int .i16 d]) 0).run Tryd.prog w = .ok (.agg #[.int .i8 b, .int .i8 i, .int .i16 n, .int .i16 d]) w := by kernel_rfl
end Go.Proofs.YtgimpmdiilmkoaaDoor
