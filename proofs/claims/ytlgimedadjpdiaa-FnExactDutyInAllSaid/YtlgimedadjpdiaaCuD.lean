/-
  The duty of a lot and of a form, on both sides.
-/
import Derived.Test.YtlgimedadjpdiaaCuT
import Derived.Deep.RegionHeld3
import Derived.StillTailTactics
namespace Go.Proofs.Ytlgimedadjpdiaa
open Go Go.RowKit
set_option linter.unusedVariables false

theorem smax_any (a b : Int) (w : World) : Calls Try.prog 56 #[.int .i64 a, .int .i64 b] w fun e w' => e = .returned (.int .i64 (mxI a b)) ∧ w' = w := by
  by_cases h : b < a
  · have d : decide (b < a) = true := decide_eq_true h
    have H := Lib.hid h
    go_enter Try.func56, Try.ntmps56
    go_wp2
    go_ret
    exact ⟨ret_int (mxI_left (by have := H.out; omega)).symm, rfl⟩
  · have d : decide (b < a) = false := decide_eq_false h
    have H := Lib.hid h
    clear h
    go_enter Try.func56, Try.ntmps56
    go_wp2
    go_ret
    exact ⟨ret_int (mxI_right (by have := H.out; omega)).symm, rfl⟩
theorem sround_q (am num den how : Int) (ha0 : 0 ≤ am) (ha1 : am ≤ 1000000000) (hn0 : 0 ≤ num) (hn1 : num ≤ 1000) (hd0 : 1 ≤ den) (hd1 : den ≤ 1000) (hh : isHow how = true) (w : World) :
    Calls Try.prog 57 #[.int .i64 am, .int .i64 num, .int .i64 den, .int .i64 how] w fun e w' => e = .returned (.int .i64 (roundR am num den how)) ∧ w' = w :=
  (sround_any am num den how ha0 ha1 hn0 hn1 hd0 hd1 hh w).mono fun e w' ⟨h, hw⟩ => ⟨h, hw.symm⟩
theorem charge_eq (c0 c1 c2 c3 v g how : Int) : chargeR (c0, c1, c2, c3) v g how = mxI (roundR v c0 c1 how + c2 * g) c3 := rfl

set_option maxHeartbeats 400000 in
set_option maxRecDepth 100000 in
theorem scharge_any (c0 c1 c2 c3 v g how : Int) (hc : okC (c0, c1, c2, c3)) (hv : 0 ≤ v ∧ v ≤ 10000000) (hg : 0 ≤ g ∧ g ≤ 10000000) (hh : isHow how = true) (w : World) :
    Calls Try.prog 42 #[.agg #[.int .i16 c0, .int .i16 c1, .int .i16 c2, .int .i32 c3], .int .i64 v, .int .i64 g, .int .i64 how] w fun e w' => e = .returned (.int .i64 (chargeR (c0, c1, c2, c3) v g how)) ∧ Below w.heap.size w w' := by
  unfold okC at hc
  simp only at hc
  obtain ⟨⟨n0, n1⟩, m0, m1, ⟨g0, g1⟩, e0, e1⟩ := hc
  obtain ⟨v0, v1⟩ := hv
  obtain ⟨h0, h1⟩ := hg
  have hr := roundR_in (how := how) v0 v1 m0 (show c0 ≤ 1000 by omega) n0
  rw [charge_eq]
  obtain ⟨rr, hrr⟩ : ∃ r, roundR v c0 c1 how = r := ⟨_, rfl⟩
  have HRR := Lib.hid hrr
  rw [hrr] at hr ⊢
  obtain ⟨r0, r1⟩ := hr
  obtain ⟨p, hp⟩ : ∃ p, c2 * g = p := ⟨_, rfl⟩
  have hpi := prod_in g0 g1 h0 h1
  rw [hp] at hpi ⊢
  obtain ⟨p0, p1⟩ := hpi
  have HRD : Hid (∀ W, Calls Try.prog 57 #[.int .i64 v, .int .i64 c0, .int .i64 c1, .int .i64 how] W fun e w' => e = .returned (.int .i64 rr) ∧ w' = W) := Lib.hid (fun W => by rw [← hrr]; exact sround_q v c0 c1 how v0 (by omega) m0 (by omega) n0 n1 hh W)
  clear hrr
  go_enter Try.func42, Try.ntmps42
  go_wp2_with fail
  go_quiet ((first | (go_at_call 57; exact Calls.quiet_of_same (HRD.out _)) | (go_at_call 56; exact Calls.quiet_of_same (smax_any _ _ _))))
  go_wp2_with fail
  go_ret
  exact ⟨rfl, below_drewN ((Below.refl _ _).alloc (Nat.le_refl _) _) _⟩

set_option maxHeartbeats 4000000 in
set_option maxRecDepth 100000 in
theorem ipart_any (c0 c1 c2 c3 v : Int) (hc : okC (c0, c1, c2, c3)) (hv : 0 ≤ v ∧ v ≤ 10000000) (w : World) :
    Calls Try.prog 46 #[.agg #[.int .i16 c0, .int .i16 c1, .int .i16 c2, .int .i32 c3], .int .i64 v] w fun e w' => e = .returned (.agg #[.int .i64 (v * c0 / c1), .int .i64 (v * c0 % c1), .int .i64 c1]) ∧ Below w.heap.size w w' := by
  unfold okC at hc
  simp only at hc
  obtain ⟨⟨n0, n1⟩, m0, m1, ⟨g0, g1⟩, e0, e1⟩ := hc
  obtain ⟨v0, v1⟩ := hv
  go_enter Try.func46, Try.ntmps46
  go_wp2_with fail
  refine (ishare_any v c0 c1 v0 (by omega) m0 (by omega) n0 n1 _).mono ?_
  rintro e w2 ⟨rfl, b2⟩
  have q2 : BlkA w2 (w.heap.size + 1) 82 #[.int .i64 0, .int .i64 0, .int .i64 0] := (BlkA.new (by simp) _ _).below b2
  have f0 := q2.frozen 0
  have f1 := q2.frozen 1
  have f2 := q2.frozen 2
  have p0 : w2.cell? ⟨w.heap.size + 1, 0, none⟩ = some (.int .i64 0) := q2.at 0
  have p1 : w2.cell? ⟨w.heap.size + 1, 1, none⟩ = some (.int .i64 0) := q2.at 1
  have p2 : w2.cell? ⟨w.heap.size + 1, 2, none⟩ = some (.int .i64 0) := q2.at 2
  have hB : Below w.heap.size w w2 := (((Below.refl _ _).alloc (Nat.le_refl _) _).alloc (by simp) _).trans (b2.mono (by simp; omega))
  clear b2
  obtain ⟨WZ, hWZ⟩ : ∃ W, ((w2.setCell ⟨w.heap.size + 1, 0, none⟩ (.int .i64 (v * c0 / c1))).setCell ⟨w.heap.size + 1, 1, none⟩ (.int .i64 (v * c0 % c1))).setCell ⟨w.heap.size + 1, 2, none⟩ (.int .i64 c1) = W := ⟨_, rfl⟩
  have z := keep3 q2 (.int .i64 (v * c0 / c1)) (.int .i64 (v * c0 % c1)) (.int .i64 c1)
  have HBZ : Hid (Below w.heap.size w WZ) := Lib.hid (by rw [← hWZ]; exact ((hB.setCell (by simp) _).setCell (by simp) _).setCell (by simp) _)
  rw [hWZ] at z
  have HZ := Lib.hid hWZ
  have z0 : WZ.cell? ⟨w.heap.size + 1, 0, none⟩ = some (.int .i64 (v * c0 / c1)) := z.at 0
  have z1 : WZ.cell? ⟨w.heap.size + 1, 1, none⟩ = some (.int .i64 (v * c0 % c1)) := z.at 1
  have z2 : WZ.cell? ⟨w.heap.size + 1, 2, none⟩ = some (.int .i64 c1) := z.at 2
  clear z hWZ q2 hB
  go_wp2_with fail
  rw [HZ.out]
  exact bodyPost_ret (v := .agg #[.int .i64 (v * c0 / c1), .int .i64 (v * c0 % c1), .int .i64 c1]) (by simp [results, Try.results46, go_sem, z0, z1, z2]) rfl ⟨rfl, HBZ.out⟩

set_option maxHeartbeats 2000000 in
set_option maxRecDepth 100000 in
theorem iduty_any (c0 c1 c2 c3 ix n v g how : Int) (hc : okC (c0, c1, c2, c3)) (hv : 0 ≤ v ∧ v ≤ 10000000) (hg : 0 ≤ g ∧ g ≤ 10000000) (hh : isHow how = true) (w : World) :
    Calls Try.prog 28 #[.agg #[.int .i16 c0, .int .i16 c1, .int .i16 c2, .int .i32 c3, .int .i8 ix, .int .i64 n, .int .i64 v, .int .i64 g], wayV how] w fun e w' => e = .returned (.int .i64 (chargeR (c0, c1, c2, c3) v g how)) ∧ Below w.heap.size w w' := by
  have HC := Lib.hid hc
  have HV := Lib.hid hv
  unfold okC at hc
  simp only at hc
  obtain ⟨⟨n0, n1⟩, m0, m1, ⟨g0, g1⟩, e0, e1⟩ := hc
  obtain ⟨v0, v1⟩ := hv
  obtain ⟨h0, h1⟩ := hg
  have hr := roundR_in (how := how) v0 v1 m0 (show c0 ≤ 1000 by omega) n0
  rw [charge_eq]
  obtain ⟨⟨q0, q1⟩, s0, s1⟩ := share_in v0 (show v ≤ 1000000000 by omega) m0 (show c0 ≤ 1000 by omega) n0
  obtain ⟨rr, hrr⟩ : ∃ r, roundR v c0 c1 how = r := ⟨_, rfl⟩
  obtain ⟨V, hV⟩ : ∃ V, wayV how = V := ⟨_, rfl⟩
  have HRD : Hid (∀ W, Calls Try.prog 47 #[.agg #[.int .i64 (v * c0 / c1), .int .i64 (v * c0 % c1), .int .i64 c1], V] W fun e w' => e = .returned (.int .i64 rr) ∧ Below W.heap.size W w') := Lib.hid (fun W => by rw [← hV, ← hrr]; exact irounded_any _ _ _ how hh q0 q1 s0 s1 n0 n1 W)
  rw [hrr] at hr ⊢
  rw [hV]
  obtain ⟨r0, r1⟩ := hr
  obtain ⟨p, hp⟩ : ∃ p, c2 * g = p := ⟨_, rfl⟩
  have hpi := prod_in g0 g1 h0 h1
  rw [hp] at hpi ⊢
  obtain ⟨p0, p1⟩ := hpi
  clear hrr hV q0 q1 s0 s1
  have B1 : BlkA (w.alloc (.cells #[.int .i16 c0, .int .i16 c1, .int .i16 c2, .int .i32 c3, .int .i8 ix, .int .i64 n, .int .i64 v, .int .i64 g] 64)) w.heap.size 64 #[.int .i16 c0, .int .i16 c1, .int .i16 c2, .int .i32 c3, .int .i8 ix, .int .i64 n, .int .i64 v, .int .i64 g] := BlkA.new rfl _ _
  have K1 : Below w.heap.size w (w.alloc (.cells #[.int .i16 c0, .int .i16 c1, .int .i16 c2, .int .i32 c3, .int .i8 ix, .int .i64 n, .int .i64 v, .int .i64 g] 64)) := (Below.refl _ _).alloc (Nat.le_refl _) _
  obtain ⟨W1, hW1⟩ : ∃ W, w.alloc (.cells #[.int .i16 c0, .int .i16 c1, .int .i16 c2, .int .i32 c3, .int .i8 ix, .int .i64 n, .int .i64 v, .int .i64 g] 64) = W := ⟨_, rfl⟩
  rw [hW1] at B1 K1
  have HW1 := Lib.hid hW1
  clear hW1
  have SD : W1.drew.cell? ⟨w.heap.size, 0, none⟩ = some (.int .i16 c0) ∧ W1.drew.cell? ⟨w.heap.size, 1, none⟩ = some (.int .i16 c1) ∧ W1.drew.cell? ⟨w.heap.size, 2, none⟩ = some (.int .i16 c2) ∧ W1.drew.cell? ⟨w.heap.size, 3, none⟩ = some (.int .i32 c3) ∧ W1.drew.cell? ⟨w.heap.size, 6, none⟩ = some (.int .i64 v) ∧ W1.drew.cell? ⟨w.heap.size, 7, none⟩ = some (.int .i64 g) := ⟨B1.drew.at 0, B1.drew.at 1, B1.drew.at 2, B1.drew.at 3, B1.drew.at 6, B1.drew.at 7⟩
  have KD : Below w.heap.size w W1.drew := K1.drew
  obtain ⟨mx, hmx⟩ : ∃ m, mxI (rr + p) c3 = m := ⟨_, rfl⟩
  have HMX := Lib.hid hmx
  rw [hmx]
  clear hmx
  have HW : Hid (IntKind.i64.wrap c3 = c3 ∧ IntKind.i64.wrap c2 = c2 ∧ IntKind.i64.wrap p = p ∧ IntKind.i64.wrap (rr + p) = rr + p) := Lib.hid ⟨IntWalk.i64_in _ (by omega), IntWalk.i64_in _ (by omega), IntWalk.i64_in _ (by omega), IntWalk.i64_in _ (by omega)⟩
  have HP := Lib.hid hp
  clear hp
  go_enter Try.func28, Try.ntmps28
  go_wp2_with fail
  rw [HW1.out]
  go_region_held3 (fun u => u.cell? ⟨w.heap.size, 0, none⟩ = some (.int .i16 c0) ∧ u.cell? ⟨w.heap.size, 1, none⟩ = some (.int .i16 c1) ∧ u.cell? ⟨w.heap.size, 2, none⟩ = some (.int .i16 c2) ∧ u.cell? ⟨w.heap.size, 3, none⟩ = some (.int .i32 c3) ∧ u.cell? ⟨w.heap.size, 6, none⟩ = some (.int .i64 v) ∧ u.cell? ⟨w.heap.size, 7, none⟩ = some (.int .i64 g)) (first | exact zS3 | exact zS2 | exact SD) (first | (go_at_call 46; refine (ipart_any c0 c1 c2 c3 v HC.out HV.out _).mono ?_; rintro e w2 ⟨rfl, b2⟩; have B2 := B1.drew.below b2; have zS2 : w2.cell? ⟨w.heap.size, 0, none⟩ = some (.int .i16 c0) ∧ w2.cell? ⟨w.heap.size, 1, none⟩ = some (.int .i16 c1) ∧ w2.cell? ⟨w.heap.size, 2, none⟩ = some (.int .i16 c2) ∧ w2.cell? ⟨w.heap.size, 3, none⟩ = some (.int .i32 c3) ∧ w2.cell? ⟨w.heap.size, 6, none⟩ = some (.int .i64 v) ∧ w2.cell? ⟨w.heap.size, 7, none⟩ = some (.int .i64 g) := ⟨B2.at 0, B2.at 1, B2.at 2, B2.at 3, B2.at 6, B2.at 7⟩; have KE2 := blink KD b2) | (go_at_call 47; refine (HRD.out _).mono ?_; rintro e w3 ⟨rfl, b3⟩; have B3 := B2.below b3; have zS3 : w3.cell? ⟨w.heap.size, 0, none⟩ = some (.int .i16 c0) ∧ w3.cell? ⟨w.heap.size, 1, none⟩ = some (.int .i16 c1) ∧ w3.cell? ⟨w.heap.size, 2, none⟩ = some (.int .i16 c2) ∧ w3.cell? ⟨w.heap.size, 3, none⟩ = some (.int .i32 c3) ∧ w3.cell? ⟨w.heap.size, 6, none⟩ = some (.int .i64 v) ∧ w3.cell? ⟨w.heap.size, 7, none⟩ = some (.int .i64 g) := ⟨B3.at 0, B3.at 1, B3.at 2, B3.at 3, B3.at 6, B3.at 7⟩; have KE := blink KE2 b3))
  all_goals (go_wp2_with fail)
  all_goals go_ret
  all_goals
    obtain ⟨a1, a2, a3, a4⟩ := HW.out
    have hp := HP.out
    have hm := HMX.out
    simp only [a1, a2, hp, a3, a4] at *
    exact ⟨ret_int (by unfold mxI at hm; split at hm <;> omega), KE⟩
end Go.Proofs.Ytlgimedadjpdiaa
