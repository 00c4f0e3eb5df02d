/-
  lotOf, dutyOf and the model's l05Duty.
-/
import Derived.Test.YtocogipejchneaaCuD
namespace Go.Proofs.Ytocogipejchneaa
open Go Go.RowKit
set_option linter.unusedVariables false

theorem iwith_zero (x0 x1 x2 x3 : Int) (hf : FitL (x0, x1, x2, x3)) (w : World) :
    Calls Try.prog 34 #[.agg #[.int .i64 0, .int .i64 0, .int .i64 0], .agg #[.int .i8 x0, .int .i16 x1, .int .i32 x2, .int .i32 x3]] w fun e w' => e = .returned (.agg #[.int .i64 x1, .int .i64 x2, .int .i64 x3]) ∧ Below w.heap.size w w' := by
  have h := iwith_any 0 0 0 x0 x1 x2 x3 hf ⟨by omega, by omega⟩ ⟨by omega, by omega⟩ ⟨by omega, by omega⟩ w
  simpa only [Int.zero_add] using h
theorem keep8 {W : World} {B : Nat} {T : TypeId} {a0 a1 a2 a3 a4 a5 a6 a7 : Value} (h : BlkA W B T #[a0, a1, a2, a3, a4, a5, a6, a7]) (b0 b1 b2 b3 b4 b5 b6 b7 : Value) :
    BlkA ((((((((W.setCell ⟨B, 0, none⟩ b0).setCell ⟨B, 1, none⟩ b1).setCell ⟨B, 2, none⟩ b2).setCell ⟨B, 3, none⟩ b3).setCell ⟨B, 4, none⟩ b4).setCell ⟨B, 5, none⟩ b5).setCell ⟨B, 6, none⟩ b6).setCell ⟨B, 7, none⟩ b7) B T #[b0, b1, b2, b3, b4, b5, b6, b7] := by
  have h0 := h.set 0 b0
  rw [show (#[a0, a1, a2, a3, a4, a5, a6, a7] : Array Value).setIfInBounds 0 b0 = #[b0, a1, a2, a3, a4, a5, a6, a7] from rfl] at h0
  have h1 := h0.set 1 b1
  rw [show (#[b0, a1, a2, a3, a4, a5, a6, a7] : Array Value).setIfInBounds 1 b1 = #[b0, b1, a2, a3, a4, a5, a6, a7] from rfl] at h1
  have h2 := h1.set 2 b2
  rw [show (#[b0, b1, a2, a3, a4, a5, a6, a7] : Array Value).setIfInBounds 2 b2 = #[b0, b1, b2, a3, a4, a5, a6, a7] from rfl] at h2
  have h3 := h2.set 3 b3
  rw [show (#[b0, b1, b2, a3, a4, a5, a6, a7] : Array Value).setIfInBounds 3 b3 = #[b0, b1, b2, b3, a4, a5, a6, a7] from rfl] at h3
  have h4 := h3.set 4 b4
  rw [show (#[b0, b1, b2, b3, a4, a5, a6, a7] : Array Value).setIfInBounds 4 b4 = #[b0, b1, b2, b3, b4, a5, a6, a7] from rfl] at h4
  have h5 := h4.set 5 b5
  rw [show (#[b0, b1, b2, b3, b4, a5, a6, a7] : Array Value).setIfInBounds 5 b5 = #[b0, b1, b2, b3, b4, b5, a6, a7] from rfl] at h5
  have h6 := h5.set 6 b6
  rw [show (#[b0, b1, b2, b3, b4, b5, a6, a7] : Array Value).setIfInBounds 6 b6 = #[b0, b1, b2, b3, b4, b5, b6, a7] from rfl] at h6
  have h7 := h6.set 7 b7
  rw [show (#[b0, b1, b2, b3, b4, b5, b6, a7] : Array Value).setIfInBounds 7 b7 = #[b0, b1, b2, b3, b4, b5, b6, b7] from rfl] at h7
  exact h7

theorem keepL {n : Nat} {z W : World} {B0 b o : Nat} {a0 a1 a2 a3 b0 b1 b2 b3 : Value} (hb : Below n z W) (h0 : B0 < n) (h1 : b < n)
    (h : (z.cell? ⟨B0, 0, none⟩ = some a0 ∧ z.cell? ⟨B0, 1, none⟩ = some a1 ∧ z.cell? ⟨B0, 2, none⟩ = some a2 ∧ z.cell? ⟨B0, 3, none⟩ = some a3) ∧ z.cell? ⟨b, o, none⟩ = some b0 ∧ z.cell? ⟨b, o + 1, none⟩ = some b1 ∧ z.cell? ⟨b, o + 2, none⟩ = some b2 ∧ z.cell? ⟨b, o + 3, none⟩ = some b3) :
    (W.cell? ⟨B0, 0, none⟩ = some a0 ∧ W.cell? ⟨B0, 1, none⟩ = some a1 ∧ W.cell? ⟨B0, 2, none⟩ = some a2 ∧ W.cell? ⟨B0, 3, none⟩ = some a3) ∧ W.cell? ⟨b, o, none⟩ = some b0 ∧ W.cell? ⟨b, o + 1, none⟩ = some b1 ∧ W.cell? ⟨b, o + 2, none⟩ = some b2 ∧ W.cell? ⟨b, o + 3, none⟩ = some b3 := by
  obtain ⟨⟨x0, x1, x2, x3⟩, y0, y1, y2, y3⟩ := h
  exact ⟨⟨(hb.cell (p := ⟨B0, 0, none⟩) h0).trans x0, (hb.cell (p := ⟨B0, 1, none⟩) h0).trans x1, (hb.cell (p := ⟨B0, 2, none⟩) h0).trans x2, (hb.cell (p := ⟨B0, 3, none⟩) h0).trans x3⟩,
    (hb.cell (p := ⟨b, o, none⟩) h1).trans y0, (hb.cell (p := ⟨b, o + 1, none⟩) h1).trans y1, (hb.cell (p := ⟨b, o + 2, none⟩) h1).trans y2, (hb.cell (p := ⟨b, o + 3, none⟩) h1).trans y3⟩

set_option maxHeartbeats 600000 in
set_option maxRecDepth 100000 in
theorem ilot_row (b clen ccap j : Nat) (x1 x2 x3 c0 c1 c2 c3 : Int) (hj : j < clen) (hc8 : clen ≤ 8) (hf : FitL ((j : Int), x1, x2, x3)) (w : World)
    (k0 : w.cell? ⟨b, j * 4, none⟩ = some (.int .i16 c0)) (k1 : w.cell? ⟨b, j * 4 + 1, none⟩ = some (.int .i16 c1)) (k2 : w.cell? ⟨b, j * 4 + 2, none⟩ = some (.int .i16 c2)) (k3 : w.cell? ⟨b, j * 4 + 3, none⟩ = some (.int .i32 c3)) :
    Calls Try.prog 33 #[.slice (some ⟨b, 0, none⟩) clen ccap, .agg #[.int .i8 (j : Int), .int .i16 x1, .int .i32 x2, .int .i32 x3]] w fun e w' => e = .returned (.agg #[.int .i16 c0, .int .i16 c1, .int .i16 c2, .int .i32 c3, .int .i8 (j : Int), .int .i64 x1, .int .i64 x2, .int .i64 x3]) ∧ Below w.heap.size w w' := by
  have HF := Lib.hid hf
  have hb : b < w.heap.size := World.block_lt_of_cell? w _ k0
  clear hf
  obtain ⟨W1, hW1⟩ : ∃ W, (w.alloc (.cells #[.int .i8 (j : Int), .int .i16 x1, .int .i32 x2, .int .i32 x3] 44)).alloc (.cells #[.int .i16 0, .int .i16 0, .int .i16 0, .int .i32 0, .int .i8 0, .int .i64 0, .int .i64 0, .int .i64 0] 58) = W := ⟨_, rfl⟩
  have B1 : BlkA W1 w.heap.size 44 #[.int .i8 (j : Int), .int .i16 x1, .int .i32 x2, .int .i32 x3] := by rw [← hW1]; exact (BlkA.new rfl _ _).alloc _
  have B2 : BlkA W1 (w.heap.size + 1) 58 #[.int .i16 0, .int .i16 0, .int .i16 0, .int .i32 0, .int .i8 0, .int .i64 0, .int .i64 0, .int .i64 0] := by rw [← hW1]; exact BlkA.new (by simp) _ _
  have K1 : Below w.heap.size w W1 := by rw [← hW1]; exact ((Below.refl _ _).alloc (Nat.le_refl _) _).alloc (by simp) _
  have HW1 := Lib.hid hW1
  clear hW1
  have KD : Below w.heap.size w W1.drew := K1.drew
  have C1 := B1.drew
  have C2 := B2.drew
  have m0 := (KD.cell (p := ⟨b, j * 4, none⟩) hb).trans k0
  have m1 := (KD.cell (p := ⟨b, j * 4 + 1, none⟩) hb).trans k1
  have m2 := (KD.cell (p := ⟨b, j * 4 + 2, none⟩) hb).trans k2
  have m3 := (KD.cell (p := ⟨b, j * 4 + 3, none⟩) hb).trans k3
  have SD : (W1.drew.cell? ⟨w.heap.size, 0, none⟩ = some (.int .i8 (j : Int)) ∧ W1.drew.cell? ⟨w.heap.size, 1, none⟩ = some (.int .i16 x1) ∧ W1.drew.cell? ⟨w.heap.size, 2, none⟩ = some (.int .i32 x2) ∧ W1.drew.cell? ⟨w.heap.size, 3, none⟩ = some (.int .i32 x3)) ∧ W1.drew.cell? ⟨b, j * 4, none⟩ = some (.int .i16 c0) ∧ W1.drew.cell? ⟨b, j * 4 + 1, none⟩ = some (.int .i16 c1) ∧ W1.drew.cell? ⟨b, j * 4 + 2, none⟩ = some (.int .i16 c2) ∧ W1.drew.cell? ⟨b, j * 4 + 3, none⟩ = some (.int .i32 c3) := ⟨⟨C1.at 0, C1.at 1, C1.at 2, C1.at 3⟩, m0, m1, m2, m3⟩
  have hjc : (j : Int) < (clen : Int) := by omega
  go_enter Try.func33, Try.ntmps33
  go_wp2_with fail
  rw [HW1.out]
  go_region_held3 (fun u => (u.cell? ⟨w.heap.size, 0, none⟩ = some (.int .i8 (j : Int)) ∧ u.cell? ⟨w.heap.size, 1, none⟩ = some (.int .i16 x1) ∧ u.cell? ⟨w.heap.size, 2, none⟩ = some (.int .i32 x2) ∧ u.cell? ⟨w.heap.size, 3, none⟩ = some (.int .i32 x3)) ∧ u.cell? ⟨b, j * 4, none⟩ = some (.int .i16 c0) ∧ u.cell? ⟨b, j * 4 + 1, none⟩ = some (.int .i16 c1) ∧ u.cell? ⟨b, j * 4 + 2, none⟩ = some (.int .i16 c2) ∧ u.cell? ⟨b, j * 4 + 3, none⟩ = some (.int .i32 c3)) (first | (with_reducible exact SD) | (with_reducible exact zS2) | exact keepL (n := w.heap.size + 1) (by repeat (first | ((with_reducible refine Below.setCell ?_ ?_ _); rotate_left; (first | omega | (simp; omega) | simp)) | (with_reducible exact Below.refl _ _))) (by omega) (by omega) zS2) (first | (go_at_call 34; refine (iwith_zero (j : Int) x1 x2 x3 HF.out _).mono ?_; rintro e w2 ⟨rfl, b2⟩; have D1 := C1.below b2; have D2 := C2.below b2; have KE := blink KD b2; have f0 := D2.frozen 0; have r0 := D2.at 0; have f1 := D2.frozen 1; have r1 := D2.at 1; have f2 := D2.frozen 2; have r2 := D2.at 2; have f3 := D2.frozen 3; have r3 := D2.at 3; have f4 := D2.frozen 4; have r4 := D2.at 4; have f5 := D2.frozen 5; have r5 := D2.at 5; have f6 := D2.frozen 6; have r6 := D2.at 6; have f7 := D2.frozen 7; have r7 := D2.at 7; have zS2 : (w2.cell? ⟨w.heap.size, 0, none⟩ = some (.int .i8 (j : Int)) ∧ w2.cell? ⟨w.heap.size, 1, none⟩ = some (.int .i16 x1) ∧ w2.cell? ⟨w.heap.size, 2, none⟩ = some (.int .i32 x2) ∧ w2.cell? ⟨w.heap.size, 3, none⟩ = some (.int .i32 x3)) ∧ w2.cell? ⟨b, j * 4, none⟩ = some (.int .i16 c0) ∧ w2.cell? ⟨b, j * 4 + 1, none⟩ = some (.int .i16 c1) ∧ w2.cell? ⟨b, j * 4 + 2, none⟩ = some (.int .i16 c2) ∧ w2.cell? ⟨b, j * 4 + 3, none⟩ = some (.int .i32 c3) := ⟨⟨D1.at 0, D1.at 1, D1.at 2, D1.at 3⟩, (KE.cell (p := ⟨b, j * 4, none⟩) hb).trans k0, (KE.cell (p := ⟨b, j * 4 + 1, none⟩) hb).trans k1, (KE.cell (p := ⟨b, j * 4 + 2, none⟩) hb).trans k2, (KE.cell (p := ⟨b, j * 4 + 3, none⟩) hb).trans k3⟩))
  all_goals
    have KZ : Below w.heap.size w (((((((((w2).setCell ⟨w.heap.size + 1, 0, none⟩ (.int .i16 c0)).setCell ⟨w.heap.size + 1, 1, none⟩ (.int .i16 c1)).setCell ⟨w.heap.size + 1, 2, none⟩ (.int .i16 c2)).setCell ⟨w.heap.size + 1, 3, none⟩ (.int .i32 c3)).setCell ⟨w.heap.size + 1, 4, none⟩ (.int .i8 (j : Int))).setCell ⟨w.heap.size + 1, 5, none⟩ (.int .i64 x1)).setCell ⟨w.heap.size + 1, 6, none⟩ (.int .i64 x2)).setCell ⟨w.heap.size + 1, 7, none⟩ (.int .i64 x3)) := (((((((((KE.setCell (by simp) _).setCell (by simp) _).setCell (by simp) _).setCell (by simp) _).setCell (by simp) _).setCell (by simp) _).setCell (by simp) _).setCell (by simp) _))
    have z := keep8 D2 (.int .i16 c0) (.int .i16 c1) (.int .i16 c2) (.int .i32 c3) (.int .i8 (j : Int)) (.int .i64 x1) (.int .i64 x2) (.int .i64 x3)
    clear f0 f1 f2 f3 f4 f5 f6 f7 r0 r1 r2 r3 r4 r5 r6 r7
    generalize (((((((((w2).setCell ⟨w.heap.size + 1, 0, none⟩ (.int .i16 c0)).setCell ⟨w.heap.size + 1, 1, none⟩ (.int .i16 c1)).setCell ⟨w.heap.size + 1, 2, none⟩ (.int .i16 c2)).setCell ⟨w.heap.size + 1, 3, none⟩ (.int .i32 c3)).setCell ⟨w.heap.size + 1, 4, none⟩ (.int .i8 (j : Int))).setCell ⟨w.heap.size + 1, 5, none⟩ (.int .i64 x1)).setCell ⟨w.heap.size + 1, 6, none⟩ (.int .i64 x2)).setCell ⟨w.heap.size + 1, 7, none⟩ (.int .i64 x3)) = WZ at KZ z ⊢
    have z0 : WZ.cell? ⟨w.heap.size + 1, 0, none⟩ = some (.int .i16 c0) := z.at 0
    have z1 : WZ.cell? ⟨w.heap.size + 1, 1, none⟩ = some (.int .i16 c1) := z.at 1
    have z2 : WZ.cell? ⟨w.heap.size + 1, 2, none⟩ = some (.int .i16 c2) := z.at 2
    have z3 : WZ.cell? ⟨w.heap.size + 1, 3, none⟩ = some (.int .i32 c3) := z.at 3
    have z4 : WZ.cell? ⟨w.heap.size + 1, 4, none⟩ = some (.int .i8 (j : Int)) := z.at 4
    have z5 : WZ.cell? ⟨w.heap.size + 1, 5, none⟩ = some (.int .i64 x1) := z.at 5
    have z6 : WZ.cell? ⟨w.heap.size + 1, 6, none⟩ = some (.int .i64 x2) := z.at 6
    have z7 : WZ.cell? ⟨w.heap.size + 1, 7, none⟩ = some (.int .i64 x3) := z.at 7
    go_wp2_with fail
    exact bodyPost_ret (v := .agg #[.int .i16 c0, .int .i16 c1, .int .i16 c2, .int .i32 c3, .int .i8 (j : Int), .int .i64 x1, .int .i64 x2, .int .i64 x3]) (by simp [results, Try.results33, go_sem, z0, z1, z2, z3, z4, z5, z6, z7]) rfl ⟨rfl, KZ⟩
theorem ilot_any (v : Value) (cs : List (Int × Int × Int × Int)) (j : Nat) (x1 x2 x3 c0 c1 c2 c3 : Int) (hj : j < cs.length) (hc8 : cs.length ≤ 8) (hf : FitL ((j : Int), x1, x2, x3)) (hq : cs.getD j (0, 0, 0, 0) = (c0, c1, c2, c3)) (w : World) (hv : ReadsC w v cs) :
    Calls Try.prog 33 #[v, .agg #[.int .i8 (j : Int), .int .i16 x1, .int .i32 x2, .int .i32 x3]] w fun e w' => e = .returned (.agg #[.int .i16 c0, .int .i16 c1, .int .i16 c2, .int .i32 c3, .int .i8 (j : Int), .int .i64 x1, .int .i64 x2, .int .i64 x3]) ∧ Below w.heap.size w w' := by
  obtain ⟨a, ccap, rfl, h⟩ := hv
  obtain ⟨b, rfl, hc⟩ := h (fun e => by rw [e] at hj; simp at hj)
  obtain ⟨k0, k1, k2, k3⟩ := hc j hj
  rw [hq] at k0 k1 k2 k3
  exact ilot_row b cs.length ccap j x1 x2 x3 c0 c1 c2 c3 hj hc8 hf w k0 k1 k2 k3

/-- What a loop over a valid form has of its line k: the class's index is a number below the classes' count. -/
theorem line_cls {cs ls : List (Int × Int × Int × Int)} {k : Nat} (h : OkLTo cs.length ls ls.length) (hk : k < ls.length) : ∃ j : Nat, j < cs.length ∧ (ls.getD k (0, 0, 0, 0)).1 = (j : Int) := by
  have h2 := h k hk
  unfold okL at h2
  exact ⟨(ls.getD k (0, 0, 0, 0)).1.toNat, by omega, by omega⟩
theorem duty_step {cs ls : List (Int × Int × Int × Int)} {how : Int} {k j : Nat} {x1 x2 x3 : Int} {q : Int × Int × Int × Int} (hq : ls.getD k (0, 0, 0, 0) = ((j : Int), x1, x2, x3)) (hc : cs.getD j (0, 0, 0, 0) = q) : dutyTo cs ls how (k + 1) = dutyTo cs ls how k + chargeR q x2 x3 how := by
  rw [dutyTo, hq]
  simp only [Int.toNat_natCast]
  rw [hc]

theorem keepM {n : Nat} {z W : World} {B0 o0 b o : Nat} {a0 a1 a2 a3 b0 b1 b2 b3 : Value} (hb : Below n z W) (h0 : B0 < n) (h1 : b < n)
    (h : (z.cell? ⟨B0, o0, none⟩ = some a0 ∧ z.cell? ⟨B0, o0 + 1, none⟩ = some a1 ∧ z.cell? ⟨B0, o0 + 2, none⟩ = some a2 ∧ z.cell? ⟨B0, o0 + 3, none⟩ = some a3) ∧ z.cell? ⟨b, o, none⟩ = some b0 ∧ z.cell? ⟨b, o + 1, none⟩ = some b1 ∧ z.cell? ⟨b, o + 2, none⟩ = some b2 ∧ z.cell? ⟨b, o + 3, none⟩ = some b3) :
    (W.cell? ⟨B0, o0, none⟩ = some a0 ∧ W.cell? ⟨B0, o0 + 1, none⟩ = some a1 ∧ W.cell? ⟨B0, o0 + 2, none⟩ = some a2 ∧ W.cell? ⟨B0, o0 + 3, none⟩ = some a3) ∧ W.cell? ⟨b, o, none⟩ = some b0 ∧ W.cell? ⟨b, o + 1, none⟩ = some b1 ∧ W.cell? ⟨b, o + 2, none⟩ = some b2 ∧ W.cell? ⟨b, o + 3, none⟩ = some b3 := by
  obtain ⟨⟨x0, x1, x2, x3⟩, y0, y1, y2, y3⟩ := h
  exact ⟨⟨(hb.cell (p := ⟨B0, o0, none⟩) h0).trans x0, (hb.cell (p := ⟨B0, o0 + 1, none⟩) h0).trans x1, (hb.cell (p := ⟨B0, o0 + 2, none⟩) h0).trans x2, (hb.cell (p := ⟨B0, o0 + 3, none⟩) h0).trans x3⟩,
    (hb.cell (p := ⟨b, o, none⟩) h1).trans y0, (hb.cell (p := ⟨b, o + 1, none⟩) h1).trans y1, (hb.cell (p := ⟨b, o + 2, none⟩) h1).trans y2, (hb.cell (p := ⟨b, o + 3, none⟩) h1).trans y3⟩

end Go.Proofs.Ytocogipejchneaa
