/-
  The times of a scan; whether a scan is in times; the arrivals of both.
-/
import Derived.Test.YtamnojhkfknnoaaArT
namespace Go.Proofs.Ytamnojhkfknnoaa
open Go Go.RowKit
set_option linter.unusedVariables false

theorem tw_info {T : List Nat} (h : T.length = 8) : (Try.prog.info? 94).map (·.size) = some (tw T).size := by rw [tw_size, h]; exact u64_times
theorem below_setRowT {B : Nat} {w0 w : World} {g : Nat} {cs : Array Value} (hb : Below B w0 w) (hg : B ≤ g) : Below B w0 (w.setRow g cs) :=
  hb.trans ⟨rfl, rfl, rfl, by simp [World.setRow], fun k hk => by simp only [World.setRow]; rw [Array.getElem?_modify]; rw [if_neg (by omega)]⟩
theorem setRow_heapT (w : World) (g : Nat) (cs old : Array Value) (t : TypeId) (fr : Nat × Nat) (h : w.heap[g]? = some (.cells old t fr)) : (w.setRow g cs).heap[g]? = some (.cells cs t fr) := by
  simp [World.setRow, Array.getElem?_modify, h]
/-- The times of a scan alone. -/
def tOf (s h : Nat) : List Nat := t0.set s (2 ^ h)
theorem tOf_ok (s h : Nat) (hh : h ≤ 300) : TOk (tOf s h) := t0_ok.set (Nat.pow_lt_pow_right (by omega) (by rw [room_is]; omega))
theorem wd_pow (h j : Nat) (hj : j < 5) (hh : h ≤ 300) : wd (2 ^ h) j = if j = h / 64 then 2 ^ (h % 64) else 0 := by
  apply Nat.eq_of_testBit_eq
  intro i
  rw [wd_bit, Nat.testBit_two_pow]
  split
  · rename_i e
    rw [Nat.testBit_two_pow]
    by_cases hi : i < 64
    · simp only [hi, decide_true, Bool.true_and]
      exact decide_eq_decide.2 (by omega)
    · simp only [hi, decide_false, Bool.false_and]
      exact (decide_eq_false (by omega)).symm
  · rw [Nat.zero_testBit]
    by_cases hi : i < 64
    · simp only [hi, decide_true, Bool.true_and]
      exact decide_eq_false (by omega)
    · simp [hi]
/-- One word set in empty times. -/
theorem blkT_word {w : World} {B s h : Nat} (hs : s < 8) (hh : h ≤ 300) (hb : BlkT w B t0) : BlkT (w.setCell ⟨B, s * 5 + h / 64, none⟩ (.int .u64 (2 ^ (h % 64) : Nat))) B (tOf s h) := by
  have h1 := BlkA.set hb (s * 5 + h / 64) (.int .u64 (2 ^ (h % 64) : Nat))
  have e : (tw t0).setIfInBounds (s * 5 + h / 64) (.int .u64 (2 ^ (h % 64) : Nat)) = tw (tOf s h) := by
    apply Array.ext_getElem?
    intro j
    have hl : (tw t0).size = 40 := by rw [tw_size]; rfl
    have hl8 : t0.length = 8 := rfl
    by_cases hj : j < 40
    · have h2 := flatH_get (tOf s h) (j / 5) (j % 5) (by simp [tOf, hl8]; omega) (by omega)
      have h3 := flatH_get t0 (j / 5) (j % 5) (by rw [hl8]; omega) (by omega)
      rw [show j / 5 * 5 + j % 5 = j by omega] at h2 h3
      rw [t0_get, wd_zero] at h3
      have r2 : (tw (tOf s h))[j]? = (flatH (tOf s h))[j]? := by simp [tw]
      have r3 : (tw t0)[j]? = (flatH t0)[j]? := by simp [tw]
      rw [Array.getElem?_setIfInBounds, r2, h2]
      by_cases es : j / 5 = s
      · have e1 : (tOf s h).getD (j / 5) 0 = 2 ^ h := by simp [tOf, List.getD, es, hl8, hs]
        rw [e1, wd_pow h (j % 5) (by omega) hh]
        by_cases eq : j % 5 = h / 64
        · rw [if_pos (by omega), if_pos eq, if_pos (by rw [hl]; omega)]
        · rw [if_neg (by omega), if_neg eq, r3, h3]
      · have e1 : (tOf s h).getD (j / 5) 0 = 0 := by
          have := t0_get (j / 5)
          simpa [tOf, List.getD, Ne.symm es] using this
        rw [e1, wd_zero, if_neg (by omega), r3, h3]
    · rw [Array.getElem?_eq_none (by simp [hl]; omega), Array.getElem?_eq_none (by rw [tw_size]; simp [tOf, hl8]; omega)]
  rw [e] at h1
  exact h1

set_option maxHeartbeats 4000000 in
set_option maxRecDepth 100000 in
theorem itimesOf_any (s h : Nat) (hs : s < 8) (hh : h ≤ 300) (w : World) :
    Calls Try.prog 41 #[.agg #[.int .i8 (s : Int), .int .i16 (h : Int)]] w fun e w' => e = .returned (tv (tOf s h)) ∧ Below w.heap.size w w' := by
  have hb0 : Below w.heap.size w (((w.alloc (.cells #[.int .i8 (s : Int), .int .i16 (h : Int)] 49)).alloc (.cells (tw t0) 94)).alloc (.cells (tw t0) 94)) := (((Below.refl _ _).alloc (Nat.le_refl _) _).alloc (by simp) _).alloc (by simp; omega) _
  have BX : BlkA (((w.alloc (.cells #[.int .i8 (s : Int), .int .i16 (h : Int)] 49)).alloc (.cells (tw t0) 94)).alloc (.cells (tw t0) 94)) w.heap.size 49 #[.int .i8 (s : Int), .int .i16 (h : Int)] := ((BlkA.new rfl _ _).alloc _).alloc _
  have BR : BlkT (((w.alloc (.cells #[.int .i8 (s : Int), .int .i16 (h : Int)] 49)).alloc (.cells (tw t0) 94)).alloc (.cells (tw t0) 94)) (w.heap.size + 1) t0 := (BlkA.new (by simp) _ _).alloc _
  have BA : BlkT (((w.alloc (.cells #[.int .i8 (s : Int), .int .i16 (h : Int)] 49)).alloc (.cells (tw t0) 94)).alloc (.cells (tw t0) 94)) (w.heap.size + 1 + 1) t0 := BlkA.new (by simp) _ _
  have hp : IntKind.u64.wrap (2 ^ (h % 64)) = ((2 ^ (h % 64) : Nat) : Int) := by
    have h1 : (2 : Nat) ^ (h % 64) < 2 ^ 64 := Nat.pow_lt_pow_right (by omega) (by omega)
    have h2 : ((2 ^ (h % 64) : Nat) : Int) = (2 : Int) ^ (h % 64) := by simp
    have h3 : (2 : Nat) ^ 64 = 18446744073709551616 := by decide
    rw [← h2]
    obtain ⟨x, hx⟩ : ∃ x : Nat, 2 ^ (h % 64) = x := ⟨_, rfl⟩
    rw [hx] at h1 ⊢
    rw [u64_wrap _ (by omega)]
    omega
  have HP := Lib.hid hp
  clear hp
  go_enter Try.func41, Try.ntmps41
  go_wp2_with fail
  rw [tw_zero] at hb0 BX BR BA
  obtain ⟨W1, hW⟩ : ∃ W, (((w.alloc (.cells #[.int .i8 (s : Int), .int .i16 (h : Int)] 49)).alloc (.cells (tw t0) 94)).alloc (.cells (tw t0) 94)) = W := ⟨_, rfl⟩
  rw [tw_zero] at hW
  rw [hW] at hb0 BX BR BA ⊢
  clear hW
  have s0 : W1.cell? ⟨w.heap.size, 0, none⟩ = some (.int .i8 (s : Int)) := BX.at 0
  have s1 : W1.cell? ⟨w.heap.size, 1, none⟩ = some (.int .i16 (h : Int)) := BX.at 1
  have HA := Lib.hid BA
  have HR := Lib.hid BR
  have HB0 := Lib.hid hb0
  have z0 : W1.cell? ⟨w.heap.size + 1 + 1, s * 5 + h / 64, none⟩ = some (.int .u64 0) := by
    have h1 := flatH_get t0 s (h / 64) (by simp [t0]; omega) (by omega)
    rw [t0_get, wd_zero] at h1
    rw [BlkA.at BA]
    simpa [tw] using h1
  have fz := BlkA.frozen BA (s * 5 + h / 64)
  clear BA BR BX hb0
  go_region
  rw [HP.out]
  obtain ⟨W2, hW⟩ : ∃ W, (W1.setCell ⟨w.heap.size + 1 + 1, s * 5 + h / 64, none⟩ (.int .u64 (2 ^ (h % 64) : Nat))).drew = W := ⟨_, rfl⟩
  have HA2 : Hid (BlkT W2 (w.heap.size + 1 + 1) (tOf s h)) := Lib.hid (by rw [← hW]; exact BlkA.drew (blkT_word hs hh HA.out))
  have HR2 : Hid (BlkT W2 (w.heap.size + 1) t0) := Lib.hid (by rw [← hW]; exact BlkA.drew (BlkA.other HR.out _ _ (by simp)))
  have HB2 : Hid (Below w.heap.size w W2) := Lib.hid (by rw [← hW]; exact (HB0.out.setCell (by simp; omega) _).drew)
  have LT : (tOf s h).length = 8 := (tOf_ok s h hh).len
  have L0 : t0.length = 8 := t0_ok.len
  rw [hW]
  clear hW s0 s1 z0 fz HA HR HB0
  have HLT := Lib.hid LT
  have HL0 := Lib.hid L0
  clear LT L0
  go_wp2_with (first
    | (refine wpList_load_row (o := ⟨some 15, _, _, _, _, _⟩) rfl 94 (.tmp 3) rfl (w.heap.size + 1 + 1) rfl 94 _ (0, 0) _ HA2.out (show Try.prog.underlying 94 = some (.array 8 92) by kernel_rfl) rfl (tw_info HLT.out) ?_)
    | (refine wpList_store_row (o := ⟨none, _, _, _, _, _⟩) rfl 94 (.tmp 2) (.tmp 15) rfl (w.heap.size + 1) (tw (tOf s h)) rfl rfl 94 _ HR2.out (tw_info HLT.out) (by rw [tw_size, tw_size, HLT.out, HL0.out]) (tw_ones _) ?_))
  refine bodyPost_ret (v := tv (tOf s h)) ?_ rfl ⟨rfl, below_setRowT HB2.out (by omega)⟩
  exact results_cell_row Try.results41 _ _ (w.heap.size + 1) 94 _ (0, 0) _ rfl (setRow_heapT _ _ _ _ _ _ HR2.out) (show Try.prog.underlying 94 = some (.array 8 92) by kernel_rfl) rfl (tw_info HLT.out)


set_option maxHeartbeats 4000000 in
set_option maxRecDepth 100000 in
theorem ithas_any (T : List Nat) (hT : TOk T) (s h : Nat) (hs : s < 8) (hh : h ≤ 300) (w : World) :
    Calls Try.prog 53 #[tv T, .agg #[.int .i8 (s : Int), .int .i16 (h : Int)]] w fun e w' => e = .returned (.bool ((T.getD s 0).testBit h)) ∧ Below w.heap.size w w' := by
  have hb0 : Below w.heap.size w ((w.alloc (.cells (tw T) 94)).alloc (.cells #[.int .i8 (s : Int), .int .i16 (h : Int)] 49)) := ((Below.refl _ _).alloc (Nat.le_refl _) _).alloc (by simp) _
  have BT : BlkT ((w.alloc (.cells (tw T) 94)).alloc (.cells #[.int .i8 (s : Int), .int .i16 (h : Int)] 49)) w.heap.size T := (BlkA.new rfl _ _).alloc _
  have BX : BlkA ((w.alloc (.cells (tw T) 94)).alloc (.cells #[.int .i8 (s : Int), .int .i16 (h : Int)] 49)) (w.heap.size + 1) 49 #[.int .i8 (s : Int), .int .i16 (h : Int)] := BlkA.new (by simp) _ _
  have HLEN := Lib.hid hT.len
  have HCELL : Hid (∀ W, BlkT W w.heap.size T → W.cell? ⟨w.heap.size, s * 5, none⟩ = some (.int .u64 (wd (T.getD s 0) 0 : Nat)) ∧ W.cell? ⟨w.heap.size, s * 5 + 1, none⟩ = some (.int .u64 (wd (T.getD s 0) 1 : Nat)) ∧ W.cell? ⟨w.heap.size, s * 5 + 2, none⟩ = some (.int .u64 (wd (T.getD s 0) 2 : Nat)) ∧ W.cell? ⟨w.heap.size, s * 5 + 3, none⟩ = some (.int .u64 (wd (T.getD s 0) 3 : Nat)) ∧ W.cell? ⟨w.heap.size, s * 5 + 4, none⟩ = some (.int .u64 (wd (T.getD s 0) 4 : Nat))) := Lib.hid (fun W hb => hb.cells s (by rw [HLEN.out]; exact hs))
  obtain ⟨N, hN⟩ : ∃ N, T.getD s 0 = N := ⟨_, rfl⟩
  rw [hN] at HCELL ⊢
  have HCALL : Hid (∀ W, Calls Try.prog 69 #[hv N, .int .i64 (IntKind.i64.wrap (h : Int))] W fun e w' => e = .returned (.bool (N.testBit h)) ∧ Below W.heap.size W w') := Lib.hid (fun W => by rw [IntWalk.i64_in (h : Int) (by omega)]; exact ihbit_any _ h hh W)
  have hs8 : (s : Int) < 8 := by omega
  have hs0 : (0 : Int) ≤ (s : Int) := by omega
  clear hN
  clear hT
  go_enter Try.func53, Try.ntmps53
  go_wp2_with fail
  obtain ⟨W1, hW⟩ : ∃ W, ((w.alloc (.cells (tw T) 94)).alloc (.cells #[.int .i8 (s : Int), .int .i16 (h : Int)] 49)) = W := ⟨_, rfl⟩
  rw [hW] at hb0 BT BX ⊢
  clear hW
  have C0 : BlkT W1.drew w.heap.size T := BlkA.drew BT
  have X0 := BlkA.drew BX
  have HC0 := Lib.hid C0
  have HX0 := Lib.hid X0
  have K0 : Below w.heap.size w W1.drew := hb0.drew
  obtain ⟨t0, t1, t2, t3, t4⟩ := HCELL.out _ C0
  have SD : W1.drew.cell? ⟨w.heap.size + 1, 0, none⟩ = some (.int .i8 (s : Int)) ∧ W1.drew.cell? ⟨w.heap.size + 1, 1, none⟩ = some (.int .i16 (h : Int)) ∧ W1.drew.cell? ⟨w.heap.size, s * 5, none⟩ = some (.int .u64 (wd N 0 : Nat)) ∧ W1.drew.cell? ⟨w.heap.size, s * 5 + 1, none⟩ = some (.int .u64 (wd N 1 : Nat)) ∧ W1.drew.cell? ⟨w.heap.size, s * 5 + 2, none⟩ = some (.int .u64 (wd N 2 : Nat)) ∧ W1.drew.cell? ⟨w.heap.size, s * 5 + 3, none⟩ = some (.int .u64 (wd N 3 : Nat)) ∧ W1.drew.cell? ⟨w.heap.size, s * 5 + 4, none⟩ = some (.int .u64 (wd N 4 : Nat)) := ⟨X0.at 0, X0.at 1, t0, t1, t2, t3, t4⟩
  clear BT BX C0 X0 hb0 t0 t1 t2 t3 t4
  go_region_held3 (fun v => v.cell? ⟨w.heap.size + 1, 0, none⟩ = some (.int .i8 (s : Int)) ∧ v.cell? ⟨w.heap.size + 1, 1, none⟩ = some (.int .i16 (h : Int)) ∧ v.cell? ⟨w.heap.size, s * 5, none⟩ = some (.int .u64 (wd N 0 : Nat)) ∧ v.cell? ⟨w.heap.size, s * 5 + 1, none⟩ = some (.int .u64 (wd N 1 : Nat)) ∧ v.cell? ⟨w.heap.size, s * 5 + 2, none⟩ = some (.int .u64 (wd N 2 : Nat)) ∧ v.cell? ⟨w.heap.size, s * 5 + 3, none⟩ = some (.int .u64 (wd N 3 : Nat)) ∧ v.cell? ⟨w.heap.size, s * 5 + 4, none⟩ = some (.int .u64 (wd N 4 : Nat))) (first | (with_reducible exact SD) | (with_reducible exact zS1)) (first | (go_at_call 69; (with_reducible refine (HCALL.out _).mono ?_); rintro e w5 ⟨rfl, d1⟩; have C1 : BlkT w5 w.heap.size T := BlkA.below HC0.out d1; have X1 := HX0.out.below d1; obtain ⟨t0, t1, t2, t3, t4⟩ := HCELL.out _ C1; have zS1 : w5.cell? ⟨w.heap.size + 1, 0, none⟩ = some (.int .i8 (s : Int)) ∧ w5.cell? ⟨w.heap.size + 1, 1, none⟩ = some (.int .i16 (h : Int)) ∧ w5.cell? ⟨w.heap.size, s * 5, none⟩ = some (.int .u64 (wd N 0 : Nat)) ∧ w5.cell? ⟨w.heap.size, s * 5 + 1, none⟩ = some (.int .u64 (wd N 1 : Nat)) ∧ w5.cell? ⟨w.heap.size, s * 5 + 2, none⟩ = some (.int .u64 (wd N 2 : Nat)) ∧ w5.cell? ⟨w.heap.size, s * 5 + 3, none⟩ = some (.int .u64 (wd N 3 : Nat)) ∧ w5.cell? ⟨w.heap.size, s * 5 + 4, none⟩ = some (.int .u64 (wd N 4 : Nat)) := ⟨X1.at 0, X1.at 1, t0, t1, t2, t3, t4⟩; have K1 := K0.trans (d1.mono K0.size)))
  clear SD zS1
  have HK := Lib.hid K1
  go_wp2_with fail
  go_ret
  exact ⟨rfl, HK.out⟩
end Go.Proofs.Ytamnojhkfknnoaa
