/-
  The arrivals of both times.
-/
import Derived.Test.YtamnojhkfknnoaaArU
namespace Go.Proofs.Ytamnojhkfknnoaa
open Go Go.RowKit
set_option linter.unusedVariables false

/-- T, where the first k stations have the hours of U, too. -/
def orK (T U : List Nat) : Nat → List Nat
  | 0 => T
  | k + 1 => (orK T U k).set k ((orK T U k).getD k 0 ||| U.getD k 0)
theorem orK_len (T U : List Nat) (k : Nat) : (orK T U k).length = T.length := by
  induction k with
  | zero => rfl
  | succ k ih => rw [orK, List.length_set, ih]
theorem orK_get (T U : List Nat) (k s : Nat) (hs : s < T.length) : (orK T U k).getD s 0 = if s < k then T.getD s 0 ||| U.getD s 0 else T.getD s 0 := by
  induction k with
  | zero => simp [orK]
  | succ k ih =>
    rw [orK]
    by_cases e : s = k
    · subst e
      have hl : s < (orK T U s).length := by rw [orK_len]; exact hs
      have h1 : (orK T U s).getD s 0 = T.getD s 0 := by rw [ih, if_neg (by omega)]
      rw [if_pos (by omega), h1]
      simp [List.getD, hl]
    · have h1 : ((orK T U k).set k ((orK T U k).getD k 0 ||| U.getD k 0)).getD s 0 = (orK T U k).getD s 0 := by
        simp only [List.getD]
        rw [List.getElem?_set_ne (fun h => e h.symm)]
      rw [h1, ih]
      by_cases h2 : s < k
      · rw [if_pos h2, if_pos (by omega)]
      · rw [if_neg h2, if_neg (by omega)]
theorem orK_ok {T U : List Nat} (hT : TOk T) (hU : TOk U) (k : Nat) : TOk (orK T U k) := by
  induction k with
  | zero => exact hT
  | succ k ih => exact ih.set (Nat.or_lt_two_pow (ih.lt k) (hU.lt k))
def orT (T U : List Nat) : List Nat := orK T U 8
theorem orT_ok {T U : List Nat} (hT : TOk T) (hU : TOk U) : TOk (orT T U) := orK_ok hT hU 8
theorem orT_get {T U : List Nat} (hT : TOk T) (s : Nat) (hs : s < 8) : (orT T U).getD s 0 = T.getD s 0 ||| U.getD s 0 := by
  rw [orT, orK_get T U 8 s (by rw [hT.len]; exact hs), if_pos hs]

abbrev OpBx (o : Oper) : Oper := o
theorem bx_op3 {P : Program} {id : Nat} {o0 o1 o2 o3 : Oper} {rest : List Oper} {Q : Exit → Act → World → Prop} {a : Act} {w : World}
    (h : (Code.region id (List.toArray (o0 :: o1 :: o2 :: OpBx o3 :: rest)) true).wp P Q a w) : (Code.region id (List.toArray (o0 :: o1 :: o2 :: o3 :: rest)) true).wp P Q a w := h
theorem wpList_index_twN {ops : Array Oper} {rest : List Oper} {o : Oper} {a : Act} {w : World} {Q : Exit → Act → World → Prop} (hgd : o.guard = none) (x y : Operand) (ho : o.op = .index 94 x y)
    (T : List Nat) (k : IntKind) (s N : Nat) (hN : T.getD s 0 = N) (hx : a.eval x = .agg (tw T)) (hy : a.eval y = .int k (s : Int)) (hs : s < 8) (h8 : T.length = 8)
    (h : wpList Try.prog ops Q rest (a.put o.dst (hv N)) w) : wpList Try.prog ops Q (o :: rest) a w := by
  subst hN; exact wpList_index_tw hgd x y ho T k s hx hy hs h8 h

set_option maxHeartbeats 4000000 in
set_option maxRecDepth 100000 in
theorem itor_any (T U : List Nat) (hT : TOk T) (hU : TOk U) (w : World) :
    Calls Try.prog 68 #[tv T, tv U] w fun e w' => e = .returned (tv (orT T U)) ∧ Below w.heap.size w w' := by
  have hb0 : Below w.heap.size w (((w.alloc (.cells (tw T) 94)).alloc (.cells (tw U) 94)).alloc (.cells (tw t0) 94)) := (((Below.refl _ _).alloc (Nat.le_refl _) _).alloc (by simp) _).alloc (by simp; omega) _
  have BX : BlkT (((w.alloc (.cells (tw T) 94)).alloc (.cells (tw U) 94)).alloc (.cells (tw t0) 94)) w.heap.size T := ((BlkA.new rfl _ _).alloc _).alloc _
  have BU : BlkT (((w.alloc (.cells (tw T) 94)).alloc (.cells (tw U) 94)).alloc (.cells (tw t0) 94)) (w.heap.size + 1) U := (BlkA.new (by simp) _ _).alloc _
  have BR : BlkT (((w.alloc (.cells (tw T) 94)).alloc (.cells (tw U) 94)).alloc (.cells (tw t0) 94)) (w.heap.size + 1 + 1) t0 := BlkA.new (by simp) _ _
  have HT := Lib.hid hT
  have HU := Lib.hid hU
  have HLU := Lib.hid hU.len
  have HL0 : Hid (t0.length = 8) := Lib.hid t0_ok.len
  clear hT hU
  rw [tw_zero] at hb0 BX BU BR
  have HB1 := Lib.hid hb0
  have HX1 := Lib.hid BX
  have HU1 := Lib.hid BU
  have HR1 := Lib.hid BR
  clear hb0 BX BU BR
  go_enter Try.func68, Try.ntmps68
  go_wp2_with (refine wpList_load_row (o := ⟨some 7, _, _, _, _, _⟩) rfl 94 (.tmp 3) rfl (w.heap.size + 1) rfl 94 _ (0, 0) _ HU1.out (show Try.prog.underlying 94 = some (.array 8 92) by kernel_rfl) rfl (tw_info HLU.out) ?_)
  obtain ⟨W1, hW⟩ : ∃ W, (((w.alloc (.cells (tw T) 94)).alloc (.cells (tw U) 94)).alloc (.cells (tw t0) 94)) = W := ⟨_, rfl⟩
  rw [tw_zero] at hW
  rw [hW] at HB1 HX1 HU1 HR1 ⊢
  clear hW
  go_loopw [8] (fun i wr => ∃ k : Nat, k ≤ 8 ∧ i = .int .i64 k ∧ BlkT wr w.heap.size (orK T U k) ∧ BlkT wr (w.heap.size + 1 + 1) t0 ∧ Below w.heap.size w wr) (fun i _ => 8 - (intOf i).toNat)
  case atStart => exact ⟨0, Nat.zero_le _, rfl, HX1.out, HR1.out, HB1.out⟩
  case round =>
    obtain ⟨k, hk, rfl, bx, br, hnx⟩ := hrel
    have HX := Lib.hid bx
    have HR := Lib.hid br
    have HN := Lib.hid hnx
    have hww : w.heap.size ≤ wr.heap.size := hnx.size
    have hw2 : w.heap.size + 1 + 1 < wr.heap.size := BlkA.lt br
    clear bx br hnx
    by_cases hlt : k < 8
    · have hk8 : (k : Int) < 8 := by omega
      have hk0 : (0 : Int) ≤ (k : Int) := by omega
      have HLK : Hid ((orK T U k).length = 8) := Lib.hid (by rw [orK_len]; exact HT.out.len)
      have HS : Hid (orK T U (k + 1) = (orK T U k).set k ((orK T U k).getD k 0 ||| U.getD k 0)) := Lib.hid rfl
      obtain ⟨R, hR⟩ : ∃ R, orK T U k = R := ⟨_, rfl⟩
      rw [hR] at HX HLK HS
      obtain ⟨M, hM⟩ : ∃ M, R.getD k 0 = M := ⟨_, rfl⟩
      obtain ⟨N, hN⟩ : ∃ N, U.getD k 0 = N := ⟨_, rfl⟩
      rw [hM, hN] at HS
      have HNQ := Lib.hid hN
      have HCELL : Hid (∀ W, BlkT W w.heap.size R → W.cell? ⟨w.heap.size, k * 5, none⟩ = some (.int .u64 (wd M 0 : Nat)) ∧ W.cell? ⟨w.heap.size, k * 5 + 1, none⟩ = some (.int .u64 (wd M 1 : Nat)) ∧ W.cell? ⟨w.heap.size, k * 5 + 2, none⟩ = some (.int .u64 (wd M 2 : Nat)) ∧ W.cell? ⟨w.heap.size, k * 5 + 3, none⟩ = some (.int .u64 (wd M 3 : Nat)) ∧ W.cell? ⟨w.heap.size, k * 5 + 4, none⟩ = some (.int .u64 (wd M 4 : Nat))) := Lib.hid (fun W hb => by have := hb.cells k (by rw [HLK.out]; exact hlt); rw [hM] at this; exact this)
      obtain ⟨W1, hW1⟩ : ∃ W, wr.alloc (.cells #[.int .u64 (wd N 0 : Nat), .int .u64 (wd N 1 : Nat), .int .u64 (wd N 2 : Nat), .int .u64 (wd N 3 : Nat), .int .u64 (wd N 4 : Nat)] 92) = W := ⟨_, rfl⟩
      have X0 : BlkT W1.drew w.heap.size R := by rw [← hW1]; exact BlkA.drew (BlkA.alloc HX.out _)
      have H0 : BlkH W1.drew wr.heap.size N := by rw [← hW1]; exact BlkA.drew (BlkA.new rfl _ _)
      have K0 : Below wr.heap.size wr W1.drew := by rw [← hW1]; exact ((Below.refl _ _).alloc (Nat.le_refl _) _).drew
      have HX0 := Lib.hid X0
      have HH0 := Lib.hid H0
      have SD : W1.drew.cell? ⟨wr.heap.size, 0, none⟩ = some (.int .u64 (wd N 0 : Nat)) ∧ W1.drew.cell? ⟨wr.heap.size, 1, none⟩ = some (.int .u64 (wd N 1 : Nat)) ∧ W1.drew.cell? ⟨wr.heap.size, 2, none⟩ = some (.int .u64 (wd N 2 : Nat)) ∧ W1.drew.cell? ⟨wr.heap.size, 3, none⟩ = some (.int .u64 (wd N 3 : Nat)) ∧ W1.drew.cell? ⟨wr.heap.size, 4, none⟩ = some (.int .u64 (wd N 4 : Nat)) := H0.cells
      obtain ⟨c0, c1, c2, c3, c4⟩ := HCELL.out _ X0
      have HW1 := Lib.hid hW1
      clear hR hM hN hW1 X0 H0
      go_wp2_with (refine wpList_index_twN (o := ⟨some 11, _, _, _, _, _⟩) rfl (.tmp 7) (.tmp 8) rfl U .i64 k N HNQ.out rfl rfl hlt HLU.out ?_)
      rw [HW1.out]
      refine bx_op3 ?_
      go_region_held3 (fun v => v.cell? ⟨wr.heap.size, 0, none⟩ = some (.int .u64 (wd N 0 : Nat)) ∧ v.cell? ⟨wr.heap.size, 1, none⟩ = some (.int .u64 (wd N 1 : Nat)) ∧ v.cell? ⟨wr.heap.size, 2, none⟩ = some (.int .u64 (wd N 2 : Nat)) ∧ v.cell? ⟨wr.heap.size, 3, none⟩ = some (.int .u64 (wd N 3 : Nat)) ∧ v.cell? ⟨wr.heap.size, 4, none⟩ = some (.int .u64 (wd N 4 : Nat))) (first | (with_reducible exact SD) | (with_reducible exact zS1) | (exact BlkH.cells (BlkA.other5 H1 (by omega) _ _ _ _ _))) (first | (go_at_call 63; (with_reducible refine (ior_any M N _).mono ?_); rintro e w5 ⟨rfl, d1⟩; have X1 : BlkT w5 w.heap.size R := BlkA.below HX0.out d1; have H1 : BlkH w5 wr.heap.size N := BlkA.below HH0.out d1; have zS1 : w5.cell? ⟨wr.heap.size, 0, none⟩ = some (.int .u64 (wd N 0 : Nat)) ∧ w5.cell? ⟨wr.heap.size, 1, none⟩ = some (.int .u64 (wd N 1 : Nat)) ∧ w5.cell? ⟨wr.heap.size, 2, none⟩ = some (.int .u64 (wd N 2 : Nat)) ∧ w5.cell? ⟨wr.heap.size, 3, none⟩ = some (.int .u64 (wd N 3 : Nat)) ∧ w5.cell? ⟨wr.heap.size, 4, none⟩ = some (.int .u64 (wd N 4 : Nat)) := H1.cells; have K1 := blink K0 d1; obtain ⟨g0, g1, g2, g3, g4⟩ := HCELL.out _ X1; have f0 := BlkA.frozen X1 (k * 5); have f1 := BlkA.frozen X1 (k * 5 + 1); have f2 := BlkA.frozen X1 (k * 5 + 2); have f3 := BlkA.frozen X1 (k * 5 + 3); have f4 := BlkA.frozen X1 (k * 5 + 4)))
      all_goals
        have X2 := X1.store k (M ||| N) (by rw [HLK.out]; exact hlt)
        have R2 := BlkA.other5 (C := w.heap.size) (s := k) (BlkA.below HR.out K1) (by omega) (.int .u64 (wd (M ||| N) 0 : Nat)) (.int .u64 (wd (M ||| N) 1 : Nat)) (.int .u64 (wd (M ||| N) 2 : Nat)) (.int .u64 (wd (M ||| N) 3 : Nat)) (.int .u64 (wd (M ||| N) 4 : Nat))
        have K2 := below_set5 (B := w.heap.size) (s := k) (HN.out.trans (K1.mono hww)) (Nat.le_refl _) (.int .u64 (wd (M ||| N) 0 : Nat)) (.int .u64 (wd (M ||| N) 1 : Nat)) (.int .u64 (wd (M ||| N) 2 : Nat)) (.int .u64 (wd (M ||| N) 3 : Nat)) (.int .u64 (wd (M ||| N) 4 : Nat))
        have HX2 := Lib.hid X2
        have HR2 := Lib.hid R2
        have HK2 := Lib.hid K2
        clear X2 R2 K2 g0 g1 g2 g3 g4 f0 f1 f2 f3 f4 X1 H1 K1 d1
        generalize (((((w5.setCell ⟨w.heap.size, k * 5, none⟩ (.int .u64 (wd (M ||| N) 0 : Nat))).setCell ⟨w.heap.size, k * 5 + 1, none⟩ (.int .u64 (wd (M ||| N) 1 : Nat))).setCell ⟨w.heap.size, k * 5 + 2, none⟩ (.int .u64 (wd (M ||| N) 2 : Nat))).setCell ⟨w.heap.size, k * 5 + 3, none⟩ (.int .u64 (wd (M ||| N) 3 : Nat))).setCell ⟨w.heap.size, k * 5 + 4, none⟩ (.int .u64 (wd (M ||| N) 4 : Nat))) = WZ at HX2 HR2 HK2 ⊢
        go_wp2_with fail
        go_roundw
        case rel => exact ⟨k + 1, by omega, by go_num, by rw [HS.out]; exact HX2.out, HR2.out, HK2.out⟩
        case measure => simp [intOf]; omega
    · have hk' : k = 8 := by omega
      subst hk'
      obtain ⟨R8, hR8⟩ : ∃ R, orT T U = R := ⟨_, rfl⟩
      have HR8 := Lib.hid hR8
      have HTO : Hid (R8.length = 8) := Lib.hid (by rw [← hR8]; exact (orT_ok HT.out HU.out).len)
      have HX8 : Hid (BlkT wr w.heap.size R8) := Lib.hid (by rw [← hR8]; exact HX.out)
      clear hR8 HX
      go_wp2_with (first
        | (refine wpList_load_row (o := ⟨some 20, _, _, _, _, _⟩) rfl 94 (.tmp 2) rfl w.heap.size rfl 94 _ (0, 0) _ HX8.out (show Try.prog.underlying 94 = some (.array 8 92) by kernel_rfl) rfl (tw_info HTO.out) ?_)
        | (refine wpList_store_row (o := ⟨none, _, _, _, _, _⟩) rfl 94 (.tmp 4) (.tmp 20) rfl (w.heap.size + 1 + 1) (tw R8) rfl rfl 94 _ HR.out (tw_info HTO.out) (by rw [tw_size, tw_size, HTO.out, HL0.out]) (tw_ones _) ?_))
      refine bodyPost_ret (v := tv R8) ?_ rfl ⟨by rw [HR8.out], below_setRowT HN.out (by omega)⟩
      exact results_cell_row Try.results68 _ _ (w.heap.size + 1 + 1) 94 _ (0, 0) _ rfl (setRow_heapT _ _ _ _ _ _ HR.out) (show Try.prog.underlying 94 = some (.array 8 92) by kernel_rfl) rfl (tw_info HTO.out)
end Go.Proofs.Ytamnojhkfknnoaa
