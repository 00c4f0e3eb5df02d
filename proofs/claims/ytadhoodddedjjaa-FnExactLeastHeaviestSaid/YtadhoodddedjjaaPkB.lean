/-
  Contracts of impl.bagsByStop, and of the program's SplitRound.
-/
import Derived.Test.YtadhoodddedjjaaPkT
import Derived.Test.YtadhoodddedjjaaPkS
namespace Go.Proofs.Ytadhoodddedjjaa
open Go Go.RowKit
set_option linter.unusedVariables false

theorem results_cell_row3 {P : Program} {fn : Func} {p u v : Tmp} {ty : TypeId} (h : fn.results = #[.cell p ty, .tmp u, .tmp v]) (tmps : Array Value) (w : World) (g : Nat) (t : TypeId) (cs : Array Value) (fr : Nat × Nat) (d : TypeDesc) (x y : Value)
    (hp : tmps.getD p undef = .pointer (some ⟨g, 0, none⟩)) (hx : tmps.getD u undef = x) (hy : tmps.getD v undef = y) (hg : w.heap[g]? = some (.cells cs t fr))
    (hu : P.underlying ty = some d) (hd : (match d with | .struct _ | .array _ _ => true | _ => false) = true) (hi : (P.info? ty).map (·.size) = some cs.size) :
    (results fn tmps).run P w = .ok (.tuple #[.agg cs, x, y]) w := by
  have hp' : tmps[p]?.getD undef = .pointer (some ⟨g, 0, none⟩) := by simpa using hp
  have hx' : tmps[u]?.getD undef = x := by simpa using hx
  have hy' : tmps[v]?.getD undef = y := by simpa using hy
  simp [results, h, hp', hx', hy', asAddr, run_loadVar_row w g t ty cs fr d hg hu hd hi]
def arr9 (L : List Int) : Value := .agg (L.map (Value.int .i64)).toArray
/-- What bagsByStop answers: an array of nine, a number, and whether all fits. -/
def RetBags (ps : List (Int × Int)) (most : Int) (w : World) (e : Ending) (w' : World) : Prop :=
  ∃ L : List Int, L.length = 9 ∧ ((FitTo ps most 9 ∧ L = bagsA ps most 9 ∧ e = .returned (.tuple #[arr9 L, .int .i64 (fill ps most 9).1, .bool true])) ∨ (¬ FitTo ps most 9 ∧ e = .returned (.tuple #[arr9 L, .int .i64 0, .bool false]))) ∧ Below w.heap.size w w'

set_option maxHeartbeats 8000000 in
set_option maxRecDepth 100000 in
theorem ibags_any (v : Value) (ps : List (Int × Int)) (most : Int) (w : World) (hv : ReadsQ w v ps) (hvl : vldQ ps = true) (hm1 : 1 ≤ most) (hm2 : most ≤ 9223372036854775807) :
    Calls Try.prog 74 #[v, .int .i64 most] w (RetBags ps most w) := by
  obtain ⟨h10, hok⟩ := vldQ_spec hvl
  have HVL := Lib.hid hvl
  have H10 := Lib.hid h10
  have HOK := Lib.hid hok
  have HB0 : Hid (Below w.heap.size w (w.alloc (.cells #[.int .i64 0, .int .i64 0, .int .i64 0, .int .i64 0, .int .i64 0, .int .i64 0, .int .i64 0, .int .i64 0, .int .i64 0] 63))) := Lib.hid ((Below.refl _ _).alloc (Nat.le_refl _) _)
  have HV := Lib.hid (hv.below HB0.out)
  have HA : Hid (BlockI (w.alloc (.cells #[.int .i64 0, .int .i64 0, .int .i64 0, .int .i64 0, .int .i64 0, .int .i64 0, .int .i64 0, .int .i64 0, .int .i64 0] 63)) w.heap.size 63 (bagsA ps most 0)) := Lib.hid (by rw [bagsA_zero]; exact BlockI.new w _ zero9)
  clear hv hvl h10 hok
  go_enter Try.func74, Try.ntmps74
  go_wp2_with fail
  refine (iwts_any _ ps _ HV.out HVL.out).mono ?_
  rintro e w2 ⟨rfl, b2⟩
  have HB2 : Hid (Below w.heap.size w w2) := Lib.hid (blink HB0.out b2)
  have HA2 : Hid (BlockI w2 w.heap.size 63 (bagsA ps most 0)) := Lib.hid ((b2.block _ HA.out.lt).trans HA.out)
  clear b2
  unfold wtsV
  obtain ⟨cs, hcs⟩ : ∃ cs, ((wts ps).map (Value.int .i64)).toArray = cs := ⟨_, rfl⟩
  have HCS : Hid (∀ m : Nat, m < 9 → cs[m]? = some (.int .i64 (wt ps (m : Int)))) := Lib.hid (fun m hm => by rw [← hcs]; exact wtsV_at ps m hm)
  rw [hcs]
  clear hcs
  go_wp2_with fail
  go_loopw [5, 7, 12] (fun c r i wr => ∃ k : Nat, k ≤ 9 ∧ i = .int .i64 k ∧ c = .int .i64 (fill ps most k).1 ∧ r = .int .i64 (fill ps most k).2 ∧ FitTo ps most k ∧ BlockI wr w.heap.size 63 (bagsA ps most k) ∧ Below w.heap.size w wr) (fun _ _ i _ => 9 - (intOf i).toNat)
  case atStart => exact ⟨0, by omega, rfl, rfl, rfl, FitTo.zero _ _, HA2.out, HB2.out⟩
  case round =>
    obtain ⟨k, hk, rfl, rfl, rfl, hft, hbl, hnx⟩ := hrel
    have HF := Lib.hid hft
    have HBL := Lib.hid hbl
    have HN := Lib.hid hnx
    by_cases hlt : k < 9
    · have hfb := fill_bd HOK.out H10.out most (by omega) k hft
      have hqb := wt_bd HOK.out H10.out (k : Int)
      have hlt9 : (k : Int) < 9 := by omega
      have d0 := hbl.cell k (by rw [bagsA_len]; exact hlt)
      have f0 := hbl.frozen k
      have HSET : Hid ((bagsA ps most k).set k ((fill ps most (k + 1)).1 - 1) = bagsA ps most (k + 1)) := Lib.hid (bagsA_set hlt)
      have HFS : Hid (fill ps most (k + 1) = if (fill ps most k).2 < wt ps (k : Int) then ((fill ps most k).1 + 1, most - wt ps (k : Int)) else ((fill ps most k).1, (fill ps most k).2 - wt ps (k : Int))) := Lib.hid rfl
      obtain ⟨q, hq⟩ : ∃ q, wt ps (k : Int) = q := ⟨_, rfl⟩
      have HC : Hid (cs[k]? = some (.int .i64 q)) := Lib.hid (by rw [← hq]; exact HCS.out k hlt)
      have HQ := Lib.hid hq
      rw [hq] at hqb HFS
      obtain ⟨c, hc⟩ : ∃ c, (fill ps most k).1 = c := ⟨_, rfl⟩
      obtain ⟨r, hr⟩ : ∃ r, (fill ps most k).2 = r := ⟨_, rfl⟩
      rw [hc, hr] at hfb HFS
      rw [hc, hr]
      have hc1 := hfb.1
      have hc2 : c ≤ 9 := by have := hfb.2.1; omega
      have hr1 := hfb.2.2.1
      have hr2 := hfb.2.2.2
      have hq1 := hqb.1
      have hq2 := hqb.2
      obtain ⟨z, hz⟩ : ∃ z, (bagsA ps most k).getD k 0 = z := ⟨_, rfl⟩
      rw [hz] at d0
      clear hq hc hr hft hbl hnx hfb hqb hz
      by_cases h1 : q ≤ most
      · have t1 : decide (most < q) = false := decide_eq_false (by omega)
        by_cases h2 : r < q
        · have t2 : decide (r < q) = true := decide_eq_true h2
          have HF1 : Hid ((fill ps most (k + 1)).1 = c + 1 ∧ (fill ps most (k + 1)).2 = most - q) := Lib.hid (by rw [HFS.out, if_pos h2]; exact ⟨rfl, rfl⟩)
          go_wp2_with (refine wpList_index_arr (o := ⟨some 15, _, _, _, _, _⟩) rfl 63 2 (.tmp 11) (.tmp 12) rfl 9 cs .i64 k (.int .i64 q) rfl rfl Try.underlying63 hlt HC.out _ Try.underlying2 rfl (by kernel_rfl) ?_)
          go_roundw
          case rel =>
            refine ⟨k + 1, by omega, by go_num, by rw [HF1.out.1], by rw [HF1.out.2], HF.out.succ (by rw [HQ.out]; exact h1), ?_, HN.out.setCell (Nat.le_refl _) _⟩
            have hs := HBL.out.set k ((fill ps most (k + 1)).1 - 1)
            rw [HSET.out, HF1.out.1] at hs
            simpa using hs
          case measure => simp [intOf]; omega
        · have t2 : decide (r < q) = false := decide_eq_false h2
          have HF1 : Hid ((fill ps most (k + 1)).1 = c ∧ (fill ps most (k + 1)).2 = r - q) := Lib.hid (by rw [HFS.out, if_neg h2]; exact ⟨rfl, rfl⟩)
          go_wp2_with (refine wpList_index_arr (o := ⟨some 15, _, _, _, _, _⟩) rfl 63 2 (.tmp 11) (.tmp 12) rfl 9 cs .i64 k (.int .i64 q) rfl rfl Try.underlying63 hlt HC.out _ Try.underlying2 rfl (by kernel_rfl) ?_)
          go_roundw
          case rel =>
            refine ⟨k + 1, by omega, by go_num, by rw [HF1.out.1], by rw [HF1.out.2], HF.out.succ (by rw [HQ.out]; exact h1), ?_, HN.out.setCell (Nat.le_refl _) _⟩
            have hs := HBL.out.set k ((fill ps most (k + 1)).1 - 1)
            rw [HSET.out, HF1.out.1] at hs
            exact hs
          case measure => simp [intOf]; omega
      · have t1 : decide (most < q) = true := decide_eq_true (by omega)
        have HNF : Hid (¬ FitTo ps most 9) := Lib.hid (fun h => h1 (by have := h k hlt; rw [HQ.out] at this; exact this))
        obtain ⟨a0, a1, a2, a3, a4, a5, a6, a7, a8, hL⟩ := list9 (bagsA_len ps most k)
        have G0 : Hid (wr.heap[w.heap.size]? = some (.cells #[.int .i64 a0, .int .i64 a1, .int .i64 a2, .int .i64 a3, .int .i64 a4, .int .i64 a5, .int .i64 a6, .int .i64 a7, .int .i64 a8] 63 (0, 0))) := Lib.hid (by
          have h := HBL.out
          rw [hL] at h
          exact h)
        clear hL d0 f0
        go_wp2_with (first
          | (refine wpList_index_arr (o := ⟨some 15, _, _, _, _, _⟩) rfl 63 2 (.tmp 11) (.tmp 12) rfl 9 cs .i64 k (.int .i64 q) rfl rfl Try.underlying63 hlt HC.out _ Try.underlying2 rfl (by kernel_rfl) ?_)
          | (refine wpList_load_row (o := ⟨some 19, _, _, _, _, _⟩) rfl 63 (.tmp 4) rfl w.heap.size rfl 63 _ (0, 0) _ G0.out rfl rfl rfl ?_)
          | (refine wpList_store_row (o := ⟨none, _, _, _, _, _⟩) rfl 63 (.tmp 4) (.tmp 19) rfl w.heap.size #[.int .i64 a0, .int .i64 a1, .int .i64 a2, .int .i64 a3, .int .i64 a4, .int .i64 a5, .int .i64 a6, .int .i64 a7, .int .i64 a8] rfl rfl 63 _ G0.out rfl rfl (ones9 a0 a1 a2 a3 a4 a5 a6 a7 a8) ?_))
        refine bodyPost_ret (v := .tuple #[.agg #[.int .i64 a0, .int .i64 a1, .int .i64 a2, .int .i64 a3, .int .i64 a4, .int .i64 a5, .int .i64 a6, .int .i64 a7, .int .i64 a8], .int .i64 0, .bool false]) ?_ rfl ⟨[a0, a1, a2, a3, a4, a5, a6, a7, a8], rfl, .inr ⟨HNF.out, rfl⟩, below_setRow HN.out (Nat.le_refl _)⟩
        exact results_cell_row3 Try.results74 _ _ w.heap.size 63 _ (0, 0) _ _ _ rfl rfl rfl (setRow_heap _ _ _ _ _ _ G0.out) rfl rfl rfl
    · have hk9 : k = 9 := by omega
      subst hk9
      obtain ⟨a0, a1, a2, a3, a4, a5, a6, a7, a8, hL⟩ := list9 (bagsA_len ps most 9)
      have G0 : Hid (wr.heap[w.heap.size]? = some (.cells #[.int .i64 a0, .int .i64 a1, .int .i64 a2, .int .i64 a3, .int .i64 a4, .int .i64 a5, .int .i64 a6, .int .i64 a7, .int .i64 a8] 63 (0, 0))) := Lib.hid (by
        have h := hbl
        rw [hL] at h
        exact h)
      have HL := Lib.hid hL
      clear hL hft hbl hnx
      go_wp2_with (first
        | (refine wpList_load_row (o := ⟨some 34, _, _, _, _, _⟩) rfl 63 (.tmp 4) rfl w.heap.size rfl 63 _ (0, 0) _ G0.out rfl rfl rfl ?_)
        | (refine wpList_store_row (o := ⟨none, _, _, _, _, _⟩) rfl 63 (.tmp 4) (.tmp 34) rfl w.heap.size #[.int .i64 a0, .int .i64 a1, .int .i64 a2, .int .i64 a3, .int .i64 a4, .int .i64 a5, .int .i64 a6, .int .i64 a7, .int .i64 a8] rfl rfl 63 _ G0.out rfl rfl (ones9 a0 a1 a2 a3 a4 a5 a6 a7 a8) ?_))
      refine bodyPost_ret (v := .tuple #[.agg #[.int .i64 a0, .int .i64 a1, .int .i64 a2, .int .i64 a3, .int .i64 a4, .int .i64 a5, .int .i64 a6, .int .i64 a7, .int .i64 a8], .int .i64 (fill ps most 9).1, .bool true]) ?_ rfl ⟨[a0, a1, a2, a3, a4, a5, a6, a7, a8], rfl, .inl ⟨HF.out, HL.out.symm, rfl⟩, below_setRow HN.out (Nat.le_refl _)⟩
      exact results_cell_row3 Try.results74 _ _ w.heap.size 63 _ (0, 0) _ _ _ rfl rfl rfl (setRow_heap _ _ _ _ _ _ G0.out) rfl rfl rfl
end Go.Proofs.Ytadhoodddedjjaa
