/-
  The model's duty class by class: plain, and its contracts.
-/
import Derived.Test.YtocogipejchneaaCuA
import Derived.Test.YtocogipejchneaaCuF
namespace Go.Proofs.Ytocogipejchneaa
open Go Go.RowKit
set_option linter.unusedVariables false

set_option maxHeartbeats 1000000 in
set_option maxRecDepth 100000 in
theorem ssum_zero (a : Option Addr) (cap : Nat) (c : Int) (w : World) :
    Calls Try.prog 16 #[.slice a 0 cap, .int .i64 c] w fun e w' => e = .returned (qsV [] c) ∧ Below w.heap.size w w' := by
  have G0 : Hid (((w.alloc (.cells #[.int .i64 0, .int .i64 0, .int .i64 0, .int .i64 0] 38)).alloc (.cells #[.int .i64 0, .int .i64 0, .int .i64 0, .int .i64 0] 38)).heap[w.heap.size]? = some (.cells #[.int .i64 0, .int .i64 0, .int .i64 0, .int .i64 0] 38 (0, 0))) := Lib.hid ((BlockI.new w 38 zero4).alloc _)
  have HB : Hid (Below w.heap.size w ((w.alloc (.cells #[.int .i64 0, .int .i64 0, .int .i64 0, .int .i64 0] 38)).alloc (.cells #[.int .i64 0, .int .i64 0, .int .i64 0, .int .i64 0] 38))) := Lib.hid (((Below.refl _ _).alloc (Nat.le_refl _) _).alloc (by simp) _)
  go_enter Try.func16, Try.ntmps16
  go_wp2_with fail
  refine wp_loop_rounds 1 ?_
  rw [rounds_succ]
  go_wp2_with fail
  refine bodyPost_ret (v := .agg #[.int .i64 0, .int .i64 0, .int .i64 0, .int .i64 0]) ?_ rfl ⟨rfl, HB.out⟩
  exact results_cell_row Try.results16 _ _ w.heap.size 38 _ (0, 0) _ rfl G0.out rfl rfl rfl
theorem ssum_any (u : Value) (cs ls : List Quad) (c : Int) (h : vldF cs ls = true) (w : World) (hu : ReadsL w u ls) :
    Calls Try.prog 16 #[u, .int .i64 c] w fun e w' => e = .returned (qsV ls c) ∧ Below w.heap.size w w' := by
  obtain ⟨a, cap, rfl, hc⟩ := hu
  obtain ⟨hvc, h10, hok⟩ := vldF_spec h
  obtain ⟨⟨h1, hc8⟩, hoc⟩ := vldC_spec hvc
  by_cases h0 : ls = []
  · subst h0
    exact ssum_zero a cap c w
  · obtain ⟨b, rfl, hcl⟩ := hc h0
    exact ssum_row b ls.length cap ls c cs.length rfl h10 hok hc8 w hcl

/-- The duty of the first k classes, each one's lines together. -/
def allTo (cs ls : List Quad) (how : Int) : Nat → Int
  | 0 => 0
  | k + 1 => allTo cs ls how k + (if 0 < q0 ls k ls.length then chargeR (cs.getD k (0, 0, 0, 0)) (q2 ls k ls.length) (q3 ls k ls.length) how else 0)
theorem qs_all {cs ls : List Quad} (h : vldF cs ls = true) (c : Int) : (0 ≤ q0 ls c ls.length ∧ q0 ls c ls.length ≤ 10) ∧ (0 ≤ q1 ls c ls.length ∧ q1 ls c ls.length ≤ 10000) ∧ (0 ≤ q2 ls c ls.length ∧ q2 ls c ls.length ≤ 10000000) ∧ (0 ≤ q3 ls c ls.length ∧ q3 ls c ls.length ≤ 10000000) := by
  obtain ⟨hvc, h10, hok⟩ := vldF_spec h
  have := qs_in c hok
  omega
theorem charge_all {cs ls : List Quad} (h : vldF cs ls = true) (how : Int) {k : Nat} (hk : k < cs.length) : 0 ≤ chargeR (cs.getD k (0, 0, 0, 0)) (q2 ls k ls.length) (q3 ls k ls.length) how ∧ chargeR (cs.getD k (0, 0, 0, 0)) (q2 ls k ls.length) (q3 ls k ls.length) how ≤ 20000000000 := by
  obtain ⟨hvc, h10, hok⟩ := vldF_spec h
  obtain ⟨_, hoc⟩ := vldC_spec hvc
  have h1 := qs_all h k
  exact chargeR_in (hoc k hk) h1.2.2.1.1 h1.2.2.1.2 h1.2.2.2.1 h1.2.2.2.2
theorem allTo_in {cs ls : List Quad} {how : Int} {k : Nat} (h : vldF cs ls = true) (hk : k ≤ cs.length) : 0 ≤ allTo cs ls how k ∧ allTo cs ls how k ≤ 20000000000 * k := by
  induction k with
  | zero => simp [allTo]
  | succ k ih =>
    have h1 := ih (by omega)
    have h2 := charge_all h how (k := k) (by omega)
    rw [allTo]
    split <;> omega

theorem keepA {m : Nat} {z W : World} {c o X : Nat} {b0 b1 b2 b3 s2 s3 : Value} (hb : Below m z W) (h0 : c < m) (hX : X < m)
    (h : (z.cell? ⟨c, o, none⟩ = some b0 ∧ z.cell? ⟨c, o + 1, none⟩ = some b1 ∧ z.cell? ⟨c, o + 2, none⟩ = some b2 ∧ z.cell? ⟨c, o + 3, none⟩ = some b3) ∧ z.cell? ⟨X, 2, none⟩ = some s2 ∧ z.cell? ⟨X, 3, none⟩ = some s3) :
    (W.cell? ⟨c, o, none⟩ = some b0 ∧ W.cell? ⟨c, o + 1, none⟩ = some b1 ∧ W.cell? ⟨c, o + 2, none⟩ = some b2 ∧ W.cell? ⟨c, o + 3, none⟩ = some b3) ∧ W.cell? ⟨X, 2, none⟩ = some s2 ∧ W.cell? ⟨X, 3, none⟩ = some s3 := by
  obtain ⟨⟨y0, y1, y2, y3⟩, x2, x3⟩ := h
  exact ⟨⟨(hb.cell (p := ⟨c, o, none⟩) h0).trans y0, (hb.cell (p := ⟨c, o + 1, none⟩) h0).trans y1, (hb.cell (p := ⟨c, o + 2, none⟩) h0).trans y2, (hb.cell (p := ⟨c, o + 3, none⟩) h0).trans y3⟩, (hb.cell (p := ⟨X, 2, none⟩) hX).trans x2, (hb.cell (p := ⟨X, 3, none⟩) hX).trans x3⟩

end Go.Proofs.Ytocogipejchneaa
