/-
  The sums of a form for one class: plain; the model's sums, and its duty class by class.
-/
import Derived.Test.YtocogipejchneaaRLine
import Derived.Test.YtocogipejchneaaRClass
import Derived.Test.YtocogipejchneaaCuP
import Derived.Test.YtocogipejchneaaBlock
import Derived.RegionTactic
import Derived.BigRegion
namespace Go.Proofs.Ytocogipejchneaa
open Go Go.RowKit
set_option linter.unusedVariables false

abbrev Quad := Int × Int × Int × Int
/-- The sum of f over those of the first k lines that are of class c. -/
def sumIf (f : Quad → Int) (ls : List Quad) (c : Int) : Nat → Int
  | 0 => 0
  | k + 1 => sumIf f ls c k + (if (ls.getD k (0, 0, 0, 0)).1 = c then f (ls.getD k (0, 0, 0, 0)) else 0)
theorem sumIf_in {f : Quad → Int} {ls : List Quad} {c B : Int} {k : Nat} (hB : 0 ≤ B) (h : ∀ i, i < k → 0 ≤ f (ls.getD i (0, 0, 0, 0)) ∧ f (ls.getD i (0, 0, 0, 0)) ≤ B) : 0 ≤ sumIf f ls c k ∧ sumIf f ls c k ≤ B * k := by
  induction k with
  | zero => simp [sumIf]
  | succ k ih =>
    have h1 := ih (fun i hi => h i (by omega))
    have h2 := h k (by omega)
    rw [sumIf, show B * ((k + 1 : Nat) : Int) = B * k + B from by rw [Int.natCast_add, Int.mul_add]; simp]
    split <;> omega
theorem sumIf_yes {f : Quad → Int} {ls : List Quad} {c : Int} {k : Nat} (h : (ls.getD k (0, 0, 0, 0)).1 = c) : sumIf f ls c (k + 1) = sumIf f ls c k + f (ls.getD k (0, 0, 0, 0)) := by rw [sumIf, if_pos h]
theorem sumIf_no {f : Quad → Int} {ls : List Quad} {c : Int} {k : Nat} (h : ¬ (ls.getD k (0, 0, 0, 0)).1 = c) : sumIf f ls c (k + 1) = sumIf f ls c k := by rw [sumIf, if_neg h, Int.add_zero]
/-- How many lines, how many things, their worth, their grams. -/
def q0 (ls : List Quad) (c : Int) (k : Nat) : Int := sumIf (fun _ => 1) ls c k
def q1 (ls : List Quad) (c : Int) (k : Nat) : Int := sumIf (fun l => l.2.1) ls c k
def q2 (ls : List Quad) (c : Int) (k : Nat) : Int := sumIf (fun l => l.2.2.1) ls c k
def q3 (ls : List Quad) (c : Int) (k : Nat) : Int := sumIf (fun l => l.2.2.2) ls c k
def qs (ls : List Quad) (c : Int) (k : Nat) : List Int := [q0 ls c k, q1 ls c k, q2 ls c k, q3 ls c k]
theorem qs_in {n : Nat} {ls : List Quad} {k : Nat} (c : Int) (h : OkLTo n ls k) : (0 ≤ q0 ls c k ∧ q0 ls c k ≤ 1 * k) ∧ (0 ≤ q1 ls c k ∧ q1 ls c k ≤ 1000 * k) ∧ (0 ≤ q2 ls c k ∧ q2 ls c k ≤ 1000000 * k) ∧ (0 ≤ q3 ls c k ∧ q3 ls c k ≤ 1000000 * k) := by
  refine ⟨sumIf_in (by omega) (fun i _ => by simp), sumIf_in (by omega) (fun i hi => ?_), sumIf_in (by omega) (fun i hi => ?_), sumIf_in (by omega) (fun i hi => ?_)⟩
  all_goals
    have h1 := h i hi
    unfold okL at h1
    omega
theorem qs_yes {ls : List Quad} {c : Int} {k : Nat} {x y z t : Int} (h : ls.getD k (0, 0, 0, 0) = (x, y, z, t)) (hx : x = c) : q0 ls c (k + 1) = q0 ls c k + 1 ∧ q1 ls c (k + 1) = q1 ls c k + y ∧ q2 ls c (k + 1) = q2 ls c k + z ∧ q3 ls c (k + 1) = q3 ls c k + t := by
  have h1 : (ls.getD k (0, 0, 0, 0)).1 = c := by rw [h]; exact hx
  refine ⟨sumIf_yes h1, ?_, ?_, ?_⟩
  · rw [q1, sumIf_yes h1, h]; rfl
  · rw [q2, sumIf_yes h1, h]; rfl
  · rw [q3, sumIf_yes h1, h]; rfl
theorem qs_no {ls : List Quad} {c : Int} {k : Nat} {x y z t : Int} (h : ls.getD k (0, 0, 0, 0) = (x, y, z, t)) (hx : ¬ x = c) : qs ls c (k + 1) = qs ls c k := by
  have h1 : ¬ (ls.getD k (0, 0, 0, 0)).1 = c := by rw [h]; exact hx
  rw [qs, q0, q1, q2, q3, sumIf_no h1, sumIf_no h1, sumIf_no h1, sumIf_no h1]
  rfl
/-- The four sums, as the array that the model answers. -/
def qsV (ls : List Quad) (c : Int) : Value := .agg #[.int .i64 (q0 ls c ls.length), .int .i64 (q1 ls c ls.length), .int .i64 (q2 ls c ls.length), .int .i64 (q3 ls c ls.length)]
abbrev zero4 : List Int := [0, 0, 0, 0]
theorem ones4 (a0 a1 a2 a3 : Int) : (#[.int .i64 a0, .int .i64 a1, .int .i64 a2, .int .i64 a3] : Array Value).all (·.oneCell') = true := by
  rw [Array.all_eq_true_iff_forall_mem]
  intro v hv
  simp at hv
  rcases hv with rfl | rfl | rfl | rfl <;> rfl
theorem below_setRow4 {B : Nat} {w0 w : World} {g : Nat} {cs : Array Value} (hb : Below B w0 w) (hg : B ≤ g) : Below B w0 (w.setRow g cs) :=
  hb.trans ⟨rfl, rfl, rfl, by simp [World.setRow], fun k hk => by simp only [World.setRow]; rw [Array.getElem?_modify]; rw [if_neg (by omega)]⟩

set_option maxHeartbeats 2000000 in
set_option maxRecDepth 100000 in
theorem ssum_row (b len cap : Nat) (ls : List Quad) (c : Int) (n : Nat) (hl : ls.length = len) (h10 : len ≤ 10) (hok : OkLTo n ls ls.length) (hn : n ≤ 8) (w : World) (hc : CellsL w b ls) :
    Calls Try.prog 16 #[.slice (some ⟨b, 0, none⟩) len cap, .int .i64 c] w fun e w' => e = .returned (qsV ls c) ∧ Below w.heap.size w w' := by
  have HL := Lib.hid hl
  have HOK := Lib.hid hok
  have HC := Lib.hid hc
  clear hl hok hc
  go_enter Try.func16, Try.ntmps16
  go_wp2_with fail
  go_loopw [6] (fun i wr => ∃ k : Nat, k ≤ len ∧ i = .int .i64 k ∧ BlockI wr w.heap.size 38 zero4 ∧ BlockI wr (w.heap.size + 1) 38 (qs ls c k) ∧ Below w.heap.size w wr) (fun i _ => len - (intOf i).toNat)
  case atStart =>
    refine ⟨0, Nat.zero_le _, rfl, (BlockI.new w _ zero4).alloc _, ?_, ((Below.refl _ _).alloc (Nat.le_refl _) _).alloc (by simp) _⟩
    have h := BlockI.new (w.alloc (.cells #[.int .i64 0, .int .i64 0, .int .i64 0, .int .i64 0] 38)) 38 zero4
    simp only [World.size_alloc] at h
    exact h
  case round =>
    obtain ⟨k, hk, rfl, h0, h1, hnx⟩ := hrel
    have HB := Lib.hid hnx
    have H0 := Lib.hid h0
    have H1 := Lib.hid h1
    by_cases hlt : k < len
    · have hkp : k < ls.length := by have := HL.out; omega
      obtain ⟨c0, c1, c2, c3⟩ := HC.out.below hnx k hkp
      have hq1 := HOK.out k hkp
      unfold okL at hq1
      have hin := qs_in c (fun i hi => HOK.out i (by omega) : OkLTo n ls k)
      obtain ⟨q, hq⟩ : ∃ q, ls.getD k (0, 0, 0, 0) = q := ⟨_, rfl⟩
      rw [hq] at c0 c1 c2 c3 hq1
      obtain ⟨x, y, z, t⟩ := q
      simp only at hq1 c0 c1 c2 c3
      have hkl : (k : Int) < (len : Int) := by omega
      by_cases hxs : x = c
      · have hbe : (x == c) = true := by simp [hxs]
        obtain ⟨y0, y1, y2, y3⟩ := qs_yes hq hxs
        have HY : Hid (qs ls c (k + 1) = [q0 ls c k + 1, q1 ls c k + y, q2 ls c k + z, q3 ls c k + t]) := Lib.hid (by rw [qs, y0, y1, y2, y3])
        have HQS : Hid (qs ls c k = [q0 ls c k, q1 ls c k, q2 ls c k, q3 ls c k]) := Lib.hid rfl
        obtain ⟨s0, e0⟩ : ∃ s, q0 ls c k = s := ⟨_, rfl⟩
        obtain ⟨s1, e1⟩ : ∃ s, q1 ls c k = s := ⟨_, rfl⟩
        obtain ⟨s2, e2⟩ : ∃ s, q2 ls c k = s := ⟨_, rfl⟩
        obtain ⟨s3, e3⟩ : ∃ s, q3 ls c k = s := ⟨_, rfl⟩
        rw [e0, e1, e2, e3] at HY HQS hin
        have H1a : Hid (BlockI wr (w.heap.size + 1) 38 [s0, s1, s2, s3]) := Lib.hid (by rw [← HQS.out]; exact H1.out)
        have d0 := H1a.out.cell 0 (by simp)
        have d1 := H1a.out.cell 1 (by simp)
        have d2 := H1a.out.cell 2 (by simp)
        have d3 := H1a.out.cell 3 (by simp)
        have f0 := H1a.out.frozen 0
        have f1 := H1a.out.frozen 1
        have f2 := H1a.out.frozen 2
        have f3 := H1a.out.frozen 3
        simp only [List.getD_cons_zero, List.getD_cons_succ] at d0 d1 d2 d3
        have hbs : w.heap.size + 1 < wr.heap.size := H1a.out.lt
        obtain ⟨⟨i0, i1⟩, ⟨i2, i3⟩, ⟨i4, i5⟩, ⟨i6, i7⟩⟩ := hin
        have hbw : b < w.heap.size := by
          obtain ⟨c0', _⟩ := HC.out k hkp
          exact World.block_lt_of_cell? w _ c0'
        clear hq hnx h0 h1 y0 y1 y2 y3 e0 e1 e2 e3
        go_wp2_with fail
        go_region
        go_wp2_with fail
        go_region
        go_wp2_with fail
        go_region
        go_wp2_with fail
        go_roundw
        case rel =>
          refine ⟨k + 1, by omega, by go_num, ?_, ?_, ?_⟩
          · exact (((H0.out.other _ _ (by simp)).other _ _ (by simp)).other _ _ (by simp)).other _ _ (by simp)
          · rw [HY.out]; exact (((H1a.out.set 0 (s0 + 1)).set 1 (s1 + y)).set 2 (s2 + z)).set 3 (s3 + t)
          · exact ((((HB.out.setCell (by simp) _).setCell (by simp) _).setCell (by simp) _).setCell (by simp) _).drew.drew.drew
        case measure => simp [intOf]; omega
      · have hbe : (x == c) = false := by simp [hxs]
        have HNO := Lib.hid (qs_no hq hxs)
        clear hq hnx hin h0 h1
        go_wp2_with fail
        go_roundw
        case rel => exact ⟨k + 1, by omega, by go_num, H0.out, by rw [HNO.out]; exact H1.out, HB.out⟩
        case measure => simp [intOf]; omega
    · have HE : Hid (k = ls.length) := Lib.hid (by have := HL.out; omega)
      clear hnx h0 h1
      have HV : Hid (qsV ls c = .agg #[.int .i64 (q0 ls c k), .int .i64 (q1 ls c k), .int .i64 (q2 ls c k), .int .i64 (q3 ls c k)]) := Lib.hid (by unfold qsV; rw [HE.out])
      have HQS : Hid (qs ls c k = [q0 ls c k, q1 ls c k, q2 ls c k, q3 ls c k]) := Lib.hid rfl
      obtain ⟨a0, e0⟩ : ∃ s, q0 ls c k = s := ⟨_, rfl⟩
      obtain ⟨a1, e1⟩ : ∃ s, q1 ls c k = s := ⟨_, rfl⟩
      obtain ⟨a2, e2⟩ : ∃ s, q2 ls c k = s := ⟨_, rfl⟩
      obtain ⟨a3, e3⟩ : ∃ s, q3 ls c k = s := ⟨_, rfl⟩
      rw [e0, e1, e2, e3] at HQS HV
      have G1 : Hid (wr.heap[w.heap.size + 1]? = some (.cells #[.int .i64 a0, .int .i64 a1, .int .i64 a2, .int .i64 a3] 38 (0, 0))) := Lib.hid (by
        have h := H1.out
        rw [HQS.out] at h
        exact h)
      have G0 : Hid (wr.heap[w.heap.size]? = some (.cells #[.int .i64 0, .int .i64 0, .int .i64 0, .int .i64 0] 38 (0, 0))) := Lib.hid H0.out
      clear e0 e1 e2 e3
      go_wp2_with (first
        | refine wpList_load_row (o := ⟨some 56, _, _, _, _, _⟩) rfl 38 (.tmp 5) rfl (w.heap.size + 1) rfl 38 _ (0, 0) _ G1.out rfl rfl rfl ?_
        | refine wpList_store_row (o := ⟨none, _, _, _, _, _⟩) rfl 38 (.tmp 4) (.tmp 56) rfl w.heap.size #[.int .i64 a0, .int .i64 a1, .int .i64 a2, .int .i64 a3] rfl rfl 38 _ G0.out rfl rfl (ones4 a0 a1 a2 a3) ?_)
      refine bodyPost_ret (v := .agg #[.int .i64 a0, .int .i64 a1, .int .i64 a2, .int .i64 a3]) ?_ rfl ⟨by rw [HV.out], below_setRow4 HB.out (Nat.le_refl _)⟩
      exact results_cell_row Try.results16 _ _ w.heap.size 38 _ (0, 0) _ rfl (setRow_heap _ _ _ _ _ _ G0.out) rfl rfl rfl
end Go.Proofs.Ytocogipejchneaa
