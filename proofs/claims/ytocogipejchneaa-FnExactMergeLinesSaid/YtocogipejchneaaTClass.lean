/-
  Contracts of the laws' helpers that copy and size rows of Class.
-/
import Derived.Test.YtocogipejchneaaRClass
namespace Go.Proofs.Ytocogipejchneaa
open Go Go.RowKit
set_option linter.unusedVariables false

theorem infoR_C : (Try.prog.info? 46).map (fun i => (i.zero, i.size, i.bytes)) = some (some (.agg #[.int .i16 0, .int .i16 0, .int .i16 0, .int .i32 0]), 4, 12) := by kernel_rfl
theorem madeC (n : Nat) : (madeCells (Value.agg #[.int .i16 0, .int .i16 0, .int .i16 0, .int .i32 0]).cells (n * 4)).toList = flatC (List.replicate n (0, 0, 0, 0)) := by
  apply List.ext_getElem?
  intro j
  have hs : (Value.agg #[.int .i16 0, .int .i16 0, .int .i16 0, .int .i32 0]).cells = #[.int .i16 0, .int .i16 0, .int .i16 0, .int .i32 0] := rfl
  rw [hs]
  have hl : (flatC (List.replicate n ((0 : Int), (0 : Int), (0 : Int), (0 : Int)))).length = n * 4 := by rw [flatC_length]; simp
  by_cases hj : j < n * 4
  · have h2 : j = (j / 4) * 4 ∨ j = (j / 4) * 4 + 1 ∨ j = (j / 4) * 4 + 2 ∨ j = (j / 4) * 4 + 3 := by omega
    rcases h2 with h2 | h2 | h2 | h2
    · have e : (flatC (List.replicate n ((0 : Int), (0 : Int), (0 : Int), (0 : Int))))[j]? = some (.int .i16 0) := by
        rw [h2, flatC_0 _ _ (by simp; omega)]; simp [List.getD, show j / 4 < n by omega]
      have h3 : j % 4 = 0 := by omega
      rw [e]
      simp [madeCells, hj, h3]
    · have e : (flatC (List.replicate n ((0 : Int), (0 : Int), (0 : Int), (0 : Int))))[j]? = some (.int .i16 0) := by
        rw [h2, flatC_1 _ _ (by simp; omega)]; simp [List.getD, show j / 4 < n by omega]
      have h3 : j % 4 = 1 := by omega
      rw [e]
      simp [madeCells, hj, h3]
    · have e : (flatC (List.replicate n ((0 : Int), (0 : Int), (0 : Int), (0 : Int))))[j]? = some (.int .i16 0) := by
        rw [h2, flatC_2 _ _ (by simp; omega)]; simp [List.getD, show j / 4 < n by omega]
      have h3 : j % 4 = 2 := by omega
      rw [e]
      simp [madeCells, hj, h3]
    · have e : (flatC (List.replicate n ((0 : Int), (0 : Int), (0 : Int), (0 : Int))))[j]? = some (.int .i32 0) := by
        rw [h2, flatC_3 _ _ (by simp; omega)]; simp [List.getD, show j / 4 < n by omega]
      have h3 : j % 4 = 3 := by omega
      rw [e]
      simp [madeCells, hj, h3]
  · rw [List.getElem?_eq_none (by rw [Array.length_toList, size_madeCells]; omega), List.getElem?_eq_none (by rw [hl]; omega)]
/-- What the copy holds after k rounds. -/
def copiedC (ps : List (Int × Int × Int × Int)) (k : Nat) : List (Int × Int × Int × Int) := ps.take k ++ List.replicate (ps.length - k) (0, 0, 0, 0)
theorem copiedC_zero (ps : List (Int × Int × Int × Int)) : copiedC ps 0 = List.replicate ps.length (0, 0, 0, 0) := by simp [copiedC]
theorem copiedC_all (ps : List (Int × Int × Int × Int)) : copiedC ps ps.length = ps := by simp [copiedC]
theorem copiedC_length (ps : List (Int × Int × Int × Int)) (k : Nat) (h : k ≤ ps.length) : (copiedC ps k).length = ps.length := by simp [copiedC]; omega
theorem copiedC_set (ps : List (Int × Int × Int × Int)) (k : Nat) (h : k < ps.length) : (copiedC ps k).set k (ps.getD k (0, 0, 0, 0)) = copiedC ps (k + 1) := by
  have h1 : (List.take k ps).length = k := by simp; omega
  have h2 : ps.length - k = (ps.length - (k + 1)) + 1 := by omega
  unfold copiedC
  rw [List.set_append_right _ _ (by omega), h1, Nat.sub_self, h2, List.replicate_succ, List.set_cons_zero]
  rw [List.take_succ_eq_append_getElem h, List.append_assoc]
  simp [List.getD, h]
set_option maxHeartbeats 1000000 in
theorem toClass_one (x0 x1 x2 x3 : Int) (w : World) :
    Calls Try.prog 18 #[.agg #[.int .i16 x0, .int .i16 x1, .int .i16 x2, .int .i32 x3]] w fun e w' => e = .returned (.agg #[.int .i16 x0, .int .i16 x1, .int .i16 x2, .int .i32 x3]) ∧ Below w.heap.size w w' := by
  go_enter Try.func18, Try.ntmps18
  go_wp2
  exact bodyPost_ret (v := .agg #[.int .i16 x0, .int .i16 x1, .int .i16 x2, .int .i32 x3]) (by simp [results, Try.results18, go_sem]) rfl ⟨rfl, by repeat (first | exact Below.refl _ _ | refine Below.drew ?_ | refine Below.setCell ?_ (by first | (simp; done) | (simp; omega)) _ | refine Below.alloc ?_ (by first | (simp; done) | (simp; omega)) _)⟩

set_option maxHeartbeats 2000000 in
set_option maxRecDepth 100000 in
theorem toClassS_row (b off len cap : Nat) (ps : List (Int × Int × Int × Int)) (hl : ps.length = len) (hm : len ≤ 1048576) (w : World)
    (hc : ∀ i, i < len → w.cell? ⟨b, off + i * 4, none⟩ = some (.int .i16 (ps.getD i (0, 0, 0, 0)).1) ∧ w.cell? ⟨b, off + i * 4 + 1, none⟩ = some (.int .i16 (ps.getD i (0, 0, 0, 0)).2.1) ∧ w.cell? ⟨b, off + i * 4 + 2, none⟩ = some (.int .i16 (ps.getD i (0, 0, 0, 0)).2.2.1) ∧ w.cell? ⟨b, off + i * 4 + 3, none⟩ = some (.int .i32 (ps.getD i (0, 0, 0, 0)).2.2.2)) :
    Calls Try.prog 7 #[.slice (some ⟨b, off, none⟩) len cap] w fun e w' => e = .returned (.slice (some ⟨w.heap.size, 0, none⟩) len len) ∧ OwnC 46 w.heap.size w' (.slice (some ⟨w.heap.size, 0, none⟩) len len) ps ∧ Below w.heap.size w w' := by
  subst hl
  obtain ⟨i0, hi, hz0, hz1, hz2⟩ := info_parts infoR_C
  go_enter Try.func7, Try.ntmps7
  go_wp2_with (refine wpList_make_full _ rfl _ _ 29 rfl w.heap.size 46 i0 (.agg #[.int .i16 0, .int .i16 0, .int .i16 0, .int .i32 0]) 4 Try.underlying29 hi hz0 hz1 .i64 .i64 _ _ ps.length rfl rfl rfl rfl (by rw [hz2]; omega) (by unfold maxLen; omega) (Nat.le_refl _) ?_; intro w1 hown1 hg1)
  rw [madeC] at hown1
  go_loopw [4] (fun i wr => ∃ k : Nat, k ≤ ps.length ∧ i = .int .i64 k ∧ wr.ownsRow w.heap.size 46 4 (.slice (some ⟨w.heap.size, 0, none⟩) ps.length ps.length) ps.length (flatC (copiedC ps k)) ∧ Below w.heap.size w wr) (fun i _ => ps.length - (intOf i).toNat)
  case atStart =>
    exact ⟨0, Nat.zero_le _, rfl, by rw [copiedC_zero]; exact hown1, (Below.refl _ _).grown hg1 (Nat.le_refl _) (fun k hk => by simp at hk)⟩
  case round =>
    obtain ⟨k, hk, rfl, hown, hnx⟩ := hrel
    by_cases hlt : k < ps.length
    · obtain ⟨h0, h1, h2, h3⟩ := hc k hlt
      have c0 : wr.cell? ⟨b, off + k * 4, none⟩ = some (.int .i16 (ps.getD k (0, 0, 0, 0)).1) := by
        rw [hnx.cell (p := ⟨b, off + k * 4, none⟩) (World.block_lt_of_cell? w _ h0)]; exact h0
      have c1 : wr.cell? ⟨b, off + k * 4 + 1, none⟩ = some (.int .i16 (ps.getD k (0, 0, 0, 0)).2.1) := by
        rw [hnx.cell (p := ⟨b, off + k * 4 + 1, none⟩) (World.block_lt_of_cell? w _ h1)]; exact h1
      have c2 : wr.cell? ⟨b, off + k * 4 + 2, none⟩ = some (.int .i16 (ps.getD k (0, 0, 0, 0)).2.2.1) := by
        rw [hnx.cell (p := ⟨b, off + k * 4 + 2, none⟩) (World.block_lt_of_cell? w _ h2)]; exact h2
      have c3 : wr.cell? ⟨b, off + k * 4 + 3, none⟩ = some (.int .i32 (ps.getD k (0, 0, 0, 0)).2.2.2) := by
        rw [hnx.cell (p := ⟨b, off + k * 4 + 3, none⟩) (World.block_lt_of_cell? w _ h3)]; exact h3
      obtain ⟨p, hp⟩ : ∃ p, ps.getD k (0, 0, 0, 0) = p := ⟨_, rfl⟩
      rw [hp] at c0 c1 c2 c3
      obtain ⟨x0, x1, x2, x3⟩ := p
      have hcl : (copiedC ps k).length = ps.length := copiedC_length ps k hk
      have HP := Lib.hid hp
      have HO := Lib.hid hown
      have HB := Lib.hid hnx
      have HC := Lib.hid hc
      have HCL := Lib.hid hcl
      have hwr : w.heap.size ≤ wr.heap.size := hnx.size
      clear hp hown hnx hc h0 h1 h2 h3 hcl
      go_wp2_with fail
      refine (toClass_one x0 x1 x2 x3 _).mono ?_
      rintro e w2 ⟨rfl, b2⟩
      have o2 : OwnC 46 w.heap.size w2 (.slice (some ⟨w.heap.size, 0, none⟩) ps.length ps.length) (copiedC ps k) := OwnC.below (by unfold OwnC; rw [HCL.out]; exact HO.out) b2
      unfold OwnC at o2
      rw [HCL.out] at o2
      have f0 := o2.frozenAt (k * 4)
      have f1 := o2.frozenAt (k * 4 + 1)
      have f2 := o2.frozenAt (k * 4 + 2)
      have f3 := o2.frozenAt (k * 4 + 3)
      have d0 := o2.cellAt (k * 4) (by omega)
      have d1 := o2.cellAt (k * 4 + 1) (by omega)
      have d2 := o2.cellAt (k * 4 + 2) (by omega)
      have d3 := o2.cellAt (k * 4 + 3) (by omega)
      rw [flatC_0 _ _ (by rw [HCL.out]; exact hlt)] at d0
      rw [flatC_1 _ _ (by rw [HCL.out]; exact hlt)] at d1
      rw [flatC_2 _ _ (by rw [HCL.out]; exact hlt)] at d2
      rw [flatC_3 _ _ (by rw [HCL.out]; exact hlt)] at d3
      have S1 := (o2.stored (k * 4) (.int .i16 x0)).1
      have S2 := (S1.stored (k * 4 + 1) (.int .i16 x1)).1
      have S3 := (S2.stored (k * 4 + 2) (.int .i16 x2)).1
      have S4 := (S3.stored (k * 4 + 3) (.int .i32 x3)).1
      rw [flatC_set _ _ _ _ _ _ (by rw [HCL.out]; exact hlt)] at S4
      have HS := Lib.hid S4
      have HB2 : Hid (Below w.heap.size w w2) := Lib.hid (HB.out.trans (b2.mono hwr))
      clear o2 S1 S2 S3 S4 b2
      go_wp2_with fail
      go_roundw
      case rel => exact ⟨k + 1, by omega, by go_num, by rw [← copiedC_set ps k hlt, HP.out]; exact HS.out, ((((HB2.out.setCell (Nat.le_refl _) _).setCell (Nat.le_refl _) _).setCell (Nat.le_refl _) _).setCell (Nat.le_refl _) _)⟩
      case measure => simp [intOf]; omega
    · have hk' : k = ps.length := by omega
      have HO : Hid (OwnC 46 w.heap.size wr (.slice (some ⟨w.heap.size, 0, none⟩) ps.length ps.length) ps) := Lib.hid (by rw [hk', copiedC_all] at hown; exact hown)
      have HB := Lib.hid hnx
      clear hk' hown hnx hc
      go_wp2_with fail
      go_ret
      exact ⟨rfl, HO.out, HB.out⟩

set_option maxHeartbeats 1000000 in
theorem toClassS_zero (a : Option Addr) (cap : Nat) (w : World) :
    Calls Try.prog 7 #[.slice a 0 cap] w fun e w' => e = .returned (.slice (some ⟨w.heap.size, 0, none⟩) 0 0) ∧ OwnC 46 w.heap.size w' (.slice (some ⟨w.heap.size, 0, none⟩) 0 0) [] ∧ Below w.heap.size w w' := by
  obtain ⟨i0, hi, hz0, hz1, hz2⟩ := info_parts infoR_C
  go_enter Try.func7, Try.ntmps7
  go_wp2_with (refine wpList_make_full _ rfl _ _ 29 rfl w.heap.size 46 i0 (.agg #[.int .i16 0, .int .i16 0, .int .i16 0, .int .i32 0]) 4 Try.underlying29 hi hz0 hz1 .i64 .i64 _ _ 0 rfl rfl rfl rfl (by omega) (by unfold maxLen; omega) (Nat.le_refl _) ?_; intro w1 hown1 hg1)
  have HO := Lib.hid hown1
  have HG := Lib.hid hg1
  clear hown1 hg1
  refine wp_loop_rounds 1 ?_
  rw [rounds_succ]
  go_wp2
  go_ret
  exact ⟨rfl, by have h := HO.out; rw [madeC] at h; exact h, (Below.refl _ _).grown HG.out (Nat.le_refl _) (fun k hk => by simp at hk)⟩

theorem toClassS_any (a : Option Addr) (len cap : Nat) (ps : List (Int × Int × Int × Int)) (w : World) (h : IsRowC w a len cap ps) (hm : len ≤ 1048576) :
    Calls Try.prog 7 #[.slice a len cap] w fun e w' => e = .returned (.slice (some ⟨w.heap.size, 0, none⟩) len len) ∧ OwnC 46 w.heap.size w' (.slice (some ⟨w.heap.size, 0, none⟩) len len) ps ∧ Below w.heap.size w w' := by
  rcases h with ⟨rfl, rfl, rfl, rfl⟩ | ⟨x, rfl, hl, hx, hz, hcell⟩
  · exact toClassS_zero none 0 w
  · by_cases h0 : len = 0
    · subst h0
      have e : ps = [] := List.eq_nil_of_length_eq_zero hz
      subst e
      exact toClassS_zero (some x) cap w
    · obtain ⟨b, off, spot⟩ := x
      have hspot : spot = none := by simpa [Addr.add] using World.cell?_spot (hcell 0 (by omega)).1
      subst hspot
      refine toClassS_row b off len cap ps hz hm w fun i hi => ?_
      have h1 := hcell i (by omega)
      rw [addr_add, addr_add, addr_add, addr_add] at h1
      exact ⟨h1.1, by rw [Nat.add_assoc]; exact h1.2.1, by rw [Nat.add_assoc]; exact h1.2.2.1, by rw [Nat.add_assoc]; exact h1.2.2.2⟩

theorem szClassS_fit (a : Option Addr) (len cap : Nat) (l : Int) (h0 : 0 ≤ l - len) (h1 : l ≤ 1048576) (w : World) :
    Calls Try.prog 4 #[.slice a len cap, .int .i64 l] w fun e w' => e = .returned (.int .i64 (l - len)) ∧ w = w' := by
  have t1 : decide (l - (len : Int) < 0) = false := by simp; omega
  go_enter Try.func4, Try.ntmps4
  go_wp2
  go_ret
  exact ⟨rfl, rfl⟩
theorem szClassS_big (a : Option Addr) (len cap : Nat) (l : Int) (hl : 0 ≤ l) (h0 : l - len < 0) (h1 : l ≤ 1048576) (hb : len ≤ 9223372036854775807) (w : World) :
    Calls Try.prog 4 #[.slice a len cap, .int .i64 l] w fun e w' => e = .returned (.int .i64 (-1)) ∧ w = w' := by
  have t1 : decide (l - (len : Int) < 0) = true := by simp; omega
  go_enter Try.func4, Try.ntmps4
  go_wp2
  go_ret
  exact ⟨rfl, rfl⟩
end Go.Proofs.Ytocogipejchneaa
