/-
  Times: for each of eight stations the hours, in memory; the times of a scan, whether a scan is in times, the arrivals of both.
-/
import Derived.Test.YtamnojhkfknnoaaArM
import Derived.Test.YtamnojhkfknnoaaFlat
import Derived.Test.YtamnojhkfknnoaaRScan
import Derived.Deep.RegionHeld3
import Derived.BigRegion
namespace Go.Proofs.Ytamnojhkfknnoaa
open Go Go.RowKit
set_option linter.unusedVariables false

def encH (N : Nat) : List Value := [.int .u64 (wd N 0 : Nat), .int .u64 (wd N 1 : Nat), .int .u64 (wd N 2 : Nat), .int .u64 (wd N 3 : Nat), .int .u64 (wd N 4 : Nat)]
theorem encH_len (N : Nat) : (encH N).length = 5 := rfl
def flatH (T : List Nat) : List Value := flatE encH T
theorem flatH_length (T : List Nat) : (flatH T).length = T.length * 5 := flatE_length encH_len T
theorem flatH_get (T : List Nat) (s j : Nat) (hs : s < T.length) (hj : j < 5) : (flatH T)[s * 5 + j]? = some (.int .u64 (wd (T.getD s 0) j : Nat)) := by
  have h := flatE_get encH_len T s j hs hj
  unfold flatH
  rw [h]
  have e : T.getD s 0 = T[s] := by simp [List.getD, hs]
  rw [e]
  rcases j with _ | _ | _ | _ | _ | j <;> first | rfl | omega
theorem flatH_set (T : List Nat) (s M : Nat) (hs : s < T.length) : (((((flatH T).set (s * 5) (.int .u64 (wd M 0 : Nat))).set (s * 5 + 1) (.int .u64 (wd M 1 : Nat))).set (s * 5 + 2) (.int .u64 (wd M 2 : Nat))).set (s * 5 + 3) (.int .u64 (wd M 3 : Nat))).set (s * 5 + 4) (.int .u64 (wd M 4 : Nat)) = flatH (T.set s M) := by
  apply List.ext_getElem?
  intro j
  have hl : (flatH T).length = T.length * 5 := flatH_length T
  by_cases hj : j < T.length * 5
  · have h2 := flatH_get (T.set s M) (j / 5) (j % 5) (by simp; omega) (by omega)
    rw [show j / 5 * 5 + j % 5 = j by omega] at h2
    have h3 := flatH_get T (j / 5) (j % 5) (by omega) (by omega)
    rw [show j / 5 * 5 + j % 5 = j by omega] at h3
    rw [h2]
    simp only [List.getElem?_set, List.length_set, hl]
    by_cases e : j / 5 = s
    · have e5 : (T.set s M).getD (j / 5) 0 = M := by simp [List.getD, e, hs]
      rw [e5]
      have hm : j % 5 = 0 ∨ j % 5 = 1 ∨ j % 5 = 2 ∨ j % 5 = 3 ∨ j % 5 = 4 := by omega
      rcases hm with hm | hm | hm | hm | hm
      all_goals
        rw [hm]
        have ej : j = s * 5 + j % 5 := by omega
        rw [hm] at ej
        subst ej
        simp [show s * 5 < T.length * 5 by omega, show s * 5 + 1 < T.length * 5 by omega, show s * 5 + 2 < T.length * 5 by omega, show s * 5 + 3 < T.length * 5 by omega, show s * 5 + 4 < T.length * 5 by omega]
    · have e5 : (T.set s M).getD (j / 5) 0 = T.getD (j / 5) 0 := by simp [List.getD, Ne.symm e]
      rw [e5, ← h3]
      rw [if_neg (by omega), if_neg (by omega), if_neg (by omega), if_neg (by omega), if_neg (by omega)]
  · rw [List.getElem?_eq_none (by simp [hl]; omega), List.getElem?_eq_none (by rw [flatH_length]; simp; omega)]
def tw (T : List Nat) : Array Value := (flatH T).toArray
/-- The value of times. -/
abbrev tv (T : List Nat) : Value := .agg (tw T)
theorem tw_size (T : List Nat) : (tw T).size = T.length * 5 := by simp [tw, flatH_length]
/-- Times are of eight stations, and each set has no more hours than there is room for. -/
structure TOk (T : List Nat) : Prop where
  len : T.length = 8
  lt : ∀ s, T.getD s 0 < 2 ^ room
theorem TOk.set {T : List Nat} (h : TOk T) {s M : Nat} (hM : M < 2 ^ room) : TOk (T.set s M) := ⟨by simp [h.len], fun q => by
  by_cases e : q = s
  · subst e
    by_cases hq : q < T.length
    · simpa [List.getD, hq] using hM
    · simpa [List.getD, hq] using room_pos
  · have := h.lt q
    simpa [List.getD, Ne.symm e] using this⟩
def t0 : List Nat := List.replicate 8 0
theorem t0_ok : TOk t0 := ⟨by simp [t0], fun s => by
  have : t0.getD s 0 = 0 := by unfold t0; simp only [List.getD, List.getElem?_replicate]; split <;> rfl
  rw [this]; exact room_pos⟩
theorem t0_get (s : Nat) : t0.getD s 0 = 0 := by unfold t0; simp only [List.getD, List.getElem?_replicate]; split <;> rfl
theorem tw_zero : tw t0 = #[.int .u64 0, .int .u64 0, .int .u64 0, .int .u64 0, .int .u64 0, .int .u64 0, .int .u64 0, .int .u64 0, .int .u64 0, .int .u64 0, .int .u64 0, .int .u64 0, .int .u64 0, .int .u64 0, .int .u64 0, .int .u64 0, .int .u64 0, .int .u64 0, .int .u64 0, .int .u64 0, .int .u64 0, .int .u64 0, .int .u64 0, .int .u64 0, .int .u64 0, .int .u64 0, .int .u64 0, .int .u64 0, .int .u64 0, .int .u64 0, .int .u64 0, .int .u64 0, .int .u64 0, .int .u64 0, .int .u64 0, .int .u64 0, .int .u64 0, .int .u64 0, .int .u64 0, .int .u64 0] := by
  have h : flatH t0 = [.int .u64 0, .int .u64 0, .int .u64 0, .int .u64 0, .int .u64 0, .int .u64 0, .int .u64 0, .int .u64 0, .int .u64 0, .int .u64 0, .int .u64 0, .int .u64 0, .int .u64 0, .int .u64 0, .int .u64 0, .int .u64 0, .int .u64 0, .int .u64 0, .int .u64 0, .int .u64 0, .int .u64 0, .int .u64 0, .int .u64 0, .int .u64 0, .int .u64 0, .int .u64 0, .int .u64 0, .int .u64 0, .int .u64 0, .int .u64 0, .int .u64 0, .int .u64 0, .int .u64 0, .int .u64 0, .int .u64 0, .int .u64 0, .int .u64 0, .int .u64 0, .int .u64 0, .int .u64 0] := by simp [t0, flatH, flatE, encH, wd_zero, List.replicate]
  unfold tw; rw [h]
/-- A block that holds times. -/
def BlkT (w : World) (B : Nat) (T : List Nat) : Prop := BlkA w B 94 (tw T)
theorem BlkT.cells {w : World} {B : Nat} {T : List Nat} (h : BlkT w B T) (s : Nat) (hs : s < T.length) : w.cell? ⟨B, s * 5, none⟩ = some (.int .u64 (wd (T.getD s 0) 0 : Nat)) ∧ w.cell? ⟨B, s * 5 + 1, none⟩ = some (.int .u64 (wd (T.getD s 0) 1 : Nat)) ∧ w.cell? ⟨B, s * 5 + 2, none⟩ = some (.int .u64 (wd (T.getD s 0) 2 : Nat)) ∧ w.cell? ⟨B, s * 5 + 3, none⟩ = some (.int .u64 (wd (T.getD s 0) 3 : Nat)) ∧ w.cell? ⟨B, s * 5 + 4, none⟩ = some (.int .u64 (wd (T.getD s 0) 4 : Nat)) := by
  have q : ∀ j, j < 5 → w.cell? ⟨B, s * 5 + j, none⟩ = some (.int .u64 (wd (T.getD s 0) j : Nat)) := fun j hj => by
    rw [BlkA.at h (s * 5 + j)]
    have := flatH_get T s j hs hj
    simpa [tw] using this
  exact ⟨q 0 (by omega), q 1 (by omega), q 2 (by omega), q 3 (by omega), q 4 (by omega)⟩
theorem BlkT.store {w : World} {B : Nat} {T : List Nat} (h : BlkT w B T) (s M : Nat) (hs : s < T.length) : BlkT (((((w.setCell ⟨B, s * 5, none⟩ (.int .u64 (wd M 0 : Nat))).setCell ⟨B, s * 5 + 1, none⟩ (.int .u64 (wd M 1 : Nat))).setCell ⟨B, s * 5 + 2, none⟩ (.int .u64 (wd M 2 : Nat))).setCell ⟨B, s * 5 + 3, none⟩ (.int .u64 (wd M 3 : Nat))).setCell ⟨B, s * 5 + 4, none⟩ (.int .u64 (wd M 4 : Nat))) B (T.set s M) := by
  have h1 := ((((BlkA.set h (s * 5) (.int .u64 (wd M 0 : Nat))).set (s * 5 + 1) (.int .u64 (wd M 1 : Nat))).set (s * 5 + 2) (.int .u64 (wd M 2 : Nat))).set (s * 5 + 3) (.int .u64 (wd M 3 : Nat))).set (s * 5 + 4) (.int .u64 (wd M 4 : Nat))
  have e : ((((((tw T).setIfInBounds (s * 5) (.int .u64 (wd M 0 : Nat))).setIfInBounds (s * 5 + 1) (.int .u64 (wd M 1 : Nat))).setIfInBounds (s * 5 + 2) (.int .u64 (wd M 2 : Nat))).setIfInBounds (s * 5 + 3) (.int .u64 (wd M 3 : Nat))).setIfInBounds (s * 5 + 4) (.int .u64 (wd M 4 : Nat))) = tw (T.set s M) := by
    unfold tw
    rw [← flatH_set T s M hs]
    simp
  rw [e] at h1
  exact h1
theorem below_set5 {w0 w : World} {m B s : Nat} (h : Below m w0 w) (hB : m ≤ B) (a b c d e : Value) : Below m w0 (((((w.setCell ⟨B, s * 5, none⟩ a).setCell ⟨B, s * 5 + 1, none⟩ b).setCell ⟨B, s * 5 + 2, none⟩ c).setCell ⟨B, s * 5 + 3, none⟩ d).setCell ⟨B, s * 5 + 4, none⟩ e) :=
  ((((h.setCell hB _).setCell hB _).setCell hB _).setCell hB _).setCell hB _
theorem BlkA.other5 {w : World} {B C s : Nat} {t : TypeId} {vs : Array Value} (h : BlkA w B t vs) (hne : B ≠ C) (a b c d e : Value) : BlkA (((((w.setCell ⟨C, s * 5, none⟩ a).setCell ⟨C, s * 5 + 1, none⟩ b).setCell ⟨C, s * 5 + 2, none⟩ c).setCell ⟨C, s * 5 + 3, none⟩ d).setCell ⟨C, s * 5 + 4, none⟩ e) B t vs :=
  ((((h.other _ _ hne).other _ _ hne).other _ _ hne).other _ _ hne).other _ _ hne
theorem u64_times : (Try.prog.info? 94).map (·.size) = some 40 := by kernel_rfl
theorem tw_ones (T : List Nat) : (tw T).all (·.oneCell') = true := by
  rw [Array.all_eq_true]
  intro i hi
  have hi' : i < T.length * 5 := by rw [tw_size] at hi; exact hi
  have h := flatH_get T (i / 5) (i % 5) (by omega) (by omega)
  rw [show i / 5 * 5 + i % 5 = i by omega] at h
  have e : (tw T)[i] = .int .u64 (wd (T.getD (i / 5) 0) (i % 5) : Nat) := by
    have h2 : (tw T)[i]? = some (.int .u64 (wd (T.getD (i / 5) 0) (i % 5) : Nat)) := by simpa [tw] using h
    rw [Array.getElem?_eq_getElem hi] at h2
    exact Option.some.inj h2
  rw [e]; rfl
/-- The station's hours of a value of times. -/
theorem tw_part (T : List Nat) (s : Nat) (hs : s < T.length) : (tw T).extract (s * 5) (s * 5 + 5) = hw (T.getD s 0) := by
  apply Array.ext_getElem?
  intro j
  rw [Array.getElem?_extract]
  by_cases hj : j < 5
  · rw [if_pos (by rw [tw_size]; omega), hw_get _ j hj]
    have h := flatH_get T s j hs hj
    simpa [tw] using h
  · rw [if_neg (by rw [tw_size]; omega)]
    simp [hw]; omega
theorem run_index_tw (T : List Nat) (k : IntKind) (s : Nat) (hs : s < 8) (h8 : T.length = 8) (w : World) : (Instr.index 94 (tv T) (.int k (s : Int))).run Try.prog w = .ok (hv (T.getD s 0)) w := by
  have h0 : 0 ≤ (s : Int) ∧ (s : Int) < (8 : Nat) := by omega
  have hu : Try.prog.underlying 94 = some (.array 8 92) := by kernel_rfl
  have hp := tw_part T s (by omega)
  simp only [Instr.index, asIntOf, run_underlying hu, Sem.run_bind, Sem.run_pure, Result.andThen_ok, if_pos h0, part, Try.isAgg92, Try.sizeOf92, if_true, Int.toNat_natCast, hp]
  rfl
theorem wpList_index_tw {ops : Array Oper} {rest : List Oper} {o : Oper} {a : Act} {w : World} {Q : Exit → Act → World → Prop} (hgd : o.guard = none) (x y : Operand) (ho : o.op = .index 94 x y)
    (T : List Nat) (k : IntKind) (s : Nat) (hx : a.eval x = .agg (tw T)) (hy : a.eval y = .int k (s : Int)) (hs : s < 8) (h8 : T.length = 8)
    (h : wpList Try.prog ops Q rest (a.put o.dst (hv (T.getD s 0))) w) : wpList Try.prog ops Q (o :: rest) a w :=
  wpList_plain hgd fun K hK => by
    unfold Oper.wp execOp
    simp only [ho, hx, hy, Sem.run_bind, Sem.run_pure, Result.andThen_ok, run_index_tw T k s hs h8 w]
    exact hK _ _ h
end Go.Proofs.Ytamnojhkfknnoaa
