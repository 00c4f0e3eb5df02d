/-
  The scans without which the others are right (plain).
-/
import Derived.Test.YtamnojhkfknnoaaScP
import Derived.Test.YtamnojhkfknnoaaCcI
namespace Go.Proofs.Ytamnojhkfknnoaa
open Go Go.RowKit
set_option linter.unusedVariables false

def dropI (cs : List (Int × Int)) (i : Nat) : List (Int × Int) := cs.take i ++ cs.drop (i + 1)
theorem dropI_len (cs : List (Int × Int)) (i : Nat) : (dropI cs i).length ≤ cs.length := by simp [dropI]; omega
theorem ok_mem {st : Int} {cs : List (Int × Int)} (h : OkScTo st cs cs.length) {x : Int × Int} (hx : x ∈ cs) : okSc st x := by
  obtain ⟨i, hi, e⟩ := List.getElem_of_mem hx
  have := h i hi
  simpa [List.getD, hi, e] using this
theorem dropI_ok {st : Int} {cs : List (Int × Int)} (h : OkScTo st cs cs.length) (i : Nat) : OkScTo st (dropI cs i) (dropI cs i).length := fun j hj => by
  have hm : (dropI cs i).getD j (0, 0) ∈ dropI cs i := by simp [List.getD, hj]
  rcases List.mem_append.1 hm with hm | hm
  · exact ok_mem h (List.mem_of_mem_take hm)
  · exact ok_mem h (List.mem_of_mem_drop hm)
noncomputable def fsL (yn : Int) (ps : List Lan) (cs : List (Int × Int)) : Nat → List Int
  | 0 => []
  | k + 1 => if badS yn ps (dropI cs k) < 0 then fsL yn ps cs k ++ [(k : Int)] else fsL yn ps cs k
theorem fsL_len (yn : Int) (ps : List Lan) (cs : List (Int × Int)) : ∀ k, (fsL yn ps cs k).length ≤ k
  | 0 => by simp [fsL]
  | k + 1 => by
    have := fsL_len yn ps cs k
    rw [fsL]; split
    · simp; exact this
    · omega
theorem fsL_yes {yn : Int} {ps : List Lan} {cs : List (Int × Int)} {k : Nat} (h : badS yn ps (dropI cs k) < 0) : fsL yn ps cs (k + 1) = fsL yn ps cs k ++ [(k : Int)] := if_pos h
theorem fsL_no {yn : Int} {ps : List Lan} {cs : List (Int × Int)} {k : Nat} (h : ¬ badS yn ps (dropI cs k) < 0) : fsL yn ps cs (k + 1) = fsL yn ps cs k := if_neg h
noncomputable def fsR (st sy : Int) (ps : List Lan) (cs : List (Int × Int)) : List Int := if csC st sy ps cs = 0 then fsL sy ps cs cs.length else []
theorem fsR_len (st sy : Int) (ps : List Lan) (cs : List (Int × Int)) : (fsR st sy ps cs).length ≤ 1048575 := by
  unfold fsR
  split
  · rename_i h
    have := fsL_len sy ps cs cs.length
    have := (scnC_ok h).2.2
    omega
  · simp
/-- The elements ahead of one, and those behind it, as views. -/
theorem view_take {w : World} {g c : Nat} {cs : List (Int × Int)} (hc : CellsSc w g cs) (i : Nat) (hi : i ≤ cs.length) : ViewSc w (.slice (some ⟨g, 0, none⟩) i c) (cs.take i) := by
  refine ⟨⟨g, 0, none⟩, c, by rw [List.length_take, Nat.min_eq_left hi], fun j v hj => ?_⟩
  have hjl : j < i * 2 := by
    have h := (List.getElem?_eq_some_iff.1 hj).1
    rw [flatSc_length, List.length_take] at h
    omega
  obtain ⟨q, r, rfl, hr⟩ : ∃ q r, j = q * 2 + r ∧ r < 2 := ⟨j / 2, j % 2, by omega, by omega⟩
  have hq : q < (cs.take i).length := by rw [List.length_take]; omega
  have hqc : q < cs.length := by omega
  have eg : (cs.take i).getD q (0, 0) = cs.getD q (0, 0) := by
    simp [List.getD, show q < i by omega]
  obtain ⟨h0, h1⟩ := hc q hqc
  rw [addr_add, Nat.zero_add]
  match r, hr with
  | 0, _ =>
    rw [Nat.add_zero] at hj ⊢
    rw [flatSc_0 _ q hq, eg] at hj
    rw [h0]; exact hj
  | 1, _ =>
    rw [flatSc_1 _ q hq, eg] at hj
    rw [h1]; exact hj
theorem view_drop {w : World} {g c : Nat} {cs : List (Int × Int)} (hc : CellsSc w g cs) (i : Nat) (hi : i ≤ cs.length) : ViewSc w (.slice (some ⟨g, i * 2, none⟩) (cs.length - i) c) (cs.drop i) := by
  refine ⟨⟨g, i * 2, none⟩, c, by rw [List.length_drop], fun j v hj => ?_⟩
  have hjl : j < (cs.length - i) * 2 := by
    have h := (List.getElem?_eq_some_iff.1 hj).1
    rw [flatSc_length, List.length_drop] at h
    exact h
  obtain ⟨q, r, rfl, hr⟩ : ∃ q r, j = q * 2 + r ∧ r < 2 := ⟨j / 2, j % 2, by omega, by omega⟩
  have hq : q < (cs.drop i).length := by rw [List.length_drop]; omega
  have eg : (cs.drop i).getD q (0, 0) = cs.getD (i + q) (0, 0) := by
    simp [List.getD, List.getElem?_drop]
  obtain ⟨h0, h1⟩ := hc (i + q) (by omega)
  rw [addr_add]
  match r, hr with
  | 0, _ =>
    rw [Nat.add_zero] at hj ⊢
    rw [flatSc_0 _ q hq, eg] at hj
    rw [show i * 2 + q * 2 = (i + q) * 2 by omega, h0]; exact hj
  | 1, _ =>
    rw [flatSc_1 _ q hq, eg] at hj
    rw [show i * 2 + (q * 2 + 1) = (i + q) * 2 + 1 by omega, h1]; exact hj
end Go.Proofs.Ytamnojhkfknnoaa
