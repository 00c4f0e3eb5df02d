/-
  Digging: how many parcels are lifted along a visit (plain): the model's way (what is left in the bag, stop by stop) and the program's (the whole stack, and which stops are left).
-/
import Derived.Test.YteecpijfikgjnaaWkP
import Derived.Test.YteecpijfikgjnaaHas
namespace Go.Proofs.Yteecpijfikgjnaa
open Go Go.RowKit
set_option linter.unusedVariables false

def stopAt (ps : List (Int × Int)) (i : Int) : Int := (ps.getD i.toNat (0, 0)).1
def stk (ps : List (Int × Int)) (L : List Int) : List Int := L.map (stopAt ps)
theorem stk_len (ps : List (Int × Int)) (L : List Int) : (stk ps L).length = L.length := by simp [stk]
theorem stk_get (ps : List (Int × Int)) (L : List Int) (j : Nat) (hj : j < L.length) : (stk ps L).getD j 0 = stopAt ps (L.getD j 0) := by simp [stk, List.getD, hj]
/-- One more parcel, from below: was one for this stop met, how many are to be lifted. -/
def stepD (s : Int) (st : Bool × Int) (x : Int) : Bool × Int := if x = s then (true, st.2) else (st.1, st.2 + (if st.1 then 1 else 0))
def digTo (s : Int) (xs : List Int) (j : Nat) : Bool × Int := (xs.take j).foldl (stepD s) (false, 0)
theorem digTo_zero (s : Int) (xs : List Int) : digTo s xs 0 = (false, 0) := by simp [digTo]
theorem take_next (xs : List Int) {j : Nat} (hj : j < xs.length) : xs.take (j + 1) = xs.take j ++ [xs.getD j 0] := by
  rw [List.take_add_one]; simp [List.getD, hj]
theorem digTo_succ (s : Int) (xs : List Int) {j : Nat} (hj : j < xs.length) : digTo s xs (j + 1) = stepD s (digTo s xs j) (xs.getD j 0) := by
  unfold digTo; rw [take_next xs hj, List.foldl_append]; rfl
theorem stepD_bd (s : Int) (st : Bool × Int) (x : Int) : st.2 ≤ (stepD s st x).2 ∧ (stepD s st x).2 ≤ st.2 + 1 := by
  unfold stepD; split
  · simp only; omega
  · simp only; split <;> omega
theorem digTo_bd (s : Int) (xs : List Int) : ∀ j, j ≤ xs.length → 0 ≤ (digTo s xs j).2 ∧ (digTo s xs j).2 ≤ (j : Int)
  | 0, _ => by rw [digTo_zero]; simp
  | j + 1, h => by
    have ih := digTo_bd s xs j (by omega)
    have h1 := stepD_bd s (digTo s xs j) (xs.getD j 0)
    rw [digTo_succ s xs (by omega)]
    omega
/-- The program's step: only those whose stop is left count. -/
def stepL (s : Int) (p : Int → Bool) (st : Bool × Int) (x : Int) : Bool × Int := if x = s then (true, st.2) else (st.1, st.2 + (if (st.1 && p x) = true then 1 else 0))
def ligTo (s : Int) (p : Int → Bool) (xs : List Int) (j : Nat) : Bool × Int := (xs.take j).foldl (stepL s p) (false, 0)
theorem ligTo_zero (s : Int) (p : Int → Bool) (xs : List Int) : ligTo s p xs 0 = (false, 0) := by simp [ligTo]
theorem ligTo_succ (s : Int) (p : Int → Bool) (xs : List Int) {j : Nat} (hj : j < xs.length) : ligTo s p xs (j + 1) = stepL s p (ligTo s p xs j) (xs.getD j 0) := by
  unfold ligTo; rw [take_next xs hj, List.foldl_append]; rfl
theorem stepL_bd (s : Int) (p : Int → Bool) (st : Bool × Int) (x : Int) : st.2 ≤ (stepL s p st x).2 ∧ (stepL s p st x).2 ≤ st.2 + 1 := by
  unfold stepL; split
  · simp only; omega
  · simp only; split <;> omega
theorem ligTo_bd (s : Int) (p : Int → Bool) (xs : List Int) : ∀ j, j ≤ xs.length → 0 ≤ (ligTo s p xs j).2 ∧ (ligTo s p xs j).2 ≤ (j : Int)
  | 0, _ => by rw [ligTo_zero]; simp
  | j + 1, h => by
    have ih := ligTo_bd s p xs j (by omega)
    have h1 := stepL_bd s p (ligTo s p xs j) (xs.getD j 0)
    rw [ligTo_succ s p xs (by omega)]
    omega
theorem fold_lig {s : Int} {p : Int → Bool} (hp : p s = true) : ∀ (xs : List Int) (st : Bool × Int), xs.foldl (stepL s p) st = (xs.filter p).foldl (stepD s) st
  | [], st => rfl
  | x :: xs, st => by
    rw [List.foldl_cons, List.filter_cons]
    by_cases h : p x = true
    · rw [if_pos h, List.foldl_cons, fold_lig hp xs]
      congr 1
      unfold stepL stepD
      rw [h, Bool.and_true]
    · rw [if_neg h, fold_lig hp xs]
      congr 1
      have hx : x ≠ s := fun e => h (by rw [e]; exact hp)
      unfold stepL
      rw [if_neg hx, show p x = false by simpa using h, Bool.and_false]
      simp
/-- Which stops are left ahead of place k of the visit. -/
def leftP (V : List Int) (k : Nat) (x : Int) : Bool := !hasB (V.take k) x
theorem leftP_zero (V : List Int) (x : Int) : leftP V 0 x = true := by simp [leftP, hasB]
theorem leftP_succ (V : List Int) {k : Nat} (hk : k < V.length) (x : Int) : leftP V (k + 1) x = (leftP V k x && !decide (x = V.getD k 0)) := by
  unfold leftP hasB
  rw [take_next V hk, Bool.eq_iff_iff]
  simp
/-- What is in the bag ahead of place k. -/
def nowK (ps : List (Int × Int)) (V L : List Int) (k : Nat) : List Int := L.filter fun i => leftP V k (stopAt ps i)
theorem nowK_zero (ps : List (Int × Int)) (V L : List Int) : nowK ps V L 0 = L := by
  unfold nowK; rw [List.filter_eq_self]; intro i _; exact leftP_zero V _
theorem nowK_len (ps : List (Int × Int)) (V L : List Int) (k : Nat) : (nowK ps V L k).length ≤ L.length := List.length_filter_le _ _
theorem nowK_mem {ps : List (Int × Int)} {V L : List Int} {k : Nat} {x : Int} (h : x ∈ nowK ps V L k) : x ∈ L := (List.mem_filter.1 h).1
/-- What is put back of the first j. -/
def restK (ps : List (Int × Int)) (V L : List Int) (k j : Nat) : List Int := ((nowK ps V L k).take j).filter fun i => !decide (stopAt ps i = V.getD k 0)
theorem restK_zero (ps : List (Int × Int)) (V L : List Int) (k : Nat) : restK ps V L k 0 = [] := by simp [restK]
theorem restK_yes {ps : List (Int × Int)} {V L : List Int} {k j : Nat} (hj : j < (nowK ps V L k).length) (h : stopAt ps ((nowK ps V L k).getD j 0) ≠ V.getD k 0) : restK ps V L k (j + 1) = restK ps V L k j ++ [(nowK ps V L k).getD j 0] := by
  unfold restK; rw [take_next _ hj, List.filter_append, List.filter_cons]; rw [if_pos (by simpa using h)]; rfl
theorem restK_no {ps : List (Int × Int)} {V L : List Int} {k j : Nat} (hj : j < (nowK ps V L k).length) (h : stopAt ps ((nowK ps V L k).getD j 0) = V.getD k 0) : restK ps V L k (j + 1) = restK ps V L k j := by
  unfold restK; rw [take_next _ hj, List.filter_append, List.filter_cons]; rw [if_neg (by simpa using h), List.filter_nil, List.append_nil]
theorem restK_all {ps : List (Int × Int)} {V L : List Int} {k : Nat} (hk : k < V.length) : restK ps V L k (nowK ps V L k).length = nowK ps V L (k + 1) := by
  unfold restK
  rw [List.take_length]
  unfold nowK
  rw [List.filter_filter]
  apply List.filter_congr
  intro x _
  rw [leftP_succ V hk, Bool.and_comm]
theorem restK_len (ps : List (Int × Int)) (V L : List Int) (k j : Nat) : (restK ps V L k j).length ≤ L.length := by
  unfold restK
  refine Nat.le_trans (List.length_filter_le _ _) ?_
  rw [List.length_take]
  have := nowK_len ps V L k
  omega
/-- How many are lifted at place k. -/
def digAt (ps : List (Int × Int)) (V L : List Int) (k : Nat) : Int := (digTo (V.getD k 0) (stk ps (nowK ps V L k)) (nowK ps V L k).length).2
def digSum (ps : List (Int × Int)) (V L : List Int) : Nat → Int
  | 0 => 0
  | k + 1 => digSum ps V L k + digAt ps V L k
theorem digAt_bd (ps : List (Int × Int)) (V L : List Int) (k : Nat) : 0 ≤ digAt ps V L k ∧ digAt ps V L k ≤ (L.length : Int) := by
  have h := digTo_bd (V.getD k 0) (stk ps (nowK ps V L k)) (nowK ps V L k).length (by rw [stk_len]; exact Nat.le_refl _)
  have := nowK_len ps V L k
  unfold digAt
  omega
theorem digSum_bd (ps : List (Int × Int)) (V L : List Int) (hL : L.length ≤ 10) : ∀ k, 0 ≤ digSum ps V L k ∧ digSum ps V L k ≤ 10 * (k : Int)
  | 0 => by simp [digSum]
  | k + 1 => by
    have ih := digSum_bd ps V L hL k
    have := digAt_bd ps V L k
    rw [digSum]
    omega
theorem filter_stk (ps : List (Int × Int)) (V L : List Int) (k : Nat) : (stk ps L).filter (leftP V k) = stk ps (nowK ps V L k) := by
  unfold stk nowK
  rw [List.filter_map]
  rfl
/-- The program's count at place k is the model's. -/
theorem lig_dig {ps : List (Int × Int)} {V L : List Int} {k : Nat} {p : Int → Bool} (hs : p (V.getD k 0) = true) (hp : ∀ x, x ∈ stk ps L → p x = leftP V k x) : (ligTo (V.getD k 0) p (stk ps L) L.length).2 = digAt ps V L k := by
  unfold ligTo digAt digTo
  rw [← stk_len ps L, List.take_length, fold_lig hs, ← stk_len ps (nowK ps V L k), List.take_length, ← filter_stk]
  congr 2
  exact List.filter_congr hp
/-- A set of stops, a bit for each. -/
def IsSet (m : Nat) (q : Int → Bool) : Prop := m < 512 ∧ ∀ n : Nat, n < 9 → m.testBit n = q (n : Int)
theorem IsSet.congr {m : Nat} {p q : Int → Bool} (h : IsSet m p) (he : ∀ n : Nat, n < 9 → p (n : Int) = q (n : Int)) : IsSet m q := ⟨h.1, fun n hn => (h.2 n hn).trans (he n hn)⟩
theorem IsSet.zero : IsSet 0 (fun _ => false) := ⟨by omega, fun n _ => Nat.zero_testBit n⟩
/-- A load: the index of each parcel once. -/
theorem load_mem {n : Nat} {L : List Int} (h : visB (idxI n) L = true) : L.length = n ∧ ∀ k, k < L.length → 0 ≤ L.getD k 0 ∧ L.getD k 0 < (n : Int) := by
  obtain ⟨h1, h2⟩ := (visB_iff (idxI_asc n)).1 h
  rw [idxI_len] at h2
  refine ⟨h2, fun k hk => ?_⟩
  have := (idxI_mem n _).1 (h1 k hk).1
  omega
theorem getD_mem {L : List Int} {k : Nat} (hk : k < L.length) : L.getD k 0 ∈ L := by
  simp [List.getD, hk]
theorem mem_getD {L : List Int} {x : Int} (h : x ∈ L) : ∃ k, k < L.length ∧ L.getD k 0 = x := by
  obtain ⟨k, hk, e⟩ := List.getElem_of_mem h
  exact ⟨k, hk, by simp [List.getD, hk, e]⟩
theorem load_all {n : Nat} {L : List Int} (h : visB (idxI n) L = true) {x : Int} (hx : x ∈ L) : 0 ≤ x ∧ x < (n : Int) := by
  obtain ⟨k, hk, rfl⟩ := mem_getD hx
  exact (load_mem h).2 k hk
/-- A visit has every parcel's stop. -/
theorem stop_in {ps : List (Int × Int)} (hok : OkTo ps ps.length) {i : Nat} (hi : i < ps.length) : (ps.getD i (0, 0)).1 ∈ stopsL ps := by
  have hw := wt_pos hok i hi
  have hq := hok i hi
  unfold okQ at hq
  obtain ⟨m, hm⟩ : ∃ m : Nat, (ps.getD i (0, 0)).1 = (m : Int) := ⟨((ps.getD i (0, 0)).1).toNat, by omega⟩
  rw [hm] at hw ⊢
  obtain ⟨h1, h2⟩ := stops_at (ps := ps) (m := m) (by omega) hw
  rw [← h1]
  exact getD_mem h2
theorem visit_has {ps : List (Int × Int)} {V : List Int} (h : visB (stopsL ps) V = true) {x : Int} (hx : x ∈ stopsL ps) : x ∈ V := by
  unfold visB at h
  have e : sortI V = stopsL ps := of_decide_eq_true h
  rw [← e] at hx
  exact (sortI_perm V).mem_iff.1 hx
theorem visit_stk {ps : List (Int × Int)} {V L : List Int} (hok : OkTo ps ps.length) (hV : visB (stopsL ps) V = true) (hL : visB (idxI ps.length) L = true) {x : Int} (hx : x ∈ stk ps L) : x ∈ V := by
  unfold stk at hx
  obtain ⟨i, hi, rfl⟩ := List.mem_map.1 hx
  have := load_all hL hi
  exact visit_has hV (stop_in hok (by omega))
/-- The stop at place k is no earlier one's. -/
theorem visit_left {ps : List (Int × Int)} {V : List Int} (hV : visB (stopsL ps) V = true) {k : Nat} (hk : k < V.length) : leftP V k (V.getD k 0) = true := by
  have h := (((visB_iff (stops_asc ps)).1 hV).1 k hk).2
  unfold leftP hasB
  rw [decide_eq_false h]; rfl
def dgOk (ps : List (Int × Int)) (L V : List Int) : Bool := visB (idxI ps.length) L && visB (stopsL ps) V
def dgC (ps : List (Int × Int)) (L V : List Int) : Int := if vldQ ps = true then (if dgOk ps L V = true then 0 else 4) else 1
def dgR (ps : List (Int × Int)) (L V : List Int) : Int := if vldQ ps = true ∧ dgOk ps L V = true then digSum ps V L V.length else 0
end Go.Proofs.Yteecpijfikgjnaa
