/-
  Slices of slices of int16 in memory: those that came in, those of the call's own, and those that are read.
-/
import Derived.Test.YtnjhkmoinlikiaaDoorToH
import Derived.Test.YtnjhkmoinlikiaaDoorBlock
namespace Go.Proofs.YtnjhkmoinlikiaaDoor
open Go Go.RowKit
set_option linter.unusedVariables false

theorem ret_val {k : IntKind} {a b : Int} (h : a = b) : Value.int k a = .int k b := by rw [h]
abbrev nilS : Value := .slice none 0 0

/-- Block B holds two cells, and no other one. -/
def Blk2 (w : World) (B : Nat) (T : TypeId) (x y : Value) : Prop := w.heap[B]? = some (.cells #[x, y] T (0, 0))
theorem Blk2.lt {w : World} {B : Nat} {T : TypeId} {x y : Value} (h : Blk2 w B T x y) : B < w.heap.size := (Array.getElem?_eq_some_iff.1 h).1
theorem Blk2.at0 {w : World} {B : Nat} {T : TypeId} {x y : Value} (h : Blk2 w B T x y) : w.cell? ⟨B, 0, none⟩ = some x := cell_of_row w B 0 _ T (0, 0) h
theorem Blk2.at1 {w : World} {B : Nat} {T : TypeId} {x y : Value} (h : Blk2 w B T x y) : w.cell? ⟨B, 1, none⟩ = some y := cell_of_row w B 1 _ T (0, 0) h
theorem Blk2.frozen {w : World} {B : Nat} {T : TypeId} {x y : Value} (h : Blk2 w B T x y) (i : Nat) : w.frozen? ⟨B, i, none⟩ = false := frozen_of_row w B i _ T h
theorem Blk2.new {w : World} {n : Nat} (hn : w.heap.size = n) (T : TypeId) (x y : Value) : Blk2 (w.alloc (.cells #[x, y] T)) n T x y := by subst hn; exact heap_alloc_new w _
theorem Blk2.alloc {w : World} {B : Nat} {T : TypeId} {x y : Value} (h : Blk2 w B T x y) (o : Obj) : Blk2 (w.alloc o) B T x y := (heap_alloc_old w o h.lt).trans h
theorem Blk2.other {w : World} {B : Nat} {T : TypeId} {x y : Value} (h : Blk2 w B T x y) (p : Addr) (u : Value) (hp : B ≠ p.block) : Blk2 (w.setCell p u) B T x y := (heap_setCell_other w p B u hp).trans h
theorem Blk2.set0 {w : World} {B : Nat} {T : TypeId} {x y : Value} (h : Blk2 w B T x y) (u : Value) : Blk2 (w.setCell ⟨B, 0, none⟩ u) B T u y := by
  unfold Blk2; rw [heap_setCell_same w B 0 _ T u h]; rfl
theorem Blk2.set1 {w : World} {B : Nat} {T : TypeId} {x y : Value} (h : Blk2 w B T x y) (u : Value) : Blk2 (w.setCell ⟨B, 1, none⟩ u) B T x u := by
  unfold Blk2; rw [heap_setCell_same w B 1 _ T u h]; rfl
theorem Blk2.below {w w' : World} {B : Nat} {T : TypeId} {x y : Value} (h : Blk2 w B T x y) (hb : Below w.heap.size w w') : Blk2 w' B T x y := by
  unfold Blk2; rw [hb.block B h.lt]; exact h
theorem Blk2.drewN {w : World} {B : Nat} {T : TypeId} {x y : Value} (h : Blk2 w B T x y) (n : Nat) : Blk2 (w.drewN n) B T x y := h
theorem Blk2.drew {w : World} {B : Nat} {T : TypeId} {x y : Value} (h : Blk2 w B T x y) : Blk2 w.drew B T x y := h
theorem OwnH.other {B : Nat} {w : World} {v : Value} {xs : List Int} (h : OwnH B w v xs) (p : Addr) (u : Value) (hp : p.block < B) : OwnH B (w.setCell p u) v xs := by
  refine ⟨h.1, ?_⟩
  rcases h.2 with hn | ⟨g, cap, cur, rfl, hB, hg, rest⟩
  · exact .inl hn
  · exact .inr ⟨g, cap, cur, rfl, hB, by rw [heap_setCell_other w p g u (by omega)]; exact hg, rest⟩

/-- A slice of slices that came in reads as the rows R. -/
def IsRows (w : World) (a : Option Addr) (len cap : Nat) (R : List (List Int)) : Prop :=
  (a = none ∧ len = 0 ∧ cap = 0 ∧ R = []) ∨
  ∃ x, a = some x ∧ len ≤ cap ∧ cap ≤ maxLen ∧ R.length = len ∧ ∀ j, j < len → ∃ a' l' c' z, w.cell? (x.add j) = some (.slice a' l' c') ∧ IsRow .i16 w a' l' c' z ∧ z.take l' = R.getD j []
theorem IsRows.len_eq {w : World} {a : Option Addr} {len cap : Nat} {R : List (List Int)} (h : IsRows w a len cap R) : R.length = len := by
  rcases h with ⟨_, rfl, _, rfl⟩ | ⟨x, rfl, h1, h2, h3, h4⟩
  · rfl
  · exact h3
theorem IsRows.below {w w' : World} {a : Option Addr} {len cap : Nat} {R : List (List Int)} (h : IsRows w a len cap R) (hb : Below w.heap.size w w') : IsRows w' a len cap R := by
  rcases h with h | ⟨x, rfl, h1, h2, h3, h4⟩
  · exact .inl h
  · refine .inr ⟨x, rfl, h1, h2, h3, fun j hj => ?_⟩
    obtain ⟨a', l', c', z, g0, g1, g2⟩ := h4 j hj
    exact ⟨a', l', c', z, by rw [hb.cell (World.block_lt_of_cell? w _ g0)]; exact g0, g1.below hb, g2⟩

/-- A slice value reads as the rows R. -/
def ReadsM (w : World) (v : Value) (R : List (List Int)) : Prop := ∃ (a : Option Addr) (cap : Nat), v = .slice a R.length cap ∧ (R ≠ [] → ∃ b, a = some ⟨b, 0, none⟩ ∧ ∀ j, j < R.length → ∃ u, w.cell? ⟨b, j, none⟩ = some u ∧ ReadsH w u (R.getD j []))
theorem ReadsM.below {w w' : World} {v : Value} {R : List (List Int)} (h : ReadsM w v R) (hb : Below w.heap.size w w') : ReadsM w' v R := by
  obtain ⟨a, cap, rfl, h⟩ := h
  refine ⟨a, cap, rfl, fun hx => ?_⟩
  obtain ⟨b, rfl, hc⟩ := h hx
  refine ⟨b, rfl, fun j hj => ?_⟩
  obtain ⟨u, c0, r0⟩ := hc j hj
  exact ⟨u, by rw [hb.cell (p := ⟨b, j, none⟩) (World.block_lt_of_cell? w _ c0)]; exact c0, r0.below hb⟩

/-- The first k rows of the outer row us are the call's own, each in a block of its own, the blocks rising. -/
def RowsTo (B : Nat) (w : World) (us : List Value) (R : List (List Int)) (k : Nat) : Prop :=
  (∀ j, j < k → OwnH B w (us.getD j nilS) (R.getD j [])) ∧ ∀ i j, i < j → j < k → ∀ p q, (us.getD i nilS).ownBlock = some p → (us.getD j nilS).ownBlock = some q → p < q
theorem RowsTo.zero (B : Nat) (w : World) (us : List Value) (R : List (List Int)) : RowsTo B w us R 0 := ⟨fun j hj => absurd hj (by omega), fun i j _ hj => absurd hj (by omega)⟩
theorem RowsTo.below {B : Nat} {w w' : World} {us : List Value} {R : List (List Int)} {k : Nat} (h : RowsTo B w us R k) (hb : Below w.heap.size w w') : RowsTo B w' us R k :=
  ⟨fun j hj => (h.1 j hj).below hb, h.2⟩
theorem RowsTo.kept {B : Nat} {w w' : World} {us : List Value} {R : List (List Int)} {k g : Nat} (h : RowsTo B w us R k) (hg : w.grownBy w' (some g)) (hB : g < B) : RowsTo B w' us R k :=
  ⟨fun j hj => (h.1 j hj).kept hg (by
    cases e : (us.getD j nilS).ownBlock with
    | none => exact .inl rfl
    | some p => exact .inr (fun h' => by have := ((h.1 j hj).block p e).1; simp at h'; omega)), h.2⟩
theorem getD_set_ne {us : List Value} {j k : Nat} (u : Value) (h : j ≠ k) : (us.set k u).getD j nilS = us.getD j nilS := by
  simp [List.getD, Ne.symm h]
theorem getD_set_eq {us : List Value} {k : Nat} (u : Value) (h : k < us.length) : (us.set k u).getD k nilS = u := by
  simp [List.getD, h]
theorem RowsTo.succ {B : Nat} {w : World} {us : List Value} {R : List (List Int)} {k : Nat} {u : Value} (h : RowsTo B w us R k) (hu : OwnH B w u (R.getD k [])) (hk : k < us.length)
    (hlt : ∀ j, j < k → ∀ p q, (us.getD j nilS).ownBlock = some p → u.ownBlock = some q → p < q) : RowsTo B w (us.set k u) R (k + 1) := by
  refine ⟨fun j hj => ?_, fun i j hij hj p q hp hq => ?_⟩
  · by_cases e : j = k
    · subst e; rw [getD_set_eq _ hk]; exact hu
    · rw [getD_set_ne _ e]; exact h.1 j (by omega)
  · rw [getD_set_ne _ (by omega)] at hp
    by_cases e : j = k
    · subst e; rw [getD_set_eq _ hk] at hq; exact hlt i (by omega) p q hp hq
    · rw [getD_set_ne _ e] at hq; exact h.2 i j hij (by omega) p q hp hq

/-- A slice of slices of the call's own: the outer row in a block from B on, the rows in blocks behind it. -/
def OwnM (B : Nat) (w : World) (v : Value) (R : List (List Int)) : Prop :=
  ∃ (us : List Value) (B2 : Nat), B ≤ B2 ∧ w.ownsRow B 31 1 v R.length us ∧ RowsTo B2 w us R R.length ∧ ∀ p, v.ownBlock = some p → p < B2
theorem OwnM.below {B : Nat} {w w' : World} {v : Value} {R : List (List Int)} (h : OwnM B w v R) (hb : Below w.heap.size w w') : OwnM B w' v R := by
  obtain ⟨us, B2, hB, h1, h2, h3⟩ := h
  refine ⟨us, B2, hB, ⟨h1.1, ?_⟩, h2.below hb, h3⟩
  rcases h1.2 with hn | ⟨g, cap, cur, rfl, hB, hg, rest⟩
  · exact .inl hn
  · exact .inr ⟨g, cap, cur, rfl, hB, by rw [hb.block g (Array.getElem?_eq_some_iff.1 hg).1]; exact hg, rest⟩
theorem OwnM.other {B : Nat} {w : World} {v : Value} {R : List (List Int)} (h : OwnM B w v R) (p : Addr) (u : Value) (hp : p.block < B) : OwnM B (w.setCell p u) v R := by
  obtain ⟨us, B2, hB, h1, h2, h3⟩ := h
  refine ⟨us, B2, hB, ⟨h1.1, ?_⟩, ⟨fun j hj => (h2.1 j hj).other p u (by omega), h2.2⟩, h3⟩
  rcases h1.2 with hn | ⟨g, cap, cur, rfl, hB, hg, rest⟩
  · exact .inl hn
  · exact .inr ⟨g, cap, cur, rfl, hB, by rw [heap_setCell_other w p g u (by omega)]; exact hg, rest⟩
theorem OwnM.reads {B : Nat} {w : World} {v : Value} {R : List (List Int)} (h : OwnM B w v R) : ReadsM w v R := by
  obtain ⟨us, B2, hB, h1, h2, h3⟩ := h
  have hus : us.length = R.length := by simpa using h1.1
  rcases h1.2 with ⟨rfl, h0⟩ | ⟨g, cap, cur, rfl, hb, hg, hn, hm, _, _⟩
  · have : R = [] := List.eq_nil_of_length_eq_zero h0
    subst this
    exact ⟨none, 0, rfl, fun h => absurd rfl h⟩
  · refine ⟨_, cap, rfl, fun _ => ⟨g, rfl, fun j hj => ⟨us.getD j nilS, ?_, (h2.1 j hj).reads⟩⟩⟩
    rw [World.ownsRow.cellAt h1 j (by omega)]
    simp [List.getD, show j < us.length by omega]
theorem OwnM.mono {B B' : Nat} {w : World} {v : Value} {R : List (List Int)} (h : OwnM B w v R) (hB : B' ≤ B) : OwnM B' w v R := by
  obtain ⟨us, B2, h0, h1, h2, h3⟩ := h
  refine ⟨us, B2, by omega, ⟨h1.1, ?_⟩, h2, h3⟩
  rcases h1.2 with hn | ⟨g, cap, cur, rfl, hb, rest⟩
  · exact .inl hn
  · exact .inr ⟨g, cap, cur, rfl, Nat.le_trans hB hb, rest⟩

/-- How many numbers the rows have together. -/
def tot (R : List (List Int)) : Nat := (R.map List.length).sum
theorem tot_app (A B : List (List Int)) : tot (A ++ B) = tot A + tot B := by
  induction A with
  | nil => simp [tot]
  | cons x xs ih => simp only [tot, List.cons_append, List.map_cons, List.sum_cons] at ih ⊢; omega
theorem tot_take_succ (R : List (List Int)) (k : Nat) (h : k < R.length) : tot (R.take (k + 1)) = tot (R.take k) + (R.getD k []).length := by
  rw [List.take_succ_eq_append_getElem h, tot_app]
  simp [tot, List.getD, h]
theorem tot_take_le (R : List (List Int)) (k : Nat) : tot (R.take k) ≤ tot R := by
  have h := tot_app (R.take k) (R.drop k)
  rw [List.take_append_drop] at h
  omega
theorem row_le_tot (R : List (List Int)) (k : Nat) (h : k < R.length) : (R.getD k []).length ≤ tot R := by
  have h1 := tot_take_succ R k h
  have h2 := tot_take_le R (k + 1)
  omega
/-- What is left of l when the rows, and their numbers, have been taken off: -1 if it is not enough. -/
def szM (l : Int) (R : List (List Int)) : Int := if 0 ≤ l - R.length - tot R then l - R.length - tot R else -1
def szH (l : Int) (n : Nat) : Int := if 0 ≤ l - n then l - n else -1
end Go.Proofs.YtnjhkmoinlikiaaDoor
