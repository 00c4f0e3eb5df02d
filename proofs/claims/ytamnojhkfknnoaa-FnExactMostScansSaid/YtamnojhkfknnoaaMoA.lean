/-
  Rows of truth values, and rows of such rows, of the call's own: what the model's MostScans keeps (who can come behind whom).
-/
import Derived.Test.YtamnojhkfknnoaaMoP
import Derived.Test.YtamnojhkfknnoaaKeepO
import Derived.Test.YtamnojhkfknnoaaToI
import Derived.Deep.AppendLies
namespace Go.Proofs.Ytamnojhkfknnoaa
open Go Go.RowKit
set_option linter.unusedVariables false

theorem info_bool : (Try.prog.info? 4).map (fun i => (i.zero, i.size, i.bytes)) = some (some (.bool false), 1, 1) := by kernel_rfl
theorem info_bools : (Try.prog.info? 59).map (fun i => (i.zero, i.size, i.bytes)) = some (some (.slice none 0 0), 1, 24) := by kernel_rfl
theorem info_int : (Try.prog.info? 3).map (fun i => (i.zero, i.size, i.bytes)) = some (some (.int .i64 0), 1, 8) := by kernel_rfl
theorem row_same {B n k : Nat} {T : TypeId} {w w' : World} {v : Value} {xs : List Value} (h : w.ownsRow B T n v k xs) (hb : Below w.heap.size w w') : w'.ownsRow B T n v k xs := by
  refine ⟨h.1, ?_⟩
  rcases h.2 with hn | ⟨g, cap, cur, rfl, hB, hg, rest⟩
  · exact .inl hn
  · exact .inr ⟨g, cap, cur, rfl, hB, by rw [hb.block g (Array.getElem?_eq_some_iff.1 hg).1]; exact hg, rest⟩
theorem row_lower {B B' n k : Nat} {T : TypeId} {w : World} {v : Value} {xs : List Value} (h : w.ownsRow B T n v k xs) (hl : B' ≤ B) : w.ownsRow B' T n v k xs := by
  refine ⟨h.1, ?_⟩
  rcases h.2 with hn | ⟨g, cap, cur, rfl, hB, rest⟩
  · exact .inl hn
  · exact .inr ⟨g, cap, cur, rfl, Nat.le_trans hl hB, rest⟩
/-- Rows of two types share no block. -/
theorem row_types {T U : TypeId} (hT : T ≠ U) {lo lo' a b n n' : Nat} {w : World} {v u : Value} {xs ys : List Value} (h : w.ownsRow lo T a v n xs) (k : w.ownsRow lo' U b u n' ys) : ∀ p, v.ownBlock = some p → u.ownBlock = some p → False := by
  intro p hp hu
  rcases h.2 with ⟨rfl, _⟩ | ⟨g, cap, cur, rfl, _, hg, _⟩
  · simp [Value.ownBlock] at hp
  · rcases k.2 with ⟨rfl, _⟩ | ⟨g', cap', cur', rfl, _, hg', _⟩
    · simp [Value.ownBlock] at hu
    · simp [Value.ownBlock] at hp hu
      subst hp
      subst hu
      rw [hg] at hg'
      simp at hg'
      exact hT hg'.2

abbrev nilG : Value := .slice none 0 0
def OwnBl (B : Nat) (w : World) (v : Value) (bs : List Bool) : Prop := w.ownsRow B 4 1 v bs.length (bs.map Value.bool)
theorem OwnBl.below {B : Nat} {w w' : World} {v : Value} {bs : List Bool} (h : OwnBl B w v bs) (hb : Below w.heap.size w w') : OwnBl B w' v bs := row_same h hb
theorem OwnBl.mono {B B' : Nat} {w : World} {v : Value} {bs : List Bool} (h : OwnBl B w v bs) (hl : B' ≤ B) : OwnBl B' w v bs := row_lower h hl
theorem OwnBl.made (w : World) : OwnBl w.heap.size (w.alloc (.cells #[] 4)) (.slice (some ⟨w.heap.size, 0, none⟩) 0 0) [] := World.ownsRow_made w #[] 0 (Nat.le_refl _) (Nat.zero_le _) rfl
theorem OwnBl.cell {B n g cap : Nat} {w : World} {bs : List Bool} (h : OwnBl B w (.slice (some ⟨g, 0, none⟩) n cap) bs) (hn : bs.length = n) (j : Nat) (hj : j < n) : w.cell? ⟨g, j, none⟩ = some (.bool (bs.getD j false)) := by
  subst hn
  rw [World.ownsRow.cellAt h j (by omega)]
  simp [List.getD, hj]

/-- Rows of truth values, all blocks from lo on and below hi. -/
def OwnG (lo hi : Nat) (w : World) (v : Value) (R : List (List Bool)) : Prop :=
  ∃ us : List Value, w.ownsRow lo 59 1 v R.length us ∧ (∀ j, j < R.length → OwnBl lo w (us.getD j nilG) (R.getD j [])) ∧ (∀ p, v.ownBlock = some p → p < hi) ∧ ∀ j, j < R.length → ∀ p, (us.getD j nilG).ownBlock = some p → p < hi
theorem OwnG.below {lo hi : Nat} {w w' : World} {v : Value} {R : List (List Bool)} (h : OwnG lo hi w v R) (hb : Below w.heap.size w w') : OwnG lo hi w' v R := by
  obtain ⟨us, h1, h2, h3, h4⟩ := h
  exact ⟨us, row_same h1 hb, fun j hj => (h2 j hj).below hb, h3, h4⟩
theorem OwnG.high {lo hi hi' : Nat} {w : World} {v : Value} {R : List (List Bool)} (h : OwnG lo hi w v R) (hh : hi ≤ hi') : OwnG lo hi' w v R := by
  obtain ⟨us, h1, h2, h3, h4⟩ := h
  exact ⟨us, h1, h2, fun p hp => Nat.lt_of_lt_of_le (h3 p hp) hh, fun j hj p hp => Nat.lt_of_lt_of_le (h4 j hj p hp) hh⟩
theorem OwnG.made (lo hi : Nat) (w : World) (h : lo ≤ w.heap.size) (hh : w.heap.size < hi) : OwnG lo hi (w.alloc (.cells #[] 59)) (.slice (some ⟨w.heap.size, 0, none⟩) 0 0) [] :=
  ⟨[], World.ownsRow_made w #[] 0 h (Nat.zero_le _) rfl, fun j hj => absurd hj (by simp), fun p hp => by simp [Value.ownBlock] at hp; omega, fun j hj => absurd hj (by simp)⟩
/-- A change of one block that is none of theirs. -/
theorem OwnG.kept {lo hi : Nat} {w w' : World} {v : Value} {R : List (List Bool)} {row : Option Nat} (h : OwnG lo hi w v R) (hg : w.grownBy w' row) (hr : ∀ k, row = some k → k < lo ∨ hi ≤ k) : OwnG lo hi w' v R := by
  obtain ⟨us, h1, h2, h3, h4⟩ := h
  refine ⟨us, h1.kept hg ?_, fun j hj => (h2 j hj : w.ownsRow _ _ _ _ _ _).kept hg ?_, h3, h4⟩
  · cases e : v.ownBlock with
    | none => exact .inl rfl
    | some p =>
        refine .inr fun e2 => ?_
        have := hr p e2.symm
        have := h3 p e
        have := (h1.lt p e).1
        omega
  · cases e : (us.getD j nilG).ownBlock with
    | none => exact .inl rfl
    | some p =>
        refine .inr fun e2 => ?_
        have := hr p e2.symm
        have := h4 j hj p e
        have := (World.ownsRow.lt (h2 j hj) p e).1
        omega
/-- .. or that holds another type. -/
theorem OwnG.apart {lo hi l a n : Nat} {T : TypeId} {w w' : World} {v u : Value} {R : List (List Bool)} {xs : List Value} (h : OwnG lo hi w v R) (hu : w.ownsRow l T a u n xs) (h1 : 59 ≠ T) (h2 : 4 ≠ T) (hg : w.grownBy w' u.ownBlock) : OwnG lo hi w' v R := by
  obtain ⟨us, g1, g2, g3, g4⟩ := h
  refine ⟨us, g1.kept hg ?_, fun j hj => (g2 j hj : w.ownsRow _ _ _ _ _ _).kept hg ?_, g3, g4⟩
  · cases e : v.ownBlock with
    | none => exact .inl rfl
    | some p => exact .inr fun e2 => row_types h1 g1 hu p e e2.symm
  · cases e : (us.getD j nilG).ownBlock with
    | none => exact .inl rfl
    | some p => exact .inr fun e2 => row_types h2 (g2 j hj) hu p e e2.symm
/-- One row more: what an append to the outer row leaves. -/
theorem OwnG.push {lo hi : Nat} {w w' : World} {v v' u : Value} {R : List (List Bool)} {bs : List Bool} {us : List Value} (h1 : w.ownsRow lo 59 1 v R.length us) (h2 : ∀ j, j < R.length → OwnBl lo w (us.getD j nilG) (R.getD j [])) (hu : OwnBl lo w u bs)
    (hown : w'.ownsRow lo 59 1 v' (R.length + 1) (us ++ [u])) (hg : w.grownBy w' v.ownBlock) (hh : w'.heap.size ≤ hi) : OwnG lo hi w' v' (R ++ [bs]) := by
  have hus : us.length = R.length := by simpa using h1.1
  have keep : ∀ (x : Value) (cs : List Bool), OwnBl lo w x cs → OwnBl lo w' x cs := fun x cs h => by
    refine World.ownsRow.kept h hg ?_
    cases e : x.ownBlock with
    | none => exact .inl rfl
    | some p => exact .inr fun e2 => row_types (by decide) h h1 p e e2.symm
  have hro : ∀ j, j < (R ++ [bs]).length → OwnBl lo w' ((us ++ [u]).getD j nilG) ((R ++ [bs]).getD j []) := fun j hj => by
    simp only [List.length_append, List.length_cons, List.length_nil] at hj
    by_cases e : j = R.length
    · subst e
      rw [show (us ++ [u]).getD R.length nilG = u by simp [List.getD, ← hus], show (R ++ [bs]).getD R.length [] = bs by simp [List.getD]]
      exact keep _ _ hu
    · have hj' : j < R.length := by omega
      rw [show (us ++ [u]).getD j nilG = us.getD j nilG by simp [List.getD, List.getElem?_append, hus, hj'], show (R ++ [bs]).getD j [] = R.getD j [] by simp [List.getD, List.getElem?_append, hj']]
      exact keep _ _ (h2 j hj')
  refine ⟨us ++ [u], by rw [List.length_append]; exact hown, hro, fun p hp => Nat.lt_of_lt_of_le (hown.lt p hp).2 hh, fun j hj p hp => Nat.lt_of_lt_of_le (World.ownsRow.lt (hro j hj) p hp).2 hh⟩
/-- What a look at row j, place k finds. -/
theorem OwnG.look {lo hi : Nat} {w : World} {v : Value} {R : List (List Bool)} (h : OwnG lo hi w v R) {j k : Nat} (hj : j < R.length) (hk : k < (R.getD j []).length) :
    ∃ g cap gj cj, v = .slice (some ⟨g, 0, none⟩) R.length cap ∧ w.cell? ⟨g, j, none⟩ = some (.slice (some ⟨gj, 0, none⟩) (R.getD j []).length cj) ∧ w.cell? ⟨gj, k, none⟩ = some (.bool ((R.getD j []).getD k false)) ∧ lo ≤ g ∧ lo ≤ gj := by
  obtain ⟨us, h1, h2, _, _⟩ := h
  have hus : us.length = R.length := by simpa using h1.1
  have hb := h2 j hj
  rcases h1.2 with ⟨rfl, h0⟩ | ⟨g, cap, cur, rfl, hlg, _, _⟩
  · omega
  · obtain ⟨u, hu⟩ : ∃ u, us.getD j nilG = u := ⟨_, rfl⟩
    rw [hu] at hb
    rcases hb.2 with ⟨e, h0⟩ | ⟨gj, cj, cur', rfl, hlj, _, _⟩
    · omega
    · refine ⟨g, cap, gj, cj, rfl, ?_, OwnBl.cell hb rfl k hk, hlg, hlj⟩
      rw [World.ownsRow.cellAt h1 j (by omega), List.getElem?_eq_getElem (by omega)]
      have : us.getD j nilG = us[j] := by simp [List.getD, show j < us.length by omega]
      rw [← this, hu]

/-- One truth value more, at a step of a region that draws its order. -/
theorem step_append_bool {w : World} {ops : Array Oper} {o : Oper} {a : Act} {K : Act → World → Prop} {Q : Exit → Act → World → Prop} {E : Prop} (hgd : o.guard = none) (s x : Operand)
    (ho : o.op = .call { callee := .builtin .append, args := #[s, x], argTypes := #[59, 59] }) (base n : Nat) (v : Value) (xs : List Value) (b : Bool) (B : Nat) (hs : a.eval s = v) (hx : a.eval x = .slice (some ⟨B, 0, none⟩) 1 1)
    (hown : w.ownsRow base 4 1 v n xs) (hblk : w.heap[B]? = some (.cells #[.bool b] 4 (0, 0))) (hn : n ≤ 1000) (hbase : base ≤ w.heap.size)
    (h : ∀ v' w', w'.ownsRow base 4 1 v' (n + 1) (xs ++ [.bool b]) → w.grownBy w' v.ownBlock → K (a.put o.dst v') w') : if Region.wanted o (yielded ops a.tmps) = true then Oper.wp Try.prog o a w K Q else E := by
  obtain ⟨k0, hk0, hx0, hx1, hx2⟩ := info_parts info_bool
  refine step_append_lies w hgd s x _ ho base 4 k0 (.bool false) 1 1 Try.underlying59 hk0 hx0 hx1 hx2 rfl (by decide) v n xs hs hown ⟨B, 0, none⟩ 1 1 [.bool b] hx rfl (World.news_of_block (cs := #[.bool b]) hblk) ?_ (by decide) (by unfold maxLen; omega) (by omega) hbase _ rfl ?_
  · intro u hu
    simp at hu
    subst hu
    rfl
  · intro gg cp z h1 h2 _ _
    exact h _ _ h1 h2

/-- The rows of the first i scans. -/
def goRow (G : Nat → Nat → Bool) (n i : Nat) : List Bool := (List.range n).map (G i)
def goRows (G : Nat → Nat → Bool) (n i : Nat) : List (List Bool) := (List.range i).map (goRow G n)
theorem goRow_len (G : Nat → Nat → Bool) (n i : Nat) : (goRow G n i).length = n := by simp [goRow]
theorem goRows_len (G : Nat → Nat → Bool) (n i : Nat) : (goRows G n i).length = i := by simp [goRows]
theorem goRow_get (G : Nat → Nat → Bool) {n i k : Nat} (h : k < n) : (goRow G n i).getD k false = G i k := by simp [goRow, List.getD, h]
theorem goRows_get (G : Nat → Nat → Bool) {n i j : Nat} (h : j < i) : (goRows G n i).getD j [] = goRow G n j := by simp [goRows, List.getD, h]
theorem goRow_succ (G : Nat → Nat → Bool) (n i : Nat) : goRow G (n + 1) i = goRow G n i ++ [G i n] := by simp [goRow, List.range_succ]
theorem goRows_succ (G : Nat → Nat → Bool) (n i : Nat) : goRows G n (i + 1) = goRows G n i ++ [goRow G n i] := by simp [goRows, List.range_succ]
/-- The look at the rows of all scans. -/
theorem OwnG.goes {lo hi n : Nat} {w : World} {v : Value} {G : Nat → Nat → Bool} (h : OwnG lo hi w v (goRows G n n)) {j k : Nat} (hj : j < n) (hk : k < n) :
    ∃ g cap gj cj, v = .slice (some ⟨g, 0, none⟩) n cap ∧ w.cell? ⟨g, j, none⟩ = some (.slice (some ⟨gj, 0, none⟩) n cj) ∧ w.cell? ⟨gj, k, none⟩ = some (.bool (G j k)) ∧ lo ≤ g ∧ lo ≤ gj := by
  have := h.look (j := j) (k := k) (by rw [goRows_len]; exact hj) (by rw [goRows_get G hj, goRow_len]; exact hk)
  rw [goRows_get G hj, goRows_len, goRow_len, goRow_get G hk] at this
  exact this
end Go.Proofs.Ytamnojhkfknnoaa
