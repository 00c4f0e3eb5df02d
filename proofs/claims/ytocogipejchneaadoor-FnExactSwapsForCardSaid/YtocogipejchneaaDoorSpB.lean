/-
  Rings in memory: a row of bools, rows of rings, what a walk round a ring keeps.
-/
import Derived.Test.YtocogipejchneaaDoorSpP
import Derived.Test.YtocogipejchneaaDoorMatD
import Derived.Test.YtocogipejchneaaDoorBlk
import Derived.Maps.AppendAt
namespace Go.Proofs.YtocogipejchneaaDoor
open Go Go.RowKit
set_option linter.unusedVariables false

def bls (f : Nat → Bool) (n : Nat) : Array Value := ((List.range n).map fun i => Value.bool (f i)).toArray
theorem bls_at (f : Nat → Bool) {n i : Nat} (h : i < n) : (bls f n)[i]? = some (.bool (f i)) := by simp [bls, h]
theorem bls_set (f : Nat → Bool) {n a : Nat} (h : a < n) : (bls f n).setIfInBounds a (.bool true) = bls (upd f a) n := by
  unfold bls
  rw [List.setIfInBounds_toArray]
  congr 1
  apply List.ext_getElem?
  intro i
  rw [List.getElem?_set]
  by_cases e : a = i
  · subst e
    simp [h, upd_same]
  · rw [if_neg e]
    by_cases hi : i < n
    · simp [hi, upd_other f (show i ≠ a from fun h => e h.symm)]
    · simp [hi]
/-- Whatever lay before lies as it lay, but for block B. -/
def Hole (B : Nat) (w w' : World) : Prop := w.heap.size ≤ w'.heap.size ∧ ∀ k, k < w.heap.size → k ≠ B → w'.heap[k]? = w.heap[k]?
theorem Hole.refl (B : Nat) (w : World) : Hole B w w := ⟨Nat.le_refl _, fun _ _ _ => rfl⟩
theorem Hole.below {B : Nat} {w0 w w' : World} (h : Hole B w0 w) (hb : Below w.heap.size w w') : Hole B w0 w' := ⟨Nat.le_trans h.1 hb.size, fun k hk hne => (hb.block k (Nat.lt_of_lt_of_le hk h.1)).trans (h.2 k hk hne)⟩
theorem Hole.set {B : Nat} {w0 w : World} (h : Hole B w0 w) (i : Nat) (v : Value) : Hole B w0 (w.setCell ⟨B, i, none⟩ v) := ⟨by simpa using h.1, fun k hk hne => (heap_setCell_other w ⟨B, i, none⟩ k v (by show k ≠ B; exact hne)).trans (h.2 k hk hne)⟩
theorem Hole.grown {B : Nat} {w0 w w' : World} {row : Option Nat} (h : Hole B w0 w) (hg : w.grownBy w' row) (hr : ∀ k, row = some k → w0.heap.size ≤ k) : Hole B w0 w' :=
  ⟨Nat.le_trans h.1 hg.size, fun k hk hne => (hg.block k (Nat.lt_of_lt_of_le hk h.1) (fun e => by have := hr k e.symm; omega)).trans (h.2 k hk hne)⟩
theorem row_hole {B lo n m : Nat} {T U : TypeId} {w w' : World} {v : Value} {us : List Value} {cs : Array Value} (h : w.ownsRow lo T n v m us) (hb : BlkA w B U cs) (hT : T ≠ U) (K : Hole B w w') : w'.ownsRow lo T n v m us := by
  refine ⟨h.1, ?_⟩
  rcases h.2 with hn | ⟨g, cap, cur, rfl, hB, hg, rest⟩
  · exact .inl hn
  · refine .inr ⟨g, cap, cur, rfl, hB, (K.2 g (Array.getElem?_eq_some_iff.1 hg).1 ?_).trans hg, rest⟩
    rintro rfl
    unfold BlkA at hb
    rw [hg] at hb
    injection hb with e
    injection e with _ e2 _
    exact hT e2
theorem own_ne_blk {B lo n m : Nat} {T U : TypeId} {w : World} {v : Value} {us : List Value} {cs : Array Value} (h : w.ownsRow lo T n v m us) (hb : BlkA w B U cs) (hT : T ≠ U) : some B ≠ v.ownBlock := by
  rcases h.2 with ⟨rfl, _⟩ | ⟨g, cap, cur, rfl, hB, hg, rest⟩
  · simp [Value.ownBlock]
  · intro e
    simp [Value.ownBlock] at e
    subst e
    unfold BlkA at hb
    rw [hg] at hb
    injection hb with e
    injection e with _ e2 _
    exact hT e2
theorem rows_ne {T U : TypeId} (hT : T ≠ U) {lo lo' a b n n' : Nat} {w : World} {v u : Value} {xs ys : List Value} (h : w.ownsRow lo T a v n xs) (k : w.ownsRow lo' U b u n' ys) : ∀ p, v.ownBlock = some p → u.ownBlock = some p → False := by
  intro p hp hu
  rcases h.2 with ⟨rfl, _⟩ | ⟨g, cap, cur, rfl, _, hg, _⟩
  · simp [Value.ownBlock] at hp
  · rcases k.2 with ⟨rfl, _⟩ | ⟨g', cap', cur', rfl, _, hg', _⟩
    · simp [Value.ownBlock] at hu
    · simp [Value.ownBlock] at hp hu
      subst hp
      subst hu
      rw [hg] at hg'
      injection hg' with e
      injection e with _ e2 _
      exact hT e2
def DistS (us : List Value) (k : Nat) : Prop := ∀ i j, i < j → j < k → ∀ p q, (us.getD i nilS).ownBlock = some p → (us.getD j nilS).ownBlock = some q → p ≠ q
theorem getS_app (us : List Value) (u : Value) (j : Nat) (h : j < us.length) : (us ++ [u]).getD j nilS = us.getD j nilS := by simp [List.getD, List.getElem?_append_left h]
theorem getS_last (us : List Value) (u : Value) : (us ++ [u]).getD us.length nilS = u := by simp [List.getD]
theorem row_keptS {lo lo' : Nat} {w w' : World} {v : Value} {xs : List Int} {o : Value} {n : Nat} {us : List Value} (h : OwnI lo w v xs) (ho : w.ownsRow lo' 22 1 o n us) (g : w.grownBy w' o.ownBlock) : OwnI lo w' v xs :=
  h.kept g (by
    cases e : v.ownBlock with
    | none => exact .inl rfl
    | some p => exact .inr (fun e2 => row_ne_outer ho h p e2.symm e))
/-- The rings so far. -/
def RgOut (lo : Nat) (w : World) (ov : Value) (us : List Value) (R : List (List Int)) : Prop :=
  w.ownsRow lo 22 1 ov R.length us ∧ (∀ j, j < R.length → OwnI lo w (us.getD j nilS) (R.getD j [])) ∧ DistS us R.length
theorem RgOut.below {lo : Nat} {w w' : World} {ov : Value} {us : List Value} {R : List (List Int)} (h : RgOut lo w ov us R) (hb : Below w.heap.size w w') : RgOut lo w' ov us R := ⟨row_below h.1 hb, fun j hj => (h.2.1 j hj).below hb, h.2.2⟩
theorem RgOut.hole {lo B : Nat} {w w' : World} {ov : Value} {us : List Value} {R : List (List Int)} {cs : Array Value} (h : RgOut lo w ov us R) (hb : BlkA w B 4 cs) (K : Hole B w w') : RgOut lo w' ov us R :=
  ⟨row_hole h.1 hb (by decide) K, fun j hj => row_hole (h.2.1 j hj) hb (by decide) K, h.2.2⟩
theorem RgOut.add {lo : Nat} {w w' : World} {ov rv v' : Value} {us : List Value} {R : List (List Int)} {r : List Int} (h : RgOut lo w ov us R) (hr : OwnI lo w rv r) (hd : ∀ j, j < R.length → ∀ p q, (us.getD j nilS).ownBlock = some p → rv.ownBlock = some q → p ≠ q)
    (ho : w'.ownsRow lo 22 1 v' (R.length + 1) (us ++ [rv])) (hg : w.grownBy w' ov.ownBlock) : RgOut lo w' v' (us ++ [rv]) (R ++ [r]) := by
  have hul : us.length = R.length := by have := h.1.1; simpa using this
  refine ⟨by rw [List.length_append]; exact ho, fun j hj => ?_, fun i j hij hj p q hp hq => ?_⟩
  · by_cases e : j < R.length
    · rw [getS_app _ _ _ (by omega), show (R ++ [r]).getD j [] = R.getD j [] by simp [List.getD, List.getElem?_append_left e]]
      exact row_keptS (h.2.1 j e) h.1 hg
    · have : j = R.length := by rw [List.length_append] at hj; simp at hj; omega
      subst this
      rw [show (us ++ [rv]).getD R.length nilS = rv by rw [← hul]; exact getS_last us rv, show (R ++ [r]).getD R.length [] = r by simp [List.getD]]
      exact row_keptS hr h.1 hg
  · rw [List.length_append] at hj
    simp at hj
    rw [getS_app _ _ _ (by omega)] at hp
    by_cases e : j < R.length
    · rw [getS_app _ _ _ (by omega)] at hq
      exact h.2.2 i j hij e p q hp hq
    · have : j = R.length := by omega
      subst this
      rw [show (us ++ [rv]).getD R.length nilS = rv by rw [← hul]; exact getS_last us rv] at hq
      exact hd i hij p q hp hq
theorem RgOut.own {lo : Nat} {w : World} {ov : Value} {us : List Value} {R : List (List Int)} (h : RgOut lo w ov us R) : OwnMD lo w.heap.size w ov R :=
  ⟨us, h.1, h.2.1, fun p hp => (h.1.lt p hp).2, fun j hj p hp => ((h.2.1 j hj).block p hp).2, h.2.2⟩
theorem RgOut.nil (lo : Nat) (w : World) : RgOut lo w (.slice none 0 0) [] [] := ⟨World.ownsRow_nil _ _ _ _, fun j hj => absurd hj (by simp), fun i j _ hj => absurd hj (by simp)⟩
theorem RgOut.empty {lo : Nat} {w : World} (h : lo ≤ w.heap.size) : RgOut lo (w.alloc (.cells #[] 22)) (.slice (some ⟨w.heap.size, 0, none⟩) 0 0) [] [] :=
  ⟨⟨by simp, .inr ⟨w.heap.size, _, _, rfl, h, heap_alloc_new w _, Nat.le_refl _, by unfold maxLen; omega, by simp, by simp⟩⟩, fun j hj => absurd hj (by simp), fun i j _ hj => absurd hj (by simp)⟩
theorem ownI_empty {lo : Nat} {w : World} (h : lo ≤ w.heap.size) : OwnI lo (w.alloc (.cells #[] 2)) (.slice (some ⟨w.heap.size, 0, none⟩) 0 0) [] :=
  ⟨by simp, .inr ⟨w.heap.size, _, _, rfl, h, heap_alloc_new w _, Nat.le_refl _, by unfold maxLen; omega, by simp, by simp⟩⟩
theorem own_isS {w : World} {B n k : Nat} {T : TypeId} {v : Value} {xs : List Value} (h : w.ownsRow B T n v k xs) : ∃ a c, v = .slice a k c := by
  rcases h.2 with ⟨rfl, h0⟩ | ⟨g, cap, cur, rfl, _⟩
  · exact ⟨none, 0, by rw [h0]⟩
  · exact ⟨_, _, rfl⟩
theorem ints_snoc (r : List Nat) (a : Nat) : ints (r ++ [a]) = ints r ++ [(a : Int)] := by simp [ints]
theorem ints_len (r : List Nat) : (ints r).length = r.length := by simp [ints]
/-- What the law wants of both. -/
def RetSw (w : World) (R : List (List Int)) (c : Int) (e : Ending) (w' : World) : Prop := ∃ v, e = .returned (.tuple #[v, .int .i64 c]) ∧ OwnMD w.heap.size w'.heap.size w' v R ∧ Below w.heap.size w w'
end Go.Proofs.YtocogipejchneaaDoor
