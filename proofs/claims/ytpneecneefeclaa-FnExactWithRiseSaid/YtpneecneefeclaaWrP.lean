/-
  A table with higher prices: plain; a table of the call's own under way.
-/
import Derived.Test.YtpneecneefeclaaTabM
import Derived.Test.YtpneecneefeclaaTtP
import Derived.Test.YtpneecneefeclaaChkB
import Derived.Maps.AppendAt
namespace Go.Proofs.Ytpneecneefeclaa
open Go Go.RowKit
set_option linter.unusedVariables false

def riseN (p x : Int) : Int := (x * (100 + p) + 99) / 100
def riseR (p : Int) (r : List Int) : List Int := r.map (riseN p)
def allOk (R : List (List Int)) (p : Int) : Prop := ∀ k, k < R.length → ∀ i, i < (R.getD k []).length → riseN p ((R.getD k []).getD i 0) ≤ 10000
instance (R : List (List Int)) (p : Int) : Decidable (allOk R p) := inferInstanceAs (Decidable (∀ k, k < _ → ∀ i, i < _ → _))
def wrC (S : List Int) (R : List (List Int)) (p : Int) : Int := if vldT S R = false then 1 else if ¬ (0 ≤ p ∧ p ≤ 100) then 2 else if allOk R p then 0 else 3
def wrS (S : List Int) (R : List (List Int)) (p : Int) : List Int := if wrC S R p = 0 then S else []
def wrR (S : List Int) (R : List (List Int)) (p : Int) : List (List Int) := if wrC S R p = 0 then R.map (riseR p) else []
theorem wr_no {S : List Int} {R : List (List Int)} {p c : Int} (h : wrC S R p = c) (hc : c ≠ 0) : wrS S R p = [] ∧ wrR S R p = [] := by
  unfold wrS wrR
  rw [h, if_neg hc, if_neg hc]
  exact ⟨rfl, rfl⟩
theorem wr_yes {S : List Int} {R : List (List Int)} {p : Int} (h : wrC S R p = 0) : wrS S R p = S ∧ wrR S R p = R.map (riseR p) := by
  unfold wrS wrR
  rw [if_pos h, if_pos h]
  exact ⟨rfl, rfl⟩
theorem wrC_1 {S : List Int} {R : List (List Int)} (p : Int) (h : vldT S R = false) : wrC S R p = 1 := if_pos h
theorem wrC_2 {S : List Int} {R : List (List Int)} {p : Int} (h : vldT S R = true) (h2 : ¬ (0 ≤ p ∧ p ≤ 100)) : wrC S R p = 2 := by unfold wrC; rw [if_neg (by rw [h]; simp), if_pos h2]
theorem wrC_3 {S : List Int} {R : List (List Int)} {p : Int} (h : vldT S R = true) (h2 : 0 ≤ p ∧ p ≤ 100) (h3 : ¬ allOk R p) : wrC S R p = 3 := by unfold wrC; rw [if_neg (by rw [h]; simp), if_neg (by simp [h2]), if_neg h3]
theorem wrC_0 {S : List Int} {R : List (List Int)} {p : Int} (h : vldT S R = true) (h2 : 0 ≤ p ∧ p ≤ 100) (h3 : allOk R p) : wrC S R p = 0 := by unfold wrC; rw [if_neg (by rw [h]; simp), if_neg (by simp [h2]), if_pos h3]
theorem rise_bd {p x : Int} (hp : 0 ≤ p ∧ p ≤ 100) (hx : 0 ≤ x ∧ x ≤ 10000) : 0 ≤ x * (100 + p) ∧ x * (100 + p) ≤ 2000000 := by
  refine ⟨Int.mul_nonneg hx.1 (by omega), ?_⟩
  have h1 : x * (100 + p) ≤ 10000 * (100 + p) := Int.mul_le_mul_of_nonneg_right hx.2 (by omega)
  omega
theorem riseR_len (p : Int) (r : List Int) : (riseR p r).length = r.length := by simp [riseR]
theorem riseR_snoc (p : Int) (r : List Int) (j : Nat) (h : j < r.length) : riseR p (r.take (j + 1)) = riseR p (r.take j) ++ [riseN p (r.getD j 0)] := by
  unfold riseR
  rw [List.take_succ_eq_append_getElem h, List.map_append]
  simp [List.getD, h]
theorem wr_bd (S : List Int) (R : List (List Int)) (p : Int) : (wrS S R p).length ≤ 10 ∧ (wrR S R p).length ≤ 6 ∧ tot (wrR S R p) ≤ 60 ∧ ∀ j, j < (wrR S R p).length → ((wrR S R p).getD j []).length ≤ 10 := by
  by_cases h : wrC S R p = 0
  · obtain ⟨e1, e2⟩ := wr_yes h
    rw [e1, e2]
    have hv : vldT S R = true := by
      cases hv : vldT S R with
      | true => rfl
      | false => rw [wrC_1 p hv] at h; cases h
    have h6 := (vldT_spec hv).2.2.1
    have hr : ∀ j, j < R.length → (R.getD j []).length ≤ 10 := fun j hj => (vldT_okR hv hj).2.1
    have ht : ∀ Q : List (List Int), (∀ r ∈ Q, r.length ≤ 10) → tot Q ≤ 10 * Q.length := fun Q => by
      induction Q with
      | nil => intro _; simp [tot]
      | cons r Q ih =>
        intro hq
        have h1 := ih (fun x hx => hq x (by simp [hx]))
        have h2 := hq r (by simp)
        unfold tot at h1 ⊢
        simp only [List.map_cons, List.sum_cons, List.length_cons]
        omega
    refine ⟨(vldT_okS hv).2.1, by simpa using h6, ?_, fun j hj => ?_⟩
    · have := ht (R.map (riseR p)) (fun r hr' => by
        obtain ⟨x, hx, rfl⟩ := List.mem_map.1 hr'
        obtain ⟨i, hi, rfl⟩ := List.getElem_of_mem hx
        have := hr i hi
        rw [riseR_len]
        simpa [List.getD, hi] using this)
      rw [List.length_map] at this
      omega
    · have hj' : j < R.length := by simpa using hj
      have := hr j hj'
      simp [List.getD, hj', riseR_len] at this ⊢
      exact this
  · obtain ⟨e1, e2⟩ := wr_no rfl h
    rw [e1, e2]
    simp [tot]

/-! ### Rows of rows that grow -/

theorem one_i16 (d : Int) : ∀ u ∈ [Value.int .i16 d], u.oneCell' = true := fun u hu => by simp at hu; subst hu; rfl
theorem own_is {w : World} {B n k : Nat} {T : TypeId} {v : Value} {xs : List Value} (h : w.ownsRow B T n v k xs) : ∃ a c, v = .slice a k c := by
  rcases h.2 with ⟨rfl, h0⟩ | ⟨g, cap, cur, rfl, _⟩
  · exact ⟨none, 0, by rw [h0]⟩
  · exact ⟨_, _, rfl⟩
def DistT (us : List Value) (k : Nat) : Prop := ∀ i j, i < j → j < k → ∀ p q, (us.getD i nilS).ownBlock = some p → (us.getD j nilS).ownBlock = some q → p ≠ q
theorem getT_app (us : List Value) (u : Value) (j : Nat) (h : j < us.length) : (us ++ [u]).getD j nilS = us.getD j nilS := by simp [List.getD, List.getElem?_append_left h]
theorem getT_last (us : List Value) (u : Value) : (us ++ [u]).getD us.length nilS = u := by simp [List.getD]
theorem row_keptT {lo lo' : Nat} {w w' : World} {v : Value} {xs : List Int} {o : Value} {n : Nat} {us : List Value} (h : OwnH lo w v xs) (ho : w.ownsRow lo' 22 1 o n us) (g : w.grownBy w' o.ownBlock) : OwnH lo w' v xs :=
  h.kept g (by
    cases e : v.ownBlock with
    | none => exact .inl rfl
    | some p => exact .inr (fun e2 => row_ne_outer ho h p e2.symm e))
theorem row_other {lo n : Nat} {w : World} {T : TypeId} {v : Value} {us : List Value} (h : w.ownsRow lo T 1 v n us) (p : Addr) (u : Value) (hp : p.block < lo) : (w.setCell p u).ownsRow lo T 1 v n us := by
  refine ⟨h.1, ?_⟩
  rcases h.2 with hn | ⟨g, cap, cur, rfl, hB, hg, rest⟩
  · exact .inl hn
  · exact .inr ⟨g, cap, cur, rfl, hB, by rw [heap_setCell_other w p g u (by omega)]; exact hg, rest⟩
theorem blk_grown {w w9 : World} {B : Nat} {T : TypeId} {x y : Value} {row : Option Nat} (h : Blk2 w B T x y) (g : w.grownBy w9 row) (hne : ∀ q, row = some q → q ≠ B) : Blk2 w9 B T x y :=
  (g.block B h.lt (fun e => hne B e.symm rfl)).trans h
theorem koutSet (w : World) (p : Addr) (u : Value) : KeepsOut p.block (p.block + 1) w (w.setCell p u) := by
  have h : Below p.block w (w.setCell p u) := (Below.refl _ _).setCell (Nat.le_refl _) _
  exact ⟨h.os, h.tape, h.output, h.size, fun k hk hd => heap_setCell_other w p k u (by omega)⟩

/-- A table under way: its box at B6, the result's at B2; the steps are laid, k rows of Q. -/
structure TabW (T : TypeId) (w : World) (B2 B6 k : Nat) (S : List Int) (Q : List (List Int)) (u1 u2 : Value) (us : List Value) : Prop where
  b2 : Blk2 w B2 T nilS nilS
  b6 : Blk2 w B6 T u1 u2
  lt : B2 < B6
  s : OwnH (B2 + 1) w u1 S
  sm : ∀ p, u1.ownBlock = some p → p < B6
  o : w.ownsRow (B6 + 1) 22 1 u2 k us
  r : ∀ j, j < k → OwnH (B6 + 1) w (us.getD j nilS) (Q.getD j [])
  d : DistT us k
theorem TabW.below {T : TypeId} {w w' : World} {B2 B6 k : Nat} {S : List Int} {Q : List (List Int)} {u1 u2 : Value} {us : List Value} (h : TabW T w B2 B6 k S Q u1 u2 us) (hb : Below w.heap.size w w') : TabW T w' B2 B6 k S Q u1 u2 us :=
  ⟨h.b2.below hb, h.b6.below hb, h.lt, h.s.below hb, h.sm, row_below h.o hb, fun j hj => (h.r j hj).below hb, h.d⟩
theorem TabW.more {T : TypeId} {w wc w9 : World} {B2 B6 k : Nat} {S : List Int} {Q : List (List Int)} {u1 u2 v v' : Value} {us : List Value} {r : List Int} (h : TabW T w B2 B6 k S Q u1 u2 us) (hb : Below w.heap.size w wc) (hv : OwnH w.heap.size wc v r) (hq : Q.getD k [] = r)
    (ho : w9.ownsRow (B6 + 1) 22 1 v' (k + 1) (us ++ [v])) (g : (wc.alloc (.cells #[v] 22)).grownBy w9 u2.ownBlock) : TabW T (w9.setCell ⟨B6, 1, none⟩ v') B2 B6 (k + 1) S Q u1 v' (us ++ [v]) := by
  have ha : Below w.heap.size w (wc.alloc (.cells #[v] 22)) := hb.alloc hb.size _
  have hA := h.below ha
  have hlen : us.length = k := by simpa using h.o.1
  have hvA : OwnH w.heap.size (wc.alloc (.cells #[v] 22)) v r := hv.below ((Below.refl _ _).alloc (Nat.le_refl _) _)
  have hlt := h.lt
  have h6 := h.b6.lt
  have keepB : ∀ B x y, B ≤ B6 → Blk2 (wc.alloc (.cells #[v] 22)) B T x y → Blk2 w9 B T x y := fun B x y hB hx => blk_grown hx g (fun q e => by have := (hA.o.lt q e).1; omega)
  refine ⟨(keepB B2 _ _ (by omega) hA.b2).other _ _ (by show B2 ≠ B6; omega), (keepB B6 _ _ (by omega) hA.b6).set1 v', h.lt, ?_, h.sm, row_other ho _ _ (by show B6 < B6 + 1; omega), ?_, ?_⟩
  · exact (row_keptT hA.s hA.o g).out (koutSet w9 ⟨B6, 1, none⟩ v') (fun p hp => .inl (h.sm p hp))
  · intro j hj
    by_cases ej : j = k
    · subst ej
      rw [show (us ++ [v]).getD j nilS = v by rw [← hlen, getT_last], hq]
      exact ((row_keptT hvA hA.o g).mono (by omega)).other _ v' (by show B6 < B6 + 1; omega)
    · rw [getT_app _ _ _ (by omega)]
      exact (row_keptT (hA.r j (by omega)) hA.o g).other _ v' (by show B6 < B6 + 1; omega)
  · intro i j hij hj p q hp hq'
    rw [getT_app _ _ _ (by omega)] at hp
    by_cases ej : j = k
    · subst ej
      rw [show (us ++ [v]).getD j nilS = v by rw [← hlen, getT_last]] at hq'
      have h1 := (hv.block q hq').1
      have h2 := ((h.r i (by omega)).block p hp).2
      omega
    · rw [getT_app _ _ _ (by omega)] at hq'
      exact h.d i j hij (by omega) p q hp hq'
theorem TabW.own {T : TypeId} {w : World} {B2 B6 k : Nat} {S : List Int} {Q : List (List Int)} {u1 u2 : Value} {us : List Value} (h : TabW T w B2 B6 k S Q u1 u2 us) (hk : Q.length = k) : OwnTD (B2 + 1) w.heap.size w (.agg #[u1, u2]) S Q := by
  subst hk
  have h1 := h.lt
  have h2 := h.b6.lt
  exact ⟨u1, u2, B6 + 1, rfl, h.s, fun p hp => by have := h.sm p hp; omega, ⟨us, h.o, h.r, fun p hp => (h.o.lt p hp).2, fun j hj p hp => ((h.r j hj).block p hp).2, h.d⟩, by omega, h2⟩
theorem ownT_nil (w : World) (lo hi : Nat) (h : lo ≤ hi) : OwnTD lo hi w (.agg #[nilS, nilS]) [] [] :=
  ⟨nilS, nilS, lo, rfl, World.ownsRow_nil _ _ _ _, fun p hp => (by simp [Value.ownBlock] at hp), ⟨[], World.ownsRow_nil _ _ _ _, fun j hj => absurd hj (by simp), fun p hp => (by simp [Value.ownBlock] at hp), fun j hj => absurd hj (by simp), fun i j _ hj => absurd hj (by simp)⟩, Nat.le_refl _, h⟩
def RetRt (w : World) (S : List Int) (R : List (List Int)) (c : Int) (e : Ending) (w' : World) : Prop := ∃ v, e = .returned (.tuple #[v, .int .i64 c]) ∧ OwnTD w.heap.size w'.heap.size w' v S R ∧ Below w.heap.size w w'
end Go.Proofs.Ytpneecneefeclaa
