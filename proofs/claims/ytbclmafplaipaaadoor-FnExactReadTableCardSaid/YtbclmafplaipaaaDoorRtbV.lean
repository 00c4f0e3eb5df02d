/-
  Reading the text of a table: what both sides' walks share.
-/
import Derived.Test.YtbclmafplaipaaaDoorTabM
import Derived.Test.YtbclmafplaipaaaDoorRtbP
import Derived.Test.YtbclmafplaipaaaDoorRdS
import Derived.Maps.AppendAt
namespace Go.Proofs.YtbclmafplaipaaaDoor
open Go Go.RowKit
set_option linter.unusedVariables false

theorem spl_lenT {b : UInt8} : ∀ {l : List UInt8} {w : List UInt8}, w ∈ spl b l → w.length ≤ l.length
  | [], w, h => by simp [spl] at h; simp [h]
  | c :: r, w, h => by
    by_cases e : c = b
    · subst e
      rw [spl_cons_eq] at h
      rcases List.mem_cons.1 h with rfl | h
      · simp
      · have := spl_lenT h; simp only [List.length_cons]; omega
    · rw [spl_cons_ne e] at h
      obtain ⟨x, xs, hx⟩ : ∃ x xs, spl b r = x :: xs := by
        cases h : spl b r with
        | nil => exact absurd h (spl_ne b r)
        | cons x xs => exact ⟨x, xs, rfl⟩
      rw [hx] at h
      rcases List.mem_cons.1 h with rfl | h
      · have := spl_lenT (b := b) (l := r) (w := x) (by rw [hx]; simp)
        simp only [List.headD_cons, List.length_cons]; omega
      · have := spl_lenT (b := b) (l := r) (w := w) (by rw [hx]; exact List.mem_cons_of_mem _ h)
        simp only [List.length_cons]; omega
theorem spl_shortT {b : UInt8} {l x : List UInt8} {r : List (List UInt8)} (h : spl b l = x :: r) (hx : x ≠ []) : (spl b l).length ≤ l.length := by
  have hj := spl_join b l
  rw [h] at hj ⊢
  have h1 := Lib.join_length x r [b]
  rw [hj] at h1
  have h2 : 0 < x.length := Nat.pos_of_ne_zero (fun e => hx (List.eq_nil_of_length_eq_zero e))
  have h3 : Lib.lens (x :: r) = x.length + Lib.lens r := by simp [Lib.lens]
  simp only [List.length_cons, List.length_nil] at h1 ⊢
  omega
theorem mapO_lenT {α : Type} {f : List UInt8 → Option α} : ∀ {ws : List (List UInt8)} {L : List α}, mapO f ws = some L → L.length = ws.length
  | [], L, e => by cases e; rfl
  | w :: ws, L, e => by
    unfold mapO at e
    split at e
    · cases e
    · split at e
      · cases e
      · rename_i a ha L' hL
        cases e
        rw [List.length_cons, List.length_cons, mapO_lenT hL]
theorem mapO_snocT {α : Type} {f : List UInt8 → Option α} {x : List UInt8} : ∀ {ws : List (List UInt8)} {L : List α}, mapO f ws = some L → mapO f (ws ++ [x]) = (f x).map (fun a => L ++ [a])
  | [], L, e => by
    cases e
    show mapO f [x] = _
    unfold mapO
    cases f x with
    | none => rfl
    | some a => rfl
  | w :: ws, L, e => by
    unfold mapO at e
    rw [List.cons_append, mapO]
    cases hw : f w with
    | none => rw [hw] at e; cases e
    | some a =>
      rw [hw] at e
      simp only at e ⊢
      cases hs : mapO f ws with
      | none => rw [hs] at e; cases e
      | some L' =>
        rw [hs] at e
        cases e
        rw [mapO_snocT hs]
        cases f x <;> rfl
theorem mapO_stopT {α : Type} {f : List UInt8 → Option α} {x : List UInt8} (h : f x = none) : ∀ {ws : List (List UInt8)}, x ∈ ws → mapO f ws = none
  | w :: ws, hx => by
    unfold mapO
    rcases List.mem_cons.1 hx with rfl | hx
    · rw [h]
    · rw [mapO_stopT h hx]
      cases f w <;> rfl
theorem row_typesT {T U : TypeId} (hT : T ≠ U) {lo lo' a b n n' : Nat} {w : World} {v u : Value} {xs ys : List Value} (h : w.ownsRow lo T a v n xs) (k : w.ownsRow lo' U b u n' ys) : ∀ p, v.ownBlock = some p → u.ownBlock = some p → False := by
  intro p hp hu
  rcases h.2 with ⟨rfl, _⟩ | ⟨g, cap, cur, rfl, _, hg, _⟩
  · simp [Value.ownBlock] at hp
  · rcases k.2 with ⟨rfl, _⟩ | ⟨g', cap', cur', rfl, _, hg', _⟩
    · simp [Value.ownBlock] at hu
    · simp [Value.ownBlock] at hp hu
      subst hp
      subst hu
      rw [hg] at hg'
      injection hg' with e
      injection e with _ e2 _
      exact hT e2
theorem ownW_someT {w : World} {B n : Nat} {a : Option Addr} {c : Nat} {ws : List (List UInt8)} (h : OwnW B w (.slice a n c) ws) (hn : 0 < n) : ∃ g, a = some ⟨g, 0, none⟩ ∧ ws.length = n ∧ g < w.heap.size ∧ ∀ j, j < n → w.cell? ⟨g, j, none⟩ = some (vS (ws.getD j [])) := by
  obtain ⟨a', c', e⟩ := own_is h
  injection e with e1 e2 e3
  rcases h.2 with ⟨e', _⟩ | ⟨g, cap, cur, e', _⟩
  · injection e' with _ e' _; omega
  · injection e' with e4 e5 e6
    subst e4
    refine ⟨g, rfl, e2.symm, (World.ownsRow.lt h g rfl).2, fun j hj => ?_⟩
    have h' : w.ownsRow B 9 1 (.slice (some ⟨g, 0, none⟩) n c) n (ws.map vS) := by have := h; unfold OwnW at this; rw [← e2] at this; exact this
    exact OwnW.cell h' j hj


theorem lineM_len {l : List UInt8} {r : List Int} (h : lineM l = some r) : r.length ≤ l.length := by
  unfold lineM at h
  have h1 := mapO_lenT h
  cases hw : spl 32 l with
  | nil => exact absurd hw (spl_ne 32 l)
  | cons x ws =>
    rw [hw] at h
    have hx : x ≠ [] := by
      rintro rfl
      unfold mapO at h
      rw [show numM [] = none from rfl] at h
      cases h
    have := spl_shortT hw hx
    omega
theorem lineI_len {l : List UInt8} {r : List Int} (h : lineI l = some r) : r.length ≤ l.length := by
  unfold lineI at h
  have h1 := mapO_lenT h
  cases hw : spl 32 l with
  | nil => exact absurd hw (spl_ne 32 l)
  | cons x ws =>
    rw [hw] at h
    have hx : x ≠ [] := by
      rintro rfl
      unfold mapO at h
      rw [show numI [] = none from by decide +kernel] at h
      cases h
    have := spl_shortT hw hx
    omega
theorem one_i16 (d : Int) : ∀ u ∈ [Value.int .i16 d], u.oneCell' = true := fun u hu => by simp at hu; subst hu; rfl
/-- Numbers of 16 bits. -/
def Fit16 (r : List Int) : Prop := ∀ x ∈ r, -32768 ≤ x ∧ x ≤ 32767

/-! ### Rows of rows that grow -/

def DistT (us : List Value) (k : Nat) : Prop := ∀ i j, i < j → j < k → ∀ p q, (us.getD i nilS).ownBlock = some p → (us.getD j nilS).ownBlock = some q → p ≠ q
theorem getT_app (us : List Value) (u : Value) (j : Nat) (h : j < us.length) : (us ++ [u]).getD j nilS = us.getD j nilS := by simp [List.getD, List.getElem?_append_left h]
theorem getT_last (us : List Value) (u : Value) : (us ++ [u]).getD us.length nilS = u := by simp [List.getD]
theorem row_keptT {lo lo' : Nat} {w w' : World} {v : Value} {xs : List Int} {o : Value} {n : Nat} {us : List Value} (h : OwnH lo w v xs) (ho : w.ownsRow lo' 33 1 o n us) (g : w.grownBy w' o.ownBlock) : OwnH lo w' v xs :=
  h.kept g (by
    cases e : v.ownBlock with
    | none => exact .inl rfl
    | some p => exact .inr (fun e2 => row_ne_outer ho h p e2.symm e))
theorem row_other {lo n : Nat} {w : World} {T : TypeId} {v : Value} {us : List Value} (h : w.ownsRow lo T 1 v n us) (p : Addr) (u : Value) (hp : p.block < lo) : (w.setCell p u).ownsRow lo T 1 v n us := by
  refine ⟨h.1, ?_⟩
  rcases h.2 with hn | ⟨g, cap, cur, rfl, hB, hg, rest⟩
  · exact .inl hn
  · exact .inr ⟨g, cap, cur, rfl, hB, by rw [heap_setCell_other w p g u (by omega)]; exact hg, rest⟩

/-- A table under way: its box at B6, the result's at B2; L are the lines read. -/
structure TabAt (T : TypeId) (w : World) (B2 B6 k : Nat) (L : List (List Int)) (u1 u2 : Value) (us : List Value) (mid : Nat) : Prop where
  b2 : Blk2 w B2 T nilS nilS
  b6 : Blk2 w B6 T u1 u2
  lt : B2 < B6
  s : OwnH (B6 + 1) w u1 (L.headD [])
  sm : ∀ p, u1.ownBlock = some p → p < mid
  m1 : B6 + 1 ≤ mid
  m2 : mid ≤ w.heap.size
  o : w.ownsRow mid 33 1 u2 (k - 1) us
  r : ∀ j, j < k - 1 → OwnH mid w (us.getD j nilS) (L.tail.getD j [])
  d : DistT us (k - 1)
  z : k = 0 → u1 = nilS ∧ u2 = nilS
theorem TabAt.start {T : TypeId} {w : World} {B2 B6 : Nat} (h2 : Blk2 w B2 T nilS nilS) (h6 : Blk2 w B6 T nilS nilS) (hl : B2 < B6) : TabAt T w B2 B6 0 [] nilS nilS [] w.heap.size :=
  ⟨h2, h6, hl, World.ownsRow_nil _ _ _ _, fun p hp => (by simp [Value.ownBlock] at hp), h6.lt, Nat.le_refl _, World.ownsRow_nil _ _ _ _, fun j hj => absurd hj (by omega), fun i j _ hj => absurd hj (by omega), fun _ => ⟨rfl, rfl⟩⟩
theorem TabAt.below {T : TypeId} {w w' : World} {B2 B6 k : Nat} {L : List (List Int)} {u1 u2 : Value} {us : List Value} {mid : Nat} (h : TabAt T w B2 B6 k L u1 u2 us mid) (hb : Below w.heap.size w w') : TabAt T w' B2 B6 k L u1 u2 us mid :=
  ⟨h.b2.below hb, h.b6.below hb, h.lt, h.s.below hb, h.sm, h.m1, Nat.le_trans h.m2 hb.size, row_below h.o hb, fun j hj => (h.r j hj).below hb, h.d, h.z⟩
theorem TabAt.first {T : TypeId} {w : World} {B2 B6 mid M : Nat} {us : List Value} {u1 u2 v : Value} {r : List Int} (h : TabAt T w B2 B6 0 [] u1 u2 us mid) (hv : OwnH M w v r) (hM : B6 < M) : TabAt T (w.setCell ⟨B6, 0, none⟩ v) B2 B6 1 [r] v u2 [] w.heap.size := by
  obtain ⟨_, e2⟩ := h.z rfl
  subst e2
  refine ⟨h.b2.other _ _ (by have := h.lt; show B2 ≠ B6; omega), h.b6.set0 v, h.lt, (hv.other _ v (by show B6 < M; exact hM)).mono hM, fun p hp => (hv.block p hp).2, h.b6.lt, by simp, World.ownsRow_nil _ _ _ _, fun j hj => absurd hj (by omega), fun i j _ hj => absurd hj (by omega), fun e => by omega⟩
theorem TabAt.more {T : TypeId} {w wc w9 : World} {B2 B6 k mid : Nat} {L : List (List Int)} {u1 u2 v v' : Value} {us : List Value} {r : List Int} (hT : T ≠ 33) (h : TabAt T w B2 B6 k L u1 u2 us mid) (hk : 1 ≤ k) (hL : L.length = k) (hb : Below w.heap.size w wc) (hv : OwnH w.heap.size wc v r)
    (ho : w9.ownsRow mid 33 1 v' k (us ++ [v])) (g : (wc.alloc (.cells #[v] 33)).grownBy w9 u2.ownBlock) : TabAt T (w9.setCell ⟨B6, 1, none⟩ v') B2 B6 (k + 1) (L ++ [r]) u1 v' (us ++ [v]) mid := by
  have ha : Below w.heap.size w (wc.alloc (.cells #[v] 33)) := hb.alloc hb.size _
  have hA := h.below ha
  have hlen : us.length = k - 1 := by simpa using h.o.1
  have hvA : OwnH w.heap.size (wc.alloc (.cells #[v] 33)) v r := hv.below ((Below.refl _ _).alloc (Nat.le_refl _) _)
  have keepB : ∀ B x y, B < mid → Blk2 (wc.alloc (.cells #[v] 33)) B T x y → Blk2 w9 B T x y := fun B x y hB hx => by
    unfold Blk2 at hx ⊢
    rw [g.block B (Array.getElem?_eq_some_iff.1 hx).1 (fun e => by have := (hA.o.lt B e.symm).1; omega)]
    exact hx
  have hm1 := h.m1
  have hlt := h.lt
  have s9 := row_keptT hA.s hA.o g
  refine ⟨(keepB B2 _ _ (by omega) hA.b2).other _ _ (by show B2 ≠ B6; omega), (keepB B6 _ _ (by omega) hA.b6).set1 v', h.lt, ?_, h.sm, h.m1, ?_, ?_, ?_, ?_, fun e => by omega⟩
  · have e : (L ++ [r]).headD [] = L.headD [] := by
      cases L with
      | nil => simp at hL; omega
      | cons x xs => rfl
    rw [e]
    exact s9.other _ v' (by show B6 < B6 + 1; omega)
  · have := g.size; have := hA.m2; simp; omega
  · rw [Nat.add_sub_cancel]
    exact row_other ho _ _ (by show B6 < mid; omega)
  · intro j hj
    rw [Nat.add_sub_cancel] at hj
    have e : (L ++ [r]).tail = L.tail ++ [r] := by
      cases L with
      | nil => simp at hL; omega
      | cons x xs => rfl
    have hlt' : L.tail.length = k - 1 := by rw [List.length_tail]; omega
    rw [e]
    by_cases ej : j = k - 1
    · subst ej
      rw [show (us ++ [v]).getD (k - 1) nilS = v by rw [← hlen, getT_last], show (L.tail ++ [r]).getD (k - 1) [] = r by rw [← hlt']; simp [List.getD]]
      exact ((row_keptT hvA hA.o g).mono h.m2).other _ v' (by show B6 < mid; omega)
    · rw [getT_app _ _ _ (by omega), show (L.tail ++ [r]).getD j [] = L.tail.getD j [] by simp [List.getD, List.getElem?_append_left (show j < L.tail.length by omega)]]
      exact (row_keptT (hA.r j (by omega)) hA.o g).other _ v' (by show B6 < mid; omega)
  · intro i j hij hj p q hp hq
    rw [Nat.add_sub_cancel] at hj
    rw [getT_app _ _ _ (by omega)] at hp
    by_cases ej : j = k - 1
    · subst ej
      rw [show (us ++ [v]).getD (k - 1) nilS = v by rw [← hlen, getT_last]] at hq
      have h1 := (hv.block q hq).1
      have h2 := ((h.r i (by omega)).block p hp).2
      omega
    · rw [getT_app _ _ _ (by omega)] at hq
      exact h.d i j hij (by omega) p q hp hq
theorem TabAt.own {T : TypeId} {w : World} {B2 B6 k mid lo : Nat} {S : List Int} {R : List (List Int)} {u1 u2 : Value} {us : List Value} (h : TabAt T w B2 B6 k (S :: R) u1 u2 us mid) (hk : R.length + 1 = k) (hlo : lo ≤ B6) : OwnTD lo w.heap.size w (.agg #[u1, u2]) S R := by
  subst hk
  have h1 := h.m1
  have ho := h.o
  have hr := h.r
  have hd := h.d
  rw [Nat.add_sub_cancel] at ho hr hd
  exact ⟨u1, u2, mid, rfl, h.s.mono (by omega), h.sm, ⟨us, ho, hr, fun p hp => (ho.lt p hp).2, fun j hj p hp => ((hr j hj).block p hp).2, hd⟩, by omega, h.m2⟩
theorem ownT_nil (w : World) (lo hi : Nat) (h : lo ≤ hi) : OwnTD lo hi w (.agg #[nilS, nilS]) [] [] :=
  ⟨nilS, nilS, lo, rfl, World.ownsRow_nil _ _ _ _, fun p hp => (by simp [Value.ownBlock] at hp), ⟨[], World.ownsRow_nil _ _ _ _, fun j hj => absurd hj (by simp), fun p hp => (by simp [Value.ownBlock] at hp), fun j hj => absurd hj (by simp), fun i j _ hj => absurd hj (by simp)⟩, Nat.le_refl _, h⟩
def RetRt (w : World) (S : List Int) (R : List (List Int)) (c : Int) (e : Ending) (w' : World) : Prop := ∃ v, e = .returned (.tuple #[v, .int .i64 c]) ∧ OwnTD w.heap.size w'.heap.size w' v S R ∧ Below w.heap.size w w'
/-- A line read: a row of the call's own, and whether all words were read. -/
def RetLn (w : World) (lr : Option (List Int)) (e : Ending) (w' : World) : Prop := ∃ a n c b r, e = .returned (.tuple #[.slice a n c, .bool b]) ∧ OwnH w.heap.size w' (.slice a n c) r ∧ ((b = true ∧ lr = some r ∧ Fit16 r) ∨ (b = false ∧ lr = none)) ∧ Below w.heap.size w w'
end Go.Proofs.YtbclmafplaipaaaDoor
