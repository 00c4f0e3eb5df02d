/-
  The model's payment chooses the least voucher each time: plain.
-/
import Derived.Test.YtgimpmdiilmkoaaDoorPvL
namespace Go.Proofs.YtgimpmdiilmkoaaDoor
open Go Go.RowKit
set_option linter.unusedVariables false

theorem payK_unt (ps : List (Int × Int)) (day due : Int) (ms : List Nat) (k i : Nat) : (vAt (payK ps day due ms k).1 i).2 = (vAt ps i).2 := by
  induction k with
  | zero => rfl
  | succ k ih =>
    rw [payK, stepP]
    split
    · exact ih
    · show (((payK ps day due ms k).1.set (ms.getD k 0) ((vAt ps (ms.getD k 0)).1 - mnI (payK ps day due ms k).2 (vAt ps (ms.getD k 0)).1, (vAt ps (ms.getD k 0)).2)).getD i (0, 0)).2 = _
      generalize ms.getD k 0 = c at ih ⊢
      by_cases e : c = i
      · subst e
        by_cases h : c < (payK ps day due ms k).1.length
        · rw [List.getD, List.getElem?_set_self h]; rfl
        · rw [List.set_eq_of_length_le (by omega)]; exact ih
      · rw [List.getD, List.getElem?_set_ne e]; exact ih
theorem payK_idle2 {ps : List (Int × Int)} {day due : Int} {t u : Nat} (h : ∀ j, t ≤ j → j < u → (vAt ps ((srtU ps).getD j 0)).2 < day) (htu : t ≤ u) : payK ps day due (srtU ps) u = payK ps day due (srtU ps) t := by
  induction u with
  | zero => rw [show t = 0 by omega]
  | succ u ih =>
    by_cases e : t = u + 1
    · rw [e]
    · rw [payK, ih (fun j hj hu => h j hj (by omega)) (by omega), stepP, if_pos (h u (by omega) (by omega))]
/-- An index that can still pay. -/
def okU (ps : List (Int × Int)) (day : Int) (us : List Bool) (i : Nat) : Prop := us.getD i false = false ∧ day ≤ unt ps i
def BestU (ps : List (Int × Int)) (day : Int) (us : List Bool) (i : Nat) (bs : Int) : Prop :=
  (bs = -1 ∧ ∀ j, j < i → ¬ okU ps day us j) ∨ ∃ b : Nat, bs = (b : Int) ∧ b < i ∧ okU ps day us b ∧ ∀ j, j < i → j ≠ b → okU ps day us j → LU ps b j
theorem BestU.start (ps : List (Int × Int)) (day : Int) (us : List Bool) : BestU ps day us 0 (-1) := .inl ⟨rfl, fun j hj => absurd hj (by omega)⟩
theorem BestU.skip {ps : List (Int × Int)} {day : Int} {us : List Bool} {i : Nat} {bs : Int} (h : BestU ps day us i bs) (hn : ¬ okU ps day us i) : BestU ps day us (i + 1) bs := by
  rcases h with ⟨e, h⟩ | ⟨b, e, hb, ho, h⟩
  · exact .inl ⟨e, fun j hj => by
      by_cases e : j = i
      · subst e; exact hn
      · exact h j (by omega)⟩
  · refine .inr ⟨b, e, by omega, ho, fun j hj hne hk => ?_⟩
    by_cases e : j = i
    · subst e; exact absurd hk hn
    · exact h j (by omega) hne hk
theorem BestU.first {ps : List (Int × Int)} {day : Int} {us : List Bool} {i : Nat} (h : BestU ps day us i (-1)) (hk : okU ps day us i) : BestU ps day us (i + 1) (i : Int) := by
  rcases h with ⟨_, h⟩ | ⟨b, e, _⟩
  · refine .inr ⟨i, rfl, by omega, hk, fun j hj hne hj2 => absurd hj2 (h j (by omega))⟩
  · omega
theorem BestU.less {ps : List (Int × Int)} {day : Int} {us : List Bool} {i b : Nat} (h : BestU ps day us i (b : Int)) (hk : okU ps day us i) (hl : unt ps i < unt ps b) : BestU ps day us (i + 1) (i : Int) := by
  rcases h with ⟨e, _⟩ | ⟨b', e, hb, ho, h⟩
  · omega
  · obtain rfl : b = b' := by omega
    refine .inr ⟨i, rfl, by omega, hk, fun j hj hne hj2 => ?_⟩
    by_cases e2 : j = b
    · subst e2; exact .inl hl
    · exact LU.trans (.inl hl) (h j (by omega) e2 hj2)
theorem BestU.keep {ps : List (Int × Int)} {day : Int} {us : List Bool} {i b : Nat} (h : BestU ps day us i (b : Int)) (hl : ¬ unt ps i < unt ps b) : BestU ps day us (i + 1) (b : Int) := by
  rcases h with ⟨e, _⟩ | ⟨b', e, hb, ho, h⟩
  · omega
  · obtain rfl : b = b' := by omega
    refine .inr ⟨b, rfl, by omega, ho, fun j hj hne hj2 => ?_⟩
    by_cases e2 : j = i
    · subst e2; exact LU.of_le hl hb
    · exact h j (by omega) hne hj2
theorem BestU.lt {ps : List (Int × Int)} {day : Int} {us : List Bool} {i b : Nat} (h : BestU ps day us i (b : Int)) : b < i := by
  rcases h with ⟨e, _⟩ | ⟨b', e, hb, _⟩ <;> omega
/-- What is used: those that paid among the first t of the row. -/
def UsedU (ps : List (Int × Int)) (day : Int) (us : List Bool) (t : Nat) : Prop := ∀ i, i < ps.length → (us.getD i false = true ↔ ∃ j, j < t ∧ (srtU ps).getD j 0 = i ∧ day ≤ unt ps i)
theorem used_no {ps : List (Int × Int)} {day due : Int} {us : List Bool} {t : Nat} (h : UsedU ps day us t) (ht : t ≤ ps.length) (hb : BestU ps day us ps.length (-1)) : payK ps day due (srtU ps) ps.length = payK ps day due (srtU ps) t := by
  refine payK_idle2 (fun j hj hn => ?_) ht
  have hlt := srtU_lt (ps := ps) hn
  rcases hb with ⟨_, hb⟩ | ⟨b, e, _⟩
  · have h1 := hb _ hlt
    refine Int.not_le.1 fun h2 => h1 ⟨?_, h2⟩
    cases hu : us.getD ((srtU ps).getD j 0) false
    · rfl
    · obtain ⟨j', hj', e, _⟩ := (h _ hlt).1 hu
      have := srtU_inj (by omega) hn e
      omega
  · omega
theorem used_yes {ps : List (Int × Int)} {day due : Int} {us : List Bool} {t b : Nat} (h : UsedU ps day us t) (ht : t ≤ ps.length) (hul : us.length = ps.length) (hb : BestU ps day us ps.length (b : Int)) :
    ∃ u, t ≤ u ∧ u < ps.length ∧ payK ps day due (srtU ps) (u + 1) = ((payK ps day due (srtU ps) t).1.set b ((vAt ps b).1 - mnI (payK ps day due (srtU ps) t).2 (vAt ps b).1, (vAt ps b).2), (payK ps day due (srtU ps) t).2 - mnI (payK ps day due (srtU ps) t).2 (vAt ps b).1) ∧
      UsedU ps day (us.set b true) (u + 1) ∧ vAt (payK ps day due (srtU ps) t).1 b = vAt ps b := by
  have hbl := hb.lt
  obtain ⟨hok, hmin⟩ : okU ps day us b ∧ ∀ j, j < ps.length → j ≠ b → okU ps day us j → LU ps b j := by
    rcases hb with ⟨e, _⟩ | ⟨b', e, _, ho, hm⟩
    · omega
    · obtain rfl : b = b' := by omega
      exact ⟨ho, hm⟩
  obtain ⟨u, hu, hub⟩ := srtU_has hbl
  have htu : t ≤ u := by
    refine Nat.not_lt.1 fun hlt => ?_
    have h1 := (h b hbl).2 ⟨u, hlt, hub, hok.2⟩
    rw [hok.1] at h1
    cases h1
  have hlap : ∀ j, t ≤ j → j < u → (vAt ps ((srtU ps).getD j 0)).2 < day := fun j hj hju => by
    have hlt := srtU_lt (ps := ps) (show j < ps.length by omega)
    refine Int.not_le.1 fun h2 => ?_
    have hne : (srtU ps).getD j 0 ≠ b := fun e => by
      have := srtU_inj (ps := ps) (show j < ps.length by omega) hu (e.trans hub.symm)
      omega
    have hko : okU ps day us ((srtU ps).getD j 0) := ⟨by
      cases hu2 : us.getD ((srtU ps).getD j 0) false
      · rfl
      · obtain ⟨j', hj', e, _⟩ := (h _ hlt).1 hu2
        have := srtU_inj (ps := ps) (show j' < ps.length by omega) (show j < ps.length by omega) e
        omega, h2⟩
    have h3 := hmin _ hlt hne hko
    have h4 := srtU_ord (ps := ps) hju hu
    rw [hub] at h4
    exact LU.irr h3 h4
  refine ⟨u, htu, hu, ?_, fun i hi => ?_, payK_at fun j hj e => ?_⟩
  · rw [payK, payK_idle2 hlap htu, hub, stepP, if_neg (by have := hok.2; unfold unt at this; exact Int.not_lt.2 this)]
  · by_cases e : b = i
    · subst e
      rw [List.getD, List.getElem?_set_self (by omega)]
      exact ⟨fun _ => ⟨u, by omega, hub, hok.2⟩, fun _ => rfl⟩
    · rw [List.getD, List.getElem?_set_ne e, ← List.getD, h i hi]
      constructor
      · rintro ⟨j, hj, e1, e2⟩; exact ⟨j, by omega, e1, e2⟩
      · rintro ⟨j, hj, e1, e2⟩
        refine ⟨j, Nat.not_le.1 fun h5 => ?_, e1, e2⟩
        by_cases e3 : j = u
        · subst e3; exact e (hub.symm.trans e1)
        · have h6 := hlap j h5 (by omega)
          rw [e1] at h6
          exact absurd h6 (Int.not_lt.2 e2)
  · have h1 := (h b hbl).2 ⟨j, hj, e, hok.2⟩
    rw [hok.1] at h1
    cases h1

/-! How many are used. -/
def cntU (f : Nat → Bool) : Nat → Nat
  | 0 => 0
  | k + 1 => cntU f k + (if f k = true then 1 else 0)
theorem cntU_le (f : Nat → Bool) (k : Nat) : cntU f k ≤ k := by
  induction k with
  | zero => simp [cntU]
  | succ k ih => rw [cntU]; split <;> omega
theorem cntU_mono {f g : Nat → Bool} {k : Nat} (h : ∀ i, i < k → f i = true → g i = true) : cntU f k ≤ cntU g k := by
  induction k with
  | zero => simp [cntU]
  | succ k ih =>
    have h1 := ih (fun i hi => h i (by omega))
    have h2 := h k (by omega)
    rw [cntU, cntU]
    by_cases e : f k = true
    · rw [if_pos e, if_pos (h2 e)]; omega
    · rw [if_neg e]; omega
theorem cntU_lt {f g : Nat → Bool} {k b : Nat} (h : ∀ i, i < k → f i = true → g i = true) (hb : b < k) (h0 : f b = false) (h1 : g b = true) : cntU f k < cntU g k := by
  induction k with
  | zero => omega
  | succ k ih =>
    rw [cntU, cntU]
    by_cases e : b = k
    · subst e
      have := cntU_mono (f := f) (g := g) (k := b) (fun i hi => h i (by omega))
      rw [if_neg (by rw [h0]; simp), if_pos h1]; omega
    · have h2 := ih (fun i hi => h i (by omega)) (by omega)
      have h3 := h k (by omega)
      by_cases e : f k = true
      · rw [if_pos e, if_pos (h3 e)]; omega
      · rw [if_neg e]; omega
def isT : Option Value → Bool
  | some (.bool true) => true
  | _ => false
def cntW (n h : Nat) (w : World) : Nat := cntU (fun i => isT (w.cell? ⟨h, i, none⟩)) n
/-- A row of truths. -/
def OwnBo (T : TypeId) (lo : Nat) (w : World) (h n : Nat) (us : List Bool) : Prop := us.length = n ∧ w.ownsRow lo T 1 (.slice (some ⟨h, 0, none⟩) n n) n (us.map Value.bool)
theorem OwnBo.cellAt {T : TypeId} {lo h n : Nat} {w : World} {us : List Bool} (ho : OwnBo T lo w h n us) {j : Nat} (hj : j < n) : w.cell? ⟨h, j, none⟩ = some (.bool (us.getD j false)) := by
  rw [World.ownsRow.cellAt ho.2 j (by omega)]
  have := ho.1
  simp [List.getD, show j < us.length by omega]
theorem OwnBo.store {T : TypeId} {lo h n : Nat} {w : World} {us : List Bool} (ho : OwnBo T lo w h n us) (j : Nat) (x : Bool) : OwnBo T lo (w.setCell ⟨h, j, none⟩ (.bool x)) h n (us.set j x) := by
  have S := (World.ownsRow.stored ho.2 j (.bool x)).1
  exact ⟨by rw [List.length_set]; exact ho.1, by rw [List.map_set]; exact S⟩
theorem OwnBo.below {T : TypeId} {lo h n : Nat} {w w' : World} {us : List Bool} (ho : OwnBo T lo w h n us) (hb : Below w.heap.size w w') : OwnBo T lo w' h n us := ⟨ho.1, row_keep ho.2 hb⟩
theorem OwnBo.other {T : TypeId} {lo h n : Nat} {w : World} {us : List Bool} (ho : OwnBo T lo w h n us) {a : Addr} (u : Value) (ha : a.block < lo) : OwnBo T lo (w.setCell a u) h n us := ⟨ho.1, own_set ho.2 u ha⟩
theorem OwnBo.cnt {T : TypeId} {lo h n : Nat} {w : World} {us : List Bool} (ho : OwnBo T lo w h n us) : cntW n h w = cntU (fun i => us.getD i false) n := by
  have e : ∀ i, i < n → isT (w.cell? ⟨h, i, none⟩) = us.getD i false := fun i hi => by rw [ho.cellAt hi]; cases us.getD i false <;> rfl
  unfold cntW
  exact Nat.le_antisymm (cntU_mono fun i hi h => by rw [← e i hi]; exact h) (cntU_mono fun i hi h => by rw [e i hi]; exact h)
theorem cnt_up {us : List Bool} {n b : Nat} (hl : us.length = n) (hb : b < n) (h0 : us.getD b false = false) : cntU (fun i => us.getD i false) n < cntU (fun i => (us.set b true).getD i false) n := by
  refine cntU_lt (b := b) (fun i hi h => ?_) hb h0 ?_
  · by_cases e : b = i
    · subst e; rw [List.getD, List.getElem?_set_self (by omega)]; rfl
    · rw [List.getD, List.getElem?_set_ne e]; exact h
  · rw [List.getD, List.getElem?_set_self (by omega)]; rfl
end Go.Proofs.YtgimpmdiilmkoaaDoor
