/-
  Rings of those whose parcels are swapped (plain): what is right, the walk round a ring, and that both ways give the same rings.
-/
import Derived.Test.YtocogipejchneaaDoorVsP
namespace Go.Proofs.YtocogipejchneaaDoor
open Go Go.RowKit
set_option linter.unusedVariables false

/-! The walk round a ring. -/
def upd (f : Nat → Bool) (a : Nat) : Nat → Bool := fun i => if i = a then true else f i
theorem upd_same (f : Nat → Bool) (a : Nat) : upd f a a = true := by simp [upd]
theorem upd_other (f : Nat → Bool) {a i : Nat} (h : i ≠ a) : upd f a i = f i := by simp [upd, h]
theorem upd_keep {f : Nat → Bool} {a i : Nat} (h : f i = true) : upd f a i = true := by unfold upd; split <;> simp [h]
def wlk (nx : Nat → Nat) : Nat → (Nat → Bool) → Nat → List Nat × (Nat → Bool)
  | 0, f, _ => ([], f)
  | k + 1, f, a => if f a = true then ([], f) else (a :: (wlk nx k (upd f a) (nx a)).1, (wlk nx k (upd f a) (nx a)).2)
theorem wlk_seen (nx : Nat → Nat) (k : Nat) {f : Nat → Bool} {a : Nat} (h : f a = true) : wlk nx k f a = ([], f) := by
  cases k with
  | zero => rfl
  | succ k => unfold wlk; rw [if_pos h]
theorem wlk_step (nx : Nat → Nat) (k : Nat) {f : Nat → Bool} {a : Nat} (h : f a = false) : wlk nx (k + 1) f a = (a :: (wlk nx k (upd f a) (nx a)).1, (wlk nx k (upd f a) (nx a)).2) := by
  rw [wlk, if_neg (by rw [h]; simp)]
theorem wlk_len (nx : Nat → Nat) : ∀ (k : Nat) (f : Nat → Bool) (a : Nat), (wlk nx k f a).1.length ≤ k
  | 0, _, _ => Nat.le_refl _
  | k + 1, f, a => by
    cases h : f a with
    | true => rw [wlk_seen nx _ h]; simp
    | false => rw [wlk_step nx _ h]; simp only [List.length_cons]; have := wlk_len nx k (upd f a) (nx a); omega
def cntU (f : Nat → Bool) : Nat → Nat
  | 0 => 0
  | n + 1 => cntU f n + (if f n = true then 0 else 1)
theorem cntU_le (f : Nat → Bool) : ∀ n, cntU f n ≤ n
  | 0 => Nat.le_refl _
  | n + 1 => by unfold cntU; have := cntU_le f n; split <;> omega
theorem cntU_far (f : Nat → Bool) (a : Nat) : ∀ n, n ≤ a → cntU (upd f a) n = cntU f n
  | 0, _ => rfl
  | n + 1, h => by
    unfold cntU
    rw [cntU_far f a n (by omega), upd_other f (by omega)]
theorem cntU_upd (f : Nat → Bool) {a : Nat} (hf : f a = false) : ∀ n, a < n → cntU (upd f a) n + 1 = cntU f n
  | n + 1, h => by
    unfold cntU
    by_cases e : a = n
    · subst e
      rw [cntU_far f a a (Nat.le_refl _), upd_same, hf]
      simp
    · rw [← cntU_upd f hf n (by omega), upd_other f (show n ≠ a by omega)]
      omega
theorem cntU_zero {f : Nat → Bool} : ∀ {n : Nat}, cntU f n = 0 → ∀ a, a < n → f a = true
  | n + 1, h, a, ha => by
    unfold cntU at h
    by_cases e : a = n
    · subst e
      cases hf : f a with
      | true => rfl
      | false => rw [hf] at h; simp at h
    · exact cntU_zero (n := n) (by omega) a (by omega)
theorem cntU_pos {f : Nat → Bool} {n a : Nat} (ha : a < n) (hf : f a = false) : 0 < cntU f n := by
  rcases Nat.eq_zero_or_pos (cntU f n) with h | h
  · rw [cntU_zero h a ha] at hf; cases hf
  · exact h

/-! Both ways to the rings. -/
def rgI (nx : Nat → Nat) (n : Nat) : Nat → List (List Nat) × (Nat → Bool)
  | 0 => ([], fun _ => false)
  | k + 1 => (if 1 < (wlk nx n (rgI nx n k).2 k).1.length then (rgI nx n k).1 ++ [(wlk nx n (rgI nx n k).2 k).1] else (rgI nx n k).1, (wlk nx n (rgI nx n k).2 k).2)
def rgM (nx : Nat → Nat) (n : Nat) : Nat → List (List Nat) × (Nat → Bool)
  | 0 => ([], fun _ => false)
  | k + 1 => if (rgM nx n k).2 k = true ∨ nx k = k then rgM nx n k else ((rgM nx n k).1 ++ [(wlk nx n (rgM nx n k).2 k).1], (wlk nx n (rgM nx n k).2 k).2)
section
variable {nx : Nat → Nat} {n : Nat}
def Clo (nx : Nat → Nat) (n : Nat) (f : Nat → Bool) : Prop := ∀ b, b < n → f (nx b) = true → f b = true
structure Cyc (nx : Nat → Nat) (n x0 : Nat) (f : Nat → Bool) (a : Nat) : Prop where
  e1 : ∀ b, b < n → f (nx b) = true → f b = true ∨ nx b = x0
  e2 : (a = x0 ∧ Clo nx n f) ∨ ∃ p, p < n ∧ nx p = a ∧ f p = true ∧ (f a = true → a = x0)
theorem Cyc.step (inj : ∀ a b, a < n → b < n → nx a = nx b → a = b) {x0 a : Nat} {f : Nat → Bool} (h : Cyc nx n x0 f a) (ha : a < n) (hf : f a = false) : Cyc nx n x0 (upd f a) (nx a) := by
  refine ⟨fun b hb hu => ?_, .inr ⟨a, ha, rfl, upd_same f a, fun hu => ?_⟩⟩
  · by_cases e : nx b = a
    · rcases h.e2 with ⟨rfl, _⟩ | ⟨p, hp, hpa, hfp, _⟩
      · exact .inr e
      · have : p = b := inj p b hp hb (by rw [hpa, e])
        subst this
        exact .inl (upd_keep hfp)
    · rw [upd_other f e] at hu
      rcases h.e1 b hb hu with g | g
      · exact .inl (upd_keep g)
      · exact .inr g
  · by_cases e : nx a = a
    · rcases h.e2 with ⟨rfl, _⟩ | ⟨p, hp, hpa, hfp, _⟩
      · exact e
      · have : p = a := inj p a hp ha (by rw [hpa, e])
        subst this
        rw [hfp] at hf; cases hf
    · rw [upd_other f e] at hu
      rcases h.e1 a ha hu with g | g
      · rw [g] at hf; cases hf
      · exact g
theorem Cyc.done (inj : ∀ a b, a < n → b < n → nx a = nx b → a = b) {x0 a : Nat} {f : Nat → Bool} (h : Cyc nx n x0 f a) (hf : f a = true) : Clo nx n f := fun b hb hu => by
  rcases h.e1 b hb hu with g | g
  · exact g
  · rcases h.e2 with ⟨_, hc⟩ | ⟨p, hp, hpa, hfp, hx⟩
    · exact hc b hb hu
    · have : p = b := inj p b hp hb (by rw [hpa, g, hx hf])
      subst this
      exact hfp
theorem wlk_clo (inj : ∀ a b, a < n → b < n → nx a = nx b → a = b) (hr : ∀ a, a < n → nx a < n) {x0 : Nat} : ∀ (k : Nat) (f : Nat → Bool) (a : Nat), cntU f n ≤ k → a < n → Cyc nx n x0 f a → Clo nx n (wlk nx k f a).2
  | 0, f, a, hc, ha, h => by
    have hf := cntU_zero (f := f) (n := n) (by omega) a ha
    exact h.done inj hf
  | k + 1, f, a, hc, ha, h => by
    cases hf : f a with
    | true => rw [wlk_seen nx _ hf]; exact h.done inj hf
    | false =>
      rw [wlk_step nx _ hf]
      exact wlk_clo inj hr k (upd f a) (nx a) (by have := cntU_upd f hf n ha; omega) (hr a ha) (h.step inj ha hf)
def Rl (nx : Nat → Nat) (n : Nat) (f g : Nat → Bool) : Prop := ∀ j, j < n → g j = (f j && decide (nx j ≠ j))
theorem Rl.upd {f g : Nat → Bool} (h : Rl nx n f g) {a : Nat} (ha : nx a ≠ a) : Rl nx n (upd f a) (upd g a) := fun j hj => by
  by_cases e : j = a
  · subst e; rw [upd_same, upd_same]; simp [ha]
  · rw [upd_other f e, upd_other g e]; exact h j hj
theorem wlk_rel (inj : ∀ a b, a < n → b < n → nx a = nx b → a = b) (hr : ∀ a, a < n → nx a < n) : ∀ (k : Nat) (f g : Nat → Bool) (a : Nat), a < n → nx a ≠ a → Rl nx n f g → (wlk nx k f a).1 = (wlk nx k g a).1 ∧ Rl nx n (wlk nx k f a).2 (wlk nx k g a).2
  | 0, f, g, a, ha, hne, h => ⟨rfl, h⟩
  | k + 1, f, g, a, ha, hne, h => by
    have hg := h a ha
    cases hf : f a with
    | true =>
      rw [hf] at hg
      have hg : g a = true := by rw [hg]; simp [hne]
      rw [wlk_seen nx _ hf, wlk_seen nx _ hg]
      exact ⟨rfl, h⟩
    | false =>
      rw [hf] at hg
      have hg : g a = false := by rw [hg]; rfl
      rw [wlk_step nx _ hf, wlk_step nx _ hg]
      have := wlk_rel inj hr k (upd f a) (upd g a) (nx a) (hr a ha) (fun e => hne (inj _ _ (hr a ha) ha e)) (h.upd hne)
      exact ⟨by simp only; rw [this.1], this.2⟩
theorem rgM_skip {k : Nat} (h : (rgM nx n k).2 k = true ∨ nx k = k) : rgM nx n (k + 1) = rgM nx n k := by rw [rgM, if_pos h]
theorem rgM_go {k : Nat} (h : (rgM nx n k).2 k = false) (hf : nx k ≠ k) : rgM nx n (k + 1) = ((rgM nx n k).1 ++ [(wlk nx n (rgM nx n k).2 k).1], (wlk nx n (rgM nx n k).2 k).2) := by
  rw [rgM, if_neg (by rintro (e | e); rw [h] at e; cases e; exact hf e)]
theorem rgI_skip {k : Nat} (h : ¬ 1 < (wlk nx n (rgI nx n k).2 k).1.length) : rgI nx n (k + 1) = ((rgI nx n k).1, (wlk nx n (rgI nx n k).2 k).2) := by rw [rgI, if_neg h]
theorem rgI_go {k : Nat} (h : 1 < (wlk nx n (rgI nx n k).2 k).1.length) : rgI nx n (k + 1) = ((rgI nx n k).1 ++ [(wlk nx n (rgI nx n k).2 k).1], (wlk nx n (rgI nx n k).2 k).2) := by rw [rgI, if_pos h]
theorem rg_same (inj : ∀ a b, a < n → b < n → nx a = nx b → a = b) (hr : ∀ a, a < n → nx a < n) : ∀ k, k ≤ n → (rgI nx n k).1 = (rgM nx n k).1 ∧ Rl nx n (rgI nx n k).2 (rgM nx n k).2 ∧ Clo nx n (rgI nx n k).2
  | 0, _ => ⟨rfl, fun j _ => rfl, fun b _ h => by cases h⟩
  | k + 1, h => by
    obtain ⟨h1, h2, h3⟩ := rg_same inj hr k (by omega)
    have hk : k < n := by omega
    have hclo : Clo nx n (wlk nx n (rgI nx n k).2 k).2 := wlk_clo inj hr (x0 := k) n _ k (cntU_le _ n) hk ⟨fun b hb hu => .inl (h3 b hb hu), .inl ⟨rfl, h3⟩⟩
    have hg := h2 k hk
    obtain ⟨m, hm⟩ : ∃ m, n = m + 1 := ⟨n - 1, by omega⟩
    cases hf : (rgI nx n k).2 k with
    | true =>
      have hw := wlk_seen nx n hf
      rw [rgI_skip (by rw [hw]; simp), hw]
      rw [hf] at hg
      by_cases hfix : nx k = k
      · rw [rgM_skip (.inr hfix)]; exact ⟨h1, h2, h3⟩
      · rw [rgM_skip (.inl (by rw [hg]; simp [hfix]))]; exact ⟨h1, h2, h3⟩
    | false =>
      rw [hf] at hg
      have hg' : (rgM nx n k).2 k = false := by rw [hg]; rfl
      by_cases hfix : nx k = k
      · have hw : wlk nx n (rgI nx n k).2 k = ([k], upd (rgI nx n k).2 k) := by
          conv => lhs; rw [hm]
          rw [wlk_step nx m (by rw [← hm]; exact hf), hfix, wlk_seen nx _ (upd_same _ k)]
          rw [← hm]
        rw [hw] at hclo
        rw [rgI_skip (by rw [hw]; simp), hw, rgM_skip (.inr hfix)]
        refine ⟨h1, fun j hj => ?_, hclo⟩
        by_cases e : j = k
        · rw [e, hg', hfix]; simp
        · show _ = (upd (rgI nx n k).2 k j && _)
          rw [upd_other _ e]; exact h2 j hj
      · rw [rgM_go hg' hfix]
        obtain ⟨r1, r2⟩ := wlk_rel inj hr n _ _ k hk hfix h2
        have hlen : 1 < (wlk nx n (rgI nx n k).2 k).1.length := by
          have hk2 := hr k hk
          obtain ⟨q, hq⟩ : ∃ q, n = q + 1 + 1 := ⟨n - 2, by omega⟩
          have hf2 : upd (rgI nx n k).2 k (nx k) = false := by
            rw [upd_other _ hfix]
            cases e : (rgI nx n k).2 (nx k) with
            | false => rfl
            | true => rw [h3 k hk e] at hf; cases hf
          obtain ⟨f0, hf0⟩ : ∃ f0, (rgI nx n k).2 = f0 := ⟨_, rfl⟩
          rw [hf0] at hf hf2 ⊢
          rw [hq, wlk_step nx _ hf, wlk_step nx _ hf2]
          simp
        rw [rgI_go hlen]
        exact ⟨by simp only; rw [h1, r1], r2, hclo⟩
theorem rgI_len (nx : Nat → Nat) (n : Nat) : ∀ k, (rgI nx n k).1.length ≤ k ∧ ∀ r ∈ (rgI nx n k).1, r.length ≤ n
  | 0 => ⟨Nat.le_refl _, fun r h => by cases h⟩
  | k + 1 => by
    obtain ⟨h1, h2⟩ := rgI_len nx n k
    unfold rgI
    split
    · refine ⟨by rw [List.length_append]; simp; exact h1, fun r hr => ?_⟩
      rcases List.mem_append.1 hr with h | h
      · exact h2 r h
      · have : r = (wlk nx n (rgI nx n k).2 k).1 := by simpa using h
        rw [this]; exact wlk_len nx n _ k
    · exact ⟨by simp; omega, h2⟩
end

/-! What is right. -/
def plc (W : List Int) (x : Int) : Nat := W.idxOf x
def nxt (W G : List Int) (i : Nat) : Nat := plc W (G.getD i 0)
def swIn (W G : List Int) (i : Nat) : Prop := (0 ≤ W.getD i 0 ∧ W.getD i 0 ≤ 100) ∧ W.getD i 0 ∉ W.take i ∧ G.getD i 0 ∉ G.take i ∧ G.getD i 0 ∈ W
instance (W G : List Int) (i : Nat) : Decidable (swIn W G i) := inferInstanceAs (Decidable (_ ∧ _))
def swB (W G : List Int) : Bool := decide ((W.length = G.length ∧ W.length ≤ 9) ∧ ∀ i, i < W.length → swIn W G i)
theorem swB_spec {W G : List Int} (h : swB W G = true) : (W.length = G.length ∧ W.length ≤ 9) ∧ ∀ i, i < W.length → swIn W G i := of_decide_eq_true h
theorem swB_true {W G : List Int} (h1 : W.length = G.length) (h2 : W.length ≤ 9) (h : ∀ i, i < W.length → swIn W G i) : swB W G = true := decide_eq_true ⟨⟨h1, h2⟩, h⟩
theorem swB_len {W G : List Int} (h : ¬ (W.length = G.length ∧ W.length ≤ 9)) : swB W G = false := decide_eq_false fun k => h k.1
theorem swB_bad {W G : List Int} {i : Nat} (hi : i < W.length) (h : ¬ swIn W G i) : swB W G = false := decide_eq_false fun k => h (k.2 i hi)
theorem nodup_of {W : List Int} (h : ∀ i, i < W.length → W.getD i 0 ∉ W.take i) : W.Nodup := by
  have : visTo W W W.length := fun i hi => ⟨by simp [List.getD, hi], h i hi⟩
  have := visTo_nodup this (Nat.le_refl _)
  rwa [List.take_length] at this
theorem sw_nodup {W G : List Int} (h : swB W G = true) : W.Nodup ∧ G.Nodup ∧ ∀ x, x ∈ G → x ∈ W := by
  obtain ⟨⟨h1, h2⟩, h3⟩ := swB_spec h
  refine ⟨nodup_of fun i hi => (h3 i hi).2.1, nodup_of fun i hi => (h3 i (by omega)).2.2.1, fun x hx => ?_⟩
  obtain ⟨i, hi, rfl⟩ := List.getElem_of_mem hx
  have := (h3 i (by omega)).2.2.2
  simpa [List.getD, hi] using this
theorem getD_inj {L : List Int} (h : L.Nodup) {a b : Nat} (ha : a < L.length) (hb : b < L.length) (e : L.getD a 0 = L.getD b 0) : a = b := by
  simp only [List.getD, List.getElem?_eq_getElem ha, List.getElem?_eq_getElem hb, Option.getD_some] at e
  exact (List.getElem_inj h).1 e
theorem plc_at {W : List Int} {x : Int} (h : x ∈ W) : plc W x < W.length ∧ W.getD (plc W x) 0 = x := by
  have hl : W.idxOf x < W.length := List.idxOf_lt_length_of_mem h
  refine ⟨hl, ?_⟩
  unfold plc
  simp [List.getD, hl]
theorem nxt_lt {W G : List Int} (h : swB W G = true) {a : Nat} (ha : a < W.length) : nxt W G a < W.length := (plc_at ((swB_spec h).2 a ha).2.2.2).1
theorem nxt_inj {W G : List Int} (h : swB W G = true) (a b : Nat) (ha : a < W.length) (hb : b < W.length) (e : nxt W G a = nxt W G b) : a = b := by
  have hl := (swB_spec h).1.1
  have e1 := (plc_at ((swB_spec h).2 a ha).2.2.2).2
  have e2 := (plc_at ((swB_spec h).2 b hb).2.2.2).2
  unfold nxt at e
  rw [e] at e1
  exact getD_inj (sw_nodup h).2.1 (by omega) (by omega) (e1.symm.trans e2)
theorem nxt_fix {W G : List Int} (h : swB W G = true) {a : Nat} (ha : a < W.length) : nxt W G a = a ↔ W.getD a 0 = G.getD a 0 := by
  have e1 := (plc_at ((swB_spec h).2 a ha).2.2.2).2
  have hl := nxt_lt h ha
  constructor
  · intro e
    unfold nxt at e
    rw [e] at e1
    exact e1
  · intro e
    exact getD_inj (sw_nodup h).1 hl ha (e1.trans e.symm)
def ints (r : List Nat) : List Int := r.map fun i => ((i : Nat) : Int)
def rgL (W G : List Int) : List (List Int) := (rgI (nxt W G) W.length W.length).1.map ints
theorem rgL_M {W G : List Int} (h : swB W G = true) : rgL W G = (rgM (nxt W G) W.length W.length).1.map ints := by
  unfold rgL
  rw [(rg_same (nxt_inj h) (fun a ha => nxt_lt h ha) W.length (Nat.le_refl _)).1]
def swR (W G : List Int) : List (List Int) := if swB W G = true then rgL W G else []
def swC (W G : List Int) : Int := if swB W G = true then 0 else 1
theorem sw_no {W G : List Int} (h : swB W G = false) : swR W G = [] ∧ swC W G = 1 := by unfold swR swC; rw [h]; simp
theorem sw_yes {W G : List Int} (h : swB W G = true) : swR W G = rgL W G ∧ swC W G = 0 := by unfold swR swC; rw [h]; simp
theorem swR_bd (W G : List Int) : (swR W G).length ≤ 9 ∧ (∀ j, j < (swR W G).length → ((swR W G).getD j []).length ≤ 9) := by
  cases h : swB W G with
  | false => rw [(sw_no h).1]; exact ⟨by decide, fun j hj => absurd hj (by simp)⟩
  | true =>
    rw [(sw_yes h).1]
    have hl := (swB_spec h).1.2
    obtain ⟨g1, g2⟩ := rgI_len (nxt W G) W.length W.length
    unfold rgL
    refine ⟨by rw [List.length_map]; omega, fun j hj => ?_⟩
    rw [List.length_map] at hj
    have := g2 _ (List.getElem_mem hj)
    simp [List.getD, hj, ints]
    omega

/-! The program's way to tell what is right. -/
def cmpI : List Int → List Int
  | [] => []
  | x :: xs => match cmpI xs with
    | [] => [x]
    | y :: ys => if x = y then y :: ys else x :: y :: ys
end Go.Proofs.YtocogipejchneaaDoor
