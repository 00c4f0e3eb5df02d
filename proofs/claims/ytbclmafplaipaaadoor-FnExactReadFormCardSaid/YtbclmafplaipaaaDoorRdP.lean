/-
  Reading texts (plain): words between marks, canonical decimal numerals, and that reading them in the library's way and telling the list again is the same as reading them strictly.
-/
import Derived.Test.YtbclmafplaipaaaDoorTs
import Derived.Lib.SplitLaws
import Derived.Lib.ParseIntB
import Derived.Lib.Join
namespace Go.Proofs.YtbclmafplaipaaaDoor
open Go Go.RowKit
set_option linter.unusedVariables false

/-- The words between the marks. -/
def spl (b : UInt8) : List UInt8 → List (List UInt8)
  | [] => [[]]
  | c :: r => if c = b then [] :: spl b r else (c :: (spl b r).headD []) :: (spl b r).tail
theorem spl_ne (b : UInt8) : ∀ l, spl b l ≠ []
  | [] => by simp [spl]
  | c :: r => by unfold spl; split <;> simp
theorem spl_cons_ne {b c : UInt8} {r : List UInt8} (h : c ≠ b) : spl b (c :: r) = (c :: (spl b r).headD []) :: (spl b r).tail := by rw [spl, if_neg h]
theorem spl_cons_eq (b : UInt8) (r : List UInt8) : spl b (b :: r) = [] :: spl b r := by rw [spl, if_pos rfl]
theorem spl_free {b : UInt8} : ∀ {x : List UInt8}, b ∉ x → spl b x = [x]
  | [], _ => rfl
  | c :: r, h => by
    rw [spl_cons_ne (fun e => h (by simp [e])), spl_free (fun e => h (List.mem_cons_of_mem _ e))]
    rfl
theorem spl_app {b : UInt8} : ∀ {x : List UInt8} (y : List UInt8), b ∉ x → spl b (x ++ b :: y) = x :: spl b y
  | [], y, _ => spl_cons_eq b y
  | c :: r, y, h => by
    rw [List.cons_append, spl_cons_ne (fun e => h (by simp [e])), spl_app y (fun e => h (List.mem_cons_of_mem _ e))]
    rfl
theorem spl_join (b : UInt8) : ∀ l, Lib.join (spl b l) [b] = l
  | [] => by rw [spl, Lib.join_one]
  | c :: r => by
    have ih := spl_join b r
    obtain ⟨w, ws, hw⟩ : ∃ w ws, spl b r = w :: ws := by
      cases h : spl b r with
      | nil => exact absurd h (spl_ne b r)
      | cons w ws => exact ⟨w, ws, rfl⟩
    by_cases e : c = b
    · subst e
      rw [spl_cons_eq, Lib.join_cons, List.nil_append]
      rw [hw] at ih ⊢
      rw [Lib.join_cons] at ih
      simp only [Lib.joinTail, List.map_cons, List.flatten_cons] at ih ⊢
      rw [← ih]
      simp
    · rw [spl_cons_ne e, hw]
      rw [hw] at ih
      simp only [List.headD_cons, List.tail_cons]
      rw [Lib.join_cons] at ih ⊢
      rw [List.cons_append, ih]
theorem spl_of_join {b : UInt8} : ∀ {ws : List (List UInt8)}, ws ≠ [] → (∀ w ∈ ws, b ∉ w) → spl b (Lib.join ws [b]) = ws
  | [], h, _ => absurd rfl h
  | [w], _, h => by rw [Lib.join_one]; exact spl_free (h w (by simp))
  | w :: v :: ws, _, h => by
    have ih := spl_of_join (ws := v :: ws) (by simp) (fun x hx => h x (by simp at hx ⊢; exact .inr hx))
    have e : Lib.join (w :: v :: ws) [b] = w ++ b :: Lib.join (v :: ws) [b] := by
      rw [Lib.join_cons, Lib.join_cons]
      simp [Lib.joinTail]
    rw [e, spl_app _ (h w (by simp)), ih]

/-- What the library's Split gives is the same. -/
theorem index_free {b : UInt8} : ∀ {x : List UInt8}, b ∉ x → Lib.index x [b] = -1
  | [], _ => rfl
  | c :: r, h => by
    rw [Lib.index, show ([b] : List UInt8).isPrefixOf (c :: r) = false by
      have : b ≠ c := fun e => h (by simp [e])
      simp [List.isPrefixOf, this], index_free (x := r) (fun e => h (List.mem_cons_of_mem _ e))]
    rfl
theorem index_app {b : UInt8} : ∀ {x : List UInt8} (y : List UInt8), b ∉ x → Lib.index (x ++ b :: y) [b] = x.length
  | [], y, _ => by rw [List.nil_append, Lib.index]; simp [List.isPrefixOf]
  | c :: r, y, h => by
    have ih := index_app (x := r) y (fun e => h (List.mem_cons_of_mem _ e))
    rw [List.cons_append, Lib.index, show ([b] : List UInt8).isPrefixOf (c :: (r ++ b :: y)) = false by
      have : b ≠ c := fun e => h (by simp [e])
      simp [List.isPrefixOf, this], ih]
    have : (((r.length : Nat) : Int) == -1) = false := by rw [beq_eq_false_iff_ne]; omega
    simp [this]
theorem first_mark (b : UInt8) : ∀ l : List UInt8, b ∉ l ∨ ∃ x y, b ∉ x ∧ l = x ++ b :: y
  | [] => .inl (by simp)
  | c :: r => by
    by_cases e : c = b
    · exact .inr ⟨[], r, by simp, by rw [e]; rfl⟩
    · rcases first_mark b r with h | ⟨x, y, h, rfl⟩
      · exact .inl (by simp [h]; exact fun h => e h.symm)
      · exact .inr ⟨c :: x, y, by simp [h]; exact fun h => e h.symm, rfl⟩
theorem split_is (b : UInt8) : ∀ (k : Nat) (s : List UInt8), Lib.count s [b] = k → Lib.splitK [b] 0 k s = spl b s
  | 0, s, hk => by
    rcases first_mark b s with h | ⟨x, y, h, rfl⟩
    · rw [spl_free h]; rfl
    · rw [Lib.count_one] at hk
      simp at hk
  | k + 1, s, hk => by
    rcases first_mark b s with h | ⟨x, y, h, rfl⟩
    · rw [Lib.count_one, List.count_eq_zero_of_not_mem h] at hk
      cases hk
    · have hi := index_app y h
      have h1 := Lib.count_hit (by simp) hi
      have hd : (x ++ b :: y).drop (x.length + 1) = y := by simp [List.drop_append]
      simp only [List.length_cons, List.length_nil, Nat.zero_add] at h1
      rw [hd] at h1
      have hn : ((x.length : Int) == -1) = false := by rw [beq_eq_false_iff_ne]; omega
      have ht : (x ++ b :: y).take (x.length + 0) = x := by simp
      rw [Lib.splitK, hi, hn]
      simp only [Bool.false_eq_true, if_false, Int.toNat_natCast, List.length_cons, List.length_nil, Nat.zero_add]
      rw [hd, ht, split_is b k y (by omega), spl_app y h]
theorem cut_free {b : UInt8} {x : List UInt8} (h : b ∉ x) : Lib.cut x [b] = (x, [], false) := by
  unfold Lib.cut
  rw [index_free h, if_neg (by omega)]
theorem cut_app {b : UInt8} {x : List UInt8} (y : List UInt8) (h : b ∉ x) : Lib.cut (x ++ b :: y) [b] = (x, y, true) := by
  unfold Lib.cut
  rw [index_app y h, if_pos (by omega)]
  simp

/-! Numerals. -/
def isDg (c : UInt8) : Bool := decide (48 ≤ c.toNat ∧ c.toNat ≤ 57)
def numF (acc : Nat) (l : List UInt8) : Nat := l.foldl (fun a c => 10 * a + (c.toNat - 48)) acc
theorem numF_nil (acc : Nat) : numF acc [] = acc := rfl
theorem numF_cons (acc : Nat) (c : UInt8) (r : List UInt8) : numF acc (c :: r) = numF (10 * acc + (c.toNat - 48)) r := by unfold numF; rw [List.foldl_cons]
def num (l : List UInt8) : Option Nat := if l = [] ∨ 9 < l.length ∨ (l.head? = some 48 ∧ 1 < l.length) then none else if l.all isDg = true then some (numF 0 l) else none
theorem numF_app : ∀ (l r : List UInt8) (acc : Nat), numF acc (l ++ r) = numF (numF acc l) r
  | [], _, _ => rfl
  | c :: l, r, acc => by rw [List.cons_append, numF_cons, numF_cons, numF_app l r]
theorem numF_ge : ∀ (l : List UInt8) (acc : Nat), acc ≤ numF acc l
  | [], acc => Nat.le_refl _
  | c :: l, acc => by rw [numF_cons]; exact Nat.le_trans (by omega) (numF_ge l _)
theorem numF_lt : ∀ (l : List UInt8) (acc : Nat), l.all isDg = true → numF acc l < (acc + 1) * 10 ^ l.length
  | [], acc, _ => by rw [numF_nil]; simp
  | c :: l, acc, h => by
    simp only [List.all_cons, Bool.and_eq_true] at h
    have hc := of_decide_eq_true h.1
    have ih := numF_lt l (10 * acc + (c.toNat - 48)) h.2
    rw [numF_cons, List.length_cons, Nat.pow_succ]
    refine Nat.lt_of_lt_of_le ih ?_
    have h1 : 10 * acc + (c.toNat - 48) + 1 ≤ (acc + 1) * 10 := by omega
    calc (10 * acc + (c.toNat - 48) + 1) * 10 ^ l.length ≤ ((acc + 1) * 10) * 10 ^ l.length := Nat.mul_le_mul_right _ h1
      _ = (acc + 1) * (10 ^ l.length * 10) := by rw [Nat.mul_assoc, Nat.mul_comm 10]
theorem dg_nat {d : Nat} (h : d < 10) : (UInt8.ofNat (48 + d)).toNat = 48 + d := by simp; omega
theorem dec_all (n : Nat) : (dec n).all isDg = true := by
  induction n using Nat.strongRecOn with
  | ind n ih =>
    by_cases h : n < 10
    · rw [dec_small h]
      simp only [List.all_cons, List.all_nil, Bool.and_true]
      exact decide_eq_true (by rw [dg_nat h]; omega)
    · rw [dec_big h, List.all_append, ih (n / 10) (by omega)]
      simp only [List.all_cons, List.all_nil, Bool.and_true, Bool.true_and]
      exact decide_eq_true (by rw [dg_nat (by omega)]; omega)
theorem dec_numF (n : Nat) : numF 0 (dec n) = n := by
  induction n using Nat.strongRecOn with
  | ind n ih =>
    by_cases h : n < 10
    · rw [dec_small h, numF_cons, numF_nil, dg_nat h]; omega
    · rw [dec_big h, numF_app, ih (n / 10) (by omega), numF_cons, numF_nil, dg_nat (by omega)]; omega
theorem dec_ne (n : Nat) : dec n ≠ [] := by
  by_cases h : n < 10
  · rw [dec_small h]; simp
  · rw [dec_big h]; simp
theorem dec_head {n : Nat} (h : 0 < n) : (dec n).head? ≠ some 48 := by
  induction n using Nat.strongRecOn with
  | ind n ih =>
    by_cases h1 : n < 10
    · rw [dec_small h1]
      simp only [List.head?_cons, ne_eq, Option.some.injEq]
      intro e
      have := congrArg UInt8.toNat e
      rw [dg_nat h1] at this
      have : (48 : UInt8).toNat = 48 := rfl
      omega
    · rw [dec_big h1]
      have h2 := ih (n / 10) (by omega) (by omega)
      rw [List.head?_append]
      cases e : (dec (n / 10)).head? with
      | none => exact absurd (List.head?_eq_none_iff.1 e) (dec_ne _)
      | some c => rw [e] at h2; simpa using h2
theorem dec_le {k : Nat} : ∀ {n : Nat}, n < 10 ^ (k + 1) → (dec n).length ≤ k + 1 := by
  induction k with
  | zero => intro n h; rw [dec_small (by simpa using h)]; simp
  | succ k ih =>
    intro n h
    by_cases h1 : n < 10
    · rw [dec_small h1]; simp
    · rw [dec_big h1, List.length_append]
      have := ih (n := n / 10) (by rw [Nat.pow_succ] at h; omega)
      simp only [List.length_cons, List.length_nil]
      omega
theorem num_dec {n : Nat} (h : n < 1000000000) : num (dec n) = some n := by
  have h1 : (dec n).length ≤ 9 := dec_le (k := 8) (by simpa using h)
  unfold num
  rw [if_neg, if_pos (dec_all n), dec_numF]
  rintro (e | e | ⟨e, e2⟩)
  · exact dec_ne n e
  · omega
  · by_cases hn : n < 10
    · rw [dec_small hn] at e2; simp at e2
    · exact dec_head (by omega) e
theorem dec_ofR : ∀ (r : List UInt8), r ≠ [] → r.reverse.all isDg = true → ¬ (r.reverse.head? = some 48 ∧ 1 < r.length) → dec (numF 0 r.reverse) = r.reverse
  | [], h, _, _ => absurd rfl h
  | c :: r, _, ha, hz => by
    rw [List.reverse_cons, List.all_append, Bool.and_eq_true] at ha
    have hc : 48 ≤ c.toNat ∧ c.toNat ≤ 57 := by have := ha.2; simp only [List.all_cons, List.all_nil, Bool.and_true] at this; exact of_decide_eq_true this
    have hcv : UInt8.ofNat (48 + (c.toNat - 48)) = c := by rw [show 48 + (c.toNat - 48) = c.toNat by omega]; simp
    rw [List.reverse_cons] at hz ⊢
    rw [numF_app, numF_cons, numF_nil]
    cases r with
    | nil =>
      rw [List.reverse_nil, numF_nil, dec_small (by omega)]
      simp only [Nat.mul_zero, Nat.zero_add, List.nil_append]
      rw [hcv]
    | cons d r =>
      have hne : (d :: r).reverse ≠ [] := by simp
      have hz' : ¬ ((d :: r).reverse.head? = some 48 ∧ 1 < (d :: r).length) := fun h => hz ⟨by rw [List.head?_append, h.1]; rfl, by simp⟩
      have hi := dec_ofR (d :: r) (by simp) ha.1 hz'
      obtain ⟨l, hl⟩ : ∃ l, (d :: r).reverse = l := ⟨_, rfl⟩
      rw [hl] at hi hz hz' hne ⊢
      obtain ⟨m, hm⟩ : ∃ m, numF 0 l = m := ⟨_, rfl⟩
      rw [hm] at hi ⊢
      have hm0 : 0 < m := by
        rcases Nat.eq_zero_or_pos m with e | e
        · rw [e, dec_small (by omega)] at hi
          refine absurd ⟨?_, by simp⟩ hz
          rw [← hi]; rfl
        · exact e
      rw [dec_big (by omega), show (10 * m + (c.toNat - 48)) / 10 = m by omega, show (10 * m + (c.toNat - 48)) % 10 = c.toNat - 48 by omega, hi, hcv]
theorem dec_of (l : List UInt8) (h : l ≠ []) (ha : l.all isDg = true) (hz : ¬ (l.head? = some 48 ∧ 1 < l.length)) : dec (numF 0 l) = l := by
  have := dec_ofR l.reverse (by simpa using h) (by rw [List.reverse_reverse]; exact ha) (by rw [List.reverse_reverse, List.length_reverse]; exact hz)
  rwa [List.reverse_reverse] at this
theorem num_spec {l : List UInt8} {n : Nat} (h : num l = some n) : l = dec n ∧ n < 1000000000 := by
  unfold num at h
  split at h
  · cases h
  · rename_i hc
    split at h
    · rename_i ha
      cases h
      have h9 : l.length ≤ 9 := by
        rcases Nat.lt_or_ge 9 l.length with e | e
        · exact absurd (.inr (.inl e)) hc
        · exact e
      refine ⟨(dec_of l (fun e => hc (.inl e)) ha (fun e => hc (.inr (.inr e)))).symm, ?_⟩
      have h1 := numF_lt l 0 ha
      have h2 : 10 ^ l.length ≤ 10 ^ 9 := Nat.pow_le_pow_right (by omega) h9
      omega
    · cases h
theorem dec_free {n : Nat} {b : UInt8} (h : isDg b = false) : b ∉ dec n := fun e => by
  have := List.all_eq_true.1 (dec_all n) b e
  rw [h] at this; cases this
theorem parseM_all {M : Nat} : ∀ (l : List UInt8) (acc : Nat), l.all isDg = true → numF acc l ≤ M → numF acc l < 1844674407370955162 → Lib.parseUintM M acc l = .ok (numF acc l)
  | [], acc, _, _, _ => rfl
  | c :: r, acc, ha, h1, h2 => by
    simp only [List.all_cons, Bool.and_eq_true] at ha
    have hc := of_decide_eq_true ha.1
    rw [numF_cons] at h1 h2 ⊢
    have hg := numF_ge r (10 * acc + (c.toNat - 48))
    rw [Lib.parseUintM, if_pos hc, if_neg (by omega), if_neg (by omega), show acc * 10 + (c.toNat - 48) = 10 * acc + (c.toNat - 48) by omega]
    exact parseM_all r _ ha.2 h1 h2
theorem parse_dec {B n : Nat} (h : n < 2 ^ (B - 1)) (hn : n < 1000000000) : Lib.parseIntB B (dec n) = .ok (n : Int) := by
  have hB : 2 ^ (B - 1) ≤ 2 ^ B := Nat.pow_le_pow_right (by omega) (by omega)
  have hu : Lib.parseUintB B (dec n) = .ok n := by
    unfold Lib.parseUintB
    rw [if_neg (dec_ne n)]
    have := parseM_all (M := 2 ^ B - 1) (dec n) 0 (dec_all n) (by rw [dec_numF]; omega) (by rw [dec_numF]; omega)
    rw [dec_numF] at this
    exact this
  obtain ⟨c, r, hd⟩ : ∃ c r, dec n = c :: r := by
    cases e : dec n with
    | nil => exact absurd e (dec_ne n)
    | cons c r => exact ⟨c, r, rfl⟩
  have hc : 48 ≤ c.toNat ∧ c.toNat ≤ 57 := of_decide_eq_true (List.all_eq_true.1 (dec_all n) c (by rw [hd]; simp))
  rw [hd] at hu ⊢
  unfold Lib.parseIntB
  simp only
  rw [if_neg (by omega), hu]
  simp only
  rw [if_neg (by omega), if_neg (by omega), if_neg (by omega)]

/-! Lists of words. -/
def mapO {α : Type} (f : List UInt8 → Option α) : List (List UInt8) → Option (List α)
  | [] => some []
  | w :: ws => match f w with
    | none => none
    | some a => match mapO f ws with
      | none => none
      | some L => some (a :: L)
theorem mapO_of {α : Type} {f : List UInt8 → Option α} {g : α → List UInt8} (h : ∀ w a, f w = some a → w = g a) : ∀ {ws : List (List UInt8)} {L : List α}, mapO f ws = some L → ws = L.map g
  | [], L, e => by cases e; rfl
  | w :: ws, L, e => by
    unfold mapO at e
    cases hw : f w with
    | none => rw [hw] at e; cases e
    | some a =>
      rw [hw] at e
      simp only at e
      cases hs : mapO f ws with
      | none => rw [hs] at e; cases e
      | some L' =>
        rw [hs] at e
        cases e
        rw [List.map_cons, ← h w a hw, ← mapO_of h hs]
theorem mapO_map {α : Type} {f : List UInt8 → Option α} {g : α → List UInt8} : ∀ {L : List α}, (∀ a ∈ L, f (g a) = some a) → mapO f (L.map g) = some L
  | [], _ => rfl
  | a :: L, h => by
    rw [List.map_cons, mapO, h a (by simp)]
    simp only
    rw [mapO_map (fun b hb => h b (by simp [hb]))]
/-- The model's way: word by word, strictly; then whether the list is valid. -/
def rdM {α : Type} (f : List UInt8 → Option α) (vld : List α → Bool) (text : List UInt8) : Option (List α) :=
  if text = [] then some [] else match mapO f (spl 32 text) with
    | none => none
    | some L => if vld L = true then some L else none
/-- The program's way: word by word, as the library reads; then whether the list is told so. -/
def rdI {α : Type} (f : List UInt8 → Option α) (tell : List α → List UInt8) (text : List UInt8) : Option (List α) :=
  if text = [] then some [] else match mapO f (spl 32 text) with
    | none => none
    | some L => if tell L = text then some L else none
theorem rd_same {α : Type} {f h : List UInt8 → Option α} {g : α → List UInt8} {vld : List α → Bool} {tell : List α → List UInt8} (h1 : ∀ w a, f w = some a → w = g a) (h2 : ∀ L, vld L = true → ∀ a ∈ L, f (g a) = some a ∧ h (g a) = some a ∧ (32 : UInt8) ∉ g a)
    (h3 : ∀ L, vld L = true → tell L = Lib.join (L.map g) [32]) (h4 : ∀ L, vld L = false → tell L = []) (text : List UInt8) : rdM f vld text = rdI h tell text := by
  unfold rdM rdI
  by_cases ht : text = []
  · rw [if_pos ht, if_pos ht]
  rw [if_neg ht, if_neg ht]
  have key : ∀ L, vld L = true → Lib.join (L.map g) [32] = text → mapO f (spl 32 text) = some L ∧ mapO h (spl 32 text) = some L := fun L hv e => by
    have hL : L.map g ≠ [] := fun e2 => ht (by rw [← e, e2]; rfl)
    have hs : spl 32 text = L.map g := by
      rw [← e]
      refine spl_of_join hL fun w hw => ?_
      obtain ⟨a, ha, rfl⟩ := List.mem_map.1 hw
      exact (h2 L hv a ha).2.2
    rw [hs]
    exact ⟨mapO_map fun a ha => (h2 L hv a ha).1, mapO_map fun a ha => (h2 L hv a ha).2.1⟩
  cases hm : mapO h (spl 32 text) with
  | none =>
    simp only
    cases hf : mapO f (spl 32 text) with
    | none => rfl
    | some L =>
      simp only
      by_cases hv : vld L = true
      · have e := mapO_of h1 hf
        have := (key L hv (by rw [← e, spl_join])).2
        rw [hm] at this; cases this
      · rw [if_neg hv]
  | some L =>
    simp only
    by_cases ht2 : tell L = text
    · rw [if_pos ht2]
      cases hv : vld L with
      | false => exact absurd (by rw [← ht2, h4 L hv]) ht
      | true =>
        rw [h3 L hv] at ht2
        rw [(key L hv ht2).1]
        simp only
        rw [if_pos hv]
    · rw [if_neg ht2]
      cases hf : mapO f (spl 32 text) with
      | none => rfl
      | some L' =>
        simp only
        by_cases hv : vld L' = true
        · have e := mapO_of h1 hf
          have e2 : Lib.join (L'.map g) [32] = text := by rw [← e, spl_join]
          have := (key L' hv e2).2
          rw [hm] at this
          cases this
          exact absurd (by rw [h3 _ hv, e2]) ht2
        · rw [if_neg hv]

/-! Words of two numbers. -/
def pairM (m : UInt8) (ok : Nat → Nat → Bool) (w : List UInt8) : Option (Int × Int) := match spl m w with
  | [x, y] => match num x, num y with
    | some a, some b => if ok a b = true then some ((a : Int), (b : Int)) else none
    | _, _ => none
  | _ => none
def okI (e : Lib.NumEnd Int) : Option Int := match e with
  | .ok v => some v
  | _ => none
def pairI (m : UInt8) (k0 k1 : Int → Int) (w : List UInt8) : Option (Int × Int) := match okI (Lib.parseIntB 64 (Lib.cut w [m]).1), okI (Lib.parseIntB 64 (Lib.cut w [m]).2.1) with
  | some a, some b => some (k0 a, k1 b)
  | _, _ => none
def pairW (m : UInt8) (q : Int × Int) : List UInt8 := dec q.1.toNat ++ [m] ++ dec q.2.toNat
theorem pairM_of {m : UInt8} {ok : Nat → Nat → Bool} {w : List UInt8} {q : Int × Int} (h : pairM m ok w = some q) : w = pairW m q := by
  unfold pairM at h
  have hj := spl_join m w
  split at h
  · rename_i x y hs
    rw [hs] at hj
    split at h
    · rename_i a b ha hb
      split at h
      · cases h
        obtain ⟨rfl, _⟩ := num_spec ha
        obtain ⟨rfl, _⟩ := num_spec hb
        rw [← hj, Lib.join_cons]
        simp [pairW, Lib.joinTail]
      · cases h
    · cases h
  · cases h
theorem pairM_at {m : UInt8} {ok : Nat → Nat → Bool} (hm : isDg m = false) {a b : Nat} (ha : a < 1000000000) (hb : b < 1000000000) (h : ok a b = true) : pairM m ok (pairW m ((a : Int), (b : Int))) = some ((a : Int), (b : Int)) := by
  unfold pairM pairW
  simp only [Int.toNat_natCast]
  rw [List.append_assoc, List.singleton_append, spl_app _ (dec_free hm), spl_free (dec_free hm)]
  simp only [num_dec ha, num_dec hb, h, if_true]
theorem pairI_at {m : UInt8} {k0 k1 : Int → Int} (hm : isDg m = false) {a b : Nat} (ha : a < 1000000000) (hb : b < 1000000000) (h0 : k0 (a : Int) = (a : Int)) (h1 : k1 (b : Int) = (b : Int)) : pairI m k0 k1 (pairW m ((a : Int), (b : Int))) = some ((a : Int), (b : Int)) := by
  unfold pairI pairW
  simp only [Int.toNat_natCast]
  rw [List.append_assoc, List.singleton_append, cut_app _ (dec_free hm)]
  simp only
  rw [parse_dec (B := 64) (by omega) ha, parse_dec (B := 64) (by omega) hb]
  simp only [okI, h0, h1]
theorem pairW_free {m b : UInt8} (hb : isDg b = false) (hm : b ≠ m) (q : Int × Int) : b ∉ pairW m q := by
  unfold pairW
  simp only [List.mem_append, List.mem_singleton, not_or]
  exact ⟨⟨dec_free hb, hm⟩, dec_free hb⟩
end Go.Proofs.YtbclmafplaipaaaDoor
