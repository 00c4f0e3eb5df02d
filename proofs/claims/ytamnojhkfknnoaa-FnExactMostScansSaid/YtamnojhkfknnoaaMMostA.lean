/-
  Texts of a walk, put together.
-/
import Derived.Orders
import Derived.Tactics
import Derived.Test.YtamnojhkfknnoaaFcP
import Derived.Test.YtamnojhkfknnoaaScP
import Derived.Test.YtamnojhkfknnoaaArO
import Derived.Test.YtamnojhkfknnoaaNtC
import Derived.Lib.SliceRun
import Derived.Test.YtamnojhkfknnoaaArQ
import Derived.Sort.QuietTacIn
import Derived.Sort.BigQuietIn
import Derived.RangeFuncCalls
import Derived.KernelRfl
import Derived.Test.YtamnojhkfknnoaaUpK
import Derived.Maps.OwnSet
import Derived.Maps.Views
import Derived.DeepKeys4
import Derived.Test.YtamnojhkfknnoaaKeepO
import Derived.Test.YtamnojhkfknnoaaRScan
import Derived.Test.YtamnojhkfknnoaaNtL
import Derived.Test.YtamnojhkfknnoaaMoA
import Derived.OwnWalkIn
/-
  A region that draws its order, in one walk: each operation yields, in whatever world of a class, a value that is good for something (a relation of its own), given what the operations that it waits for have yielded; behind these a tail may stand, each operation of which waits for all that stand before it.
-/
namespace Go.Proofs.Ytamnojhkfknnoaa
open Go
set_option linter.unusedVariables false

abbrev Rel := Value → World → Prop
def waitsFor (o : Oper) : List Nat := (o.after.toList.filter fun e => Region.binds .any e).map (·.on)
def waitsOf (ops : Array Oper) (i : Nat) : List Nat := match ops[i]? with
  | none => []
  | some o => waitsFor o
def reach (ops : Array Oper) : Nat → Nat → Nat → Bool
  | 0, _, _ => false
  | f + 1, i, j => (waitsOf ops i).contains j || (waitsOf ops i).any (fun k => reach ops f k j)
def noSel (o : Oper) : Bool := match o.op with
  | .select _ _ => false
  | _ => true
theorem noSel_ne {o : Oper} (h : noSel o = true) : ∀ cs b, o.op ≠ .select cs b := by
  intro cs b hc
  unfold noSel at h
  rw [hc] at h
  exact absurd h (by simp)
def relHead (ops : Array Oper) (i : Nat) : Bool := match ops[i]? with
  | none => true
  | some o => o.guard.isNone && noSel o && (waitsFor o).all (fun j => decide (j < i)) &&
      (List.range ops.size).all fun j => match ops[j]? with
        | none => true
        | some p => match p.dst with
          | none => true
          | some d => ((i == j) || (o.dst != some d)) && (!(o.looksAt ops).contains d || (waitsFor o).contains j)
def relTail (ops : Array Oper) (i : Nat) : Bool := (waitsOf ops i).all (fun j => decide (j < i)) && (List.range i).all fun j => reach ops ops.size i j
def relOK (ops : Array Oper) (m : Nat) : Bool := decide (m ≤ ops.size) && (List.range ops.size).all fun i => if i < m then relHead ops i else relTail ops i

section
variable {P : Program} {ops : Array Oper} {C : World → Prop} {St : World → World → Prop} {Q : Exit → Act → World → Prop}

/-- What an operation owes. -/
def relObl (P : Program) (C : World → Prop) (St : World → World → Prop) (R : Rel) (o : Oper) (a : Act) (w : World) : Prop :=
  o.wp P a w (fun a' w' => ∃ v, a' = a.put o.dst v ∧ C w' ∧ St w w' ∧ R v w') (fun _ _ _ => False)
theorem relObl_intro {R : Rel} {o : Oper} {a : Act} {w : World} (h : ∀ K : Act → World → Prop, (∀ a' w', (∃ v, a' = a.put o.dst v ∧ C w' ∧ St w w' ∧ R v w') → K a' w') → o.wp P a w K (fun _ _ _ => False)) : relObl P C St R o a w := h _ (fun _ _ h => h)

/-- The walk in the order of the text. -/
def wpRel (P : Program) (ops : Array Oper) (C : World → Prop) (St : World → World → Prop) (Q : Exit → Act → World → Prop) (tail : List Oper) : List Oper → List Rel → Act → List (World → Prop) → Prop
  | o :: os, R :: Rs, a, E => (∀ v w w', C w → St w w' → R v w → R v w') ∧ (∀ w, C w → (∀ j, (waitsFor o).contains j = true → ∀ e, E[j]? = some e → e w) → relObl P C St R o a w) ∧ ∀ v, wpRel P ops C St Q tail os Rs (a.put o.dst v) (E ++ [R v])
  | _, _, a, E => ∀ w, C w → (∀ (j : Nat) (e : World → Prop), E[j]? = some e → e w) → wpList P ops Q tail a w

def actsL : List Oper → (Nat → Value) → Nat → Act → Act
  | o :: os, vs, i + 1, a => actsL os (fun t => vs (t + 1)) i (a.put o.dst (vs 0))
  | _, _, _, a => a
def envL : List Rel → (Nat → Value) → Nat → List (World → Prop)
  | R :: Rs, vs, i + 1 => R (vs 0) :: envL Rs (fun t => vs (t + 1)) i
  | _, _, _ => []
theorem envL_get (Rs : List Rel) (vs : Nat → Value) (i j : Nat) (e : World → Prop) (h : (envL Rs vs i)[j]? = some e) : j < i ∧ ∃ R, Rs[j]? = some R ∧ e = R (vs j) := by
  induction Rs generalizing vs i j with
  | nil => cases i <;> simp [envL] at h
  | cons R Rs ih =>
    cases i with
    | zero => simp [envL] at h
    | succ i =>
      rw [envL] at h
      cases j with
      | zero => simp at h; exact ⟨by omega, R, rfl, h.symm⟩
      | succ j =>
        simp only [List.getElem?_cons_succ] at h
        obtain ⟨h1, R', h2, h3⟩ := ih _ _ _ h
        exact ⟨by omega, R', by simpa using h2, h3⟩
theorem envL_mem (Rs : List Rel) (vs : Nat → Value) (i : Nat) (e : World → Prop) (h : e ∈ envL Rs vs i) : ∃ j R, j < i ∧ Rs[j]? = some R ∧ e = R (vs j) := by
  obtain ⟨j, hj⟩ := List.getElem?_of_mem h
  obtain ⟨h1, R, h2, h3⟩ := envL_get _ _ _ _ _ hj
  exact ⟨j, R, h1, h2, h3⟩
theorem wpRel_at {tail : List Oper} : ∀ (os : List Oper) (Rs : List Rel) (a : Act) (E : List (World → Prop)), Rs.length = os.length → wpRel P ops C St Q tail os Rs a E → ∀ (vs : Nat → Value) (i : Nat) (o : Oper) (R : Rel), os[i]? = some o → Rs[i]? = some R →
    (∀ v w w', C w → St w w' → R v w → R v w') ∧ ∀ w, C w → (∀ j, (waitsFor o).contains j = true → ∀ e, (E ++ envL Rs vs i)[j]? = some e → e w) → relObl P C St R o (actsL os vs i a) w
  | [], _, _, _, _, _, _, i, _, _, h, _ => by simp at h
  | o :: os, [], _, _, hl, _, _, _, _, _, _, _ => by simp at hl
  | o :: os, R :: Rs, a, E, hl, h, vs, 0, o', R', ho, hR => by
    simp only [List.getElem?_cons_zero, Option.some.injEq] at ho hR
    subst ho; subst hR
    refine ⟨h.1, fun w hw hd => ?_⟩
    simp only [envL, List.append_nil] at hd
    exact h.2.1 w hw hd
  | o :: os, R :: Rs, a, E, hl, h, vs, i + 1, o', R', ho, hR => by
    have h2 := wpRel_at os Rs (a.put o.dst (vs 0)) (E ++ [R (vs 0)]) (by simpa using hl) (h.2.2 (vs 0)) (fun t => vs (t + 1)) i o' R' (by simpa using ho) (by simpa using hR)
    refine ⟨h2.1, fun w hw hd => ?_⟩
    refine h2.2 w hw fun j hj e he => hd j hj e ?_
    rw [List.append_assoc] at he
    exact he
theorem wpRel_end {tail : List Oper} : ∀ (os : List Oper) (Rs : List Rel) (a : Act) (E : List (World → Prop)), Rs.length = os.length → wpRel P ops C St Q tail os Rs a E → ∀ (vs : Nat → Value) (w : World), C w → (∀ (j : Nat) (e : World → Prop), (E ++ envL Rs vs os.length)[j]? = some e → e w) → wpList P ops Q tail (actsL os vs os.length a) w
  | [], _, a, E, hl, h, vs, w, hw, he => by
    unfold wpRel at h
    exact h w hw fun j e h' => he j e (by simpa [envL] using h')
  | o :: os, [], _, _, hl, _, _, _, _, _ => by simp at hl
  | o :: os, R :: Rs, a, E, hl, h, vs, w, hw, he => by
    refine wpRel_end os Rs (a.put o.dst (vs 0)) (E ++ [R (vs 0)]) (by simpa using hl) (h.2.2 (vs 0)) (fun t => vs (t + 1)) w hw fun j e h' => he j e ?_
    rw [List.append_assoc] at h'
    exact h'

/-- The frame with what some of the operations have yielded. -/
def fillL : List Oper → (Nat → Bool) → (Nat → Value) → Act → Act
  | o :: os, f, vs, a => fillL os (fun t => f (t + 1)) (fun t => vs (t + 1)) (if f 0 = true then a.put o.dst (vs 0) else a)
  | [], _, _, a => a
theorem fillL_none (os : List Oper) (vs : Nat → Value) (a : Act) : fillL os (fun _ => false) vs a = a := by
  induction os generalizing vs with
  | nil => rfl
  | cons o os ih => rw [fillL]; exact ih _
theorem fillL_congr (os : List Oper) (f g : Nat → Bool) (vs : Nat → Value) (a : Act) (h : ∀ j, j < os.length → f j = g j) : fillL os f vs a = fillL os g vs a := by
  induction os generalizing f g vs a with
  | nil => rfl
  | cons o os ih =>
    rw [fillL, fillL, h 0 (by simp)]
    exact ih _ _ _ _ fun j hj => h (j + 1) (by simpa using hj)
theorem actsL_fill (os : List Oper) (vs : Nat → Value) (i : Nat) (a : Act) : actsL os vs i a = fillL os (fun j => decide (j < i)) vs a := by
  induction os generalizing vs i a with
  | nil => cases i <;> rfl
  | cons o os ih =>
    cases i with
    | zero =>
      rw [fillL_congr _ _ (fun _ => false) _ _ (fun j _ => by simp), fillL_none]; rfl
    | succ i =>
      rw [actsL, ih, fillL]
      simp
theorem put_size (a : Act) (d : Option Tmp) (v : Value) : (a.put d v).tmps.size = a.tmps.size := by cases d <;> simp [Act.put]
theorem fillL_size (os : List Oper) (f : Nat → Bool) (vs : Nat → Value) (a : Act) : (fillL os f vs a).tmps.size = a.tmps.size := by
  induction os generalizing f vs a with
  | nil => rfl
  | cons o os ih =>
    rw [fillL, ih]
    split
    · exact put_size _ _ _
    · rfl
theorem eval_put_same {a b : Act} {d : Tmp} {v : Value} {x : Operand} (h : a.eval x = b.eval x) (hs : a.tmps.size = b.tmps.size) : (a.put (some d) v).eval x = (b.put (some d) v).eval x := by
  by_cases e : x = .tmp d
  · subst e
    simp [Act.put, Act.eval, Array.getElem?_setIfInBounds, hs]
  · rw [Act.eval_put (fun d' h' => by cases h'; exact e), Act.eval_put (fun d' h' => by cases h'; exact e), h]
theorem fillL_eval (x : Operand) (os : List Oper) (f g : Nat → Bool) (vs : Nat → Value) (a b : Act) (h : a.eval x = b.eval x) (hs : a.tmps.size = b.tmps.size) (hd : ∀ (j : Nat) (o : Oper) (d : Tmp), os[j]? = some o → o.dst = some d → x = .tmp d → f j = g j) : (fillL os f vs a).eval x = (fillL os g vs b).eval x := by
  induction os generalizing f g vs a b with
  | nil => exact h
  | cons o os ih =>
    rw [fillL, fillL]
    refine ih _ _ _ _ _ ?_ ?_ fun j o' d ho hd' hx => hd (j + 1) o' d (by simpa using ho) hd' hx
    · cases hdst : o.dst with
      | none => split <;> split <;> exact h
      | some d =>
        by_cases e : x = .tmp d
        · have := hd 0 o d (by simp) hdst e
          rw [this]
          split
          · exact eval_put_same h hs
          · exact h
        · have hp : ∀ (c : Act) (v : Value), (c.put (some d) v).eval x = c.eval x := fun c v => Act.eval_put (fun d' h' => by cases h'; exact e)
          split <;> split <;> first | exact h | (simp only [hp]; exact h)
    · split <;> split <;> first | exact hs | (simp only [put_size]; exact hs)
theorem fillL_put (os : List Oper) (f : Nat → Bool) (vs : Nat → Value) (a : Act) (d : Option Tmp) (v : Value) (h : ∀ o ∈ os, ∀ t, o.dst = some t → d ≠ some t) : fillL os f vs (a.put d v) = (fillL os f vs a).put d v := by
  induction os generalizing f vs a with
  | nil => rfl
  | cons o os ih =>
    rw [fillL, fillL, ← ih _ _ _ (fun o' ho' => h o' (by simp [ho']))]
    split
    · rw [Act.put_comm _ _ _ (fun t ht => by
        intro e
        exact h o (by simp) t e (by rw [ht]))]
    · rfl
theorem fillL_set (os : List Oper) (f g : Nat → Bool) (vs : Nat → Value) (a : Act) (i : Nat) (o : Oper) (v : Value) (ho : os[i]? = some o) (hf : f i = false) (hg : g i = true) (hfg : ∀ j, j ≠ i → g j = f j) (hdis : ∀ (j : Nat) (p : Oper) (t : Tmp), os[j]? = some p → j ≠ i → p.dst = some t → o.dst ≠ some t) :
    fillL os g (fun t => if t = i then v else vs t) a = (fillL os f vs a).put o.dst v := by
  induction os generalizing f g vs a i with
  | nil => simp at ho
  | cons p os ih =>
    cases i with
    | zero =>
      simp only [List.getElem?_cons_zero, Option.some.injEq] at ho
      subst ho
      rw [fillL, fillL, hf, hg]
      simp only [if_true, Bool.false_eq_true, if_false]
      rw [← fillL_put os _ _ a p.dst v (fun o' ho' t ht => by
        obtain ⟨j, hj⟩ := List.getElem?_of_mem ho'
        exact hdis (j + 1) o' t (by simpa using hj) (by omega) ht)]
      have e1 : (fun t => if t + 1 = 0 then v else vs (t + 1)) = fun t => vs (t + 1) := by funext t; simp
      rw [e1]
      exact fillL_congr _ _ _ _ _ fun j _ => hfg (j + 1) (by omega)
    | succ i =>
      rw [fillL, fillL, hfg 0 (by omega)]
      have e1 : (fun t => if t + 1 = i + 1 then v else vs (t + 1)) = fun t => if t = i then v else (fun t => vs (t + 1)) t := by funext t; simp
      rw [e1]
      have e2 : (if (0 : Nat) = i + 1 then v else vs 0) = vs 0 := by simp
      rw [e2]
      exact ih (fun t => f (t + 1)) (fun t => g (t + 1)) (fun t => vs (t + 1)) _ i (by simpa using ho) hf hg (fun j hj => hfg (j + 1) (by omega)) (fun j p t hp hj => hdis (j + 1) p t (by simpa using hp) (by omega))

theorem put_same {a b : Act} (hs : a.tmps.size = b.tmps.size) {d : Option Tmp} {u v : Value} (h : b.put d u = b.put d v) : a.put d u = a.put d v := by
  cases d with
  | none => rfl
  | some t =>
    by_cases ht : t < b.tmps.size
    · have e : (b.put (some t) u).tmps[t]? = (b.put (some t) v).tmps[t]? := by rw [h]
      simp [Act.put, ht] at e
      rw [e]
    · have h1 : b.tmps.size ≤ t := Nat.le_of_not_lt ht
      have h2 : a.tmps.size ≤ t := by rw [hs]; exact h1
      simp only [Act.put]
      rw [Array.setIfInBounds_eq_of_size_le h2, Array.setIfInBounds_eq_of_size_le h2]
/-- What an operation owes at one frame it pays at another one that reads the same. -/
theorem oper_other {R : Value → World → Prop} {o : Oper} {a b : Act} {w : World} (he : execOp a.eval o = execOp b.eval o) (hs : a.tmps.size = b.tmps.size)
    (h : o.wp P b w (fun b' w' => ∃ v, b' = b.put o.dst v ∧ R v w') (fun _ _ _ => False)) : o.wp P a w (fun a' w' => ∃ v, a' = a.put o.dst v ∧ R v w') Q := by
  unfold Oper.wp at *
  rw [he]
  generalize (execOp b.eval o).run P w = r at *
  cases r with
  | ok n w' =>
    cases n <;> simp only [Oper.upon] at h ⊢
    case value v => obtain ⟨u, e, hr⟩ := h; exact ⟨u, put_same hs e, hr⟩
    case skip => obtain ⟨u, e, hr⟩ := h; exact ⟨u, put_same hs e, hr⟩
    case defer d =>
      obtain ⟨u, e, _⟩ := h
      generalize o.dst = dd at e
      have e2 := congrArg Act.defers e
      cases dd <;> simp [Act.put] at e2
    case enter f args =>
      refine Calls.mono h fun e w'' he => ?_
      cases e with
      | returned v => obtain ⟨u, e, hr⟩ := he; exact ⟨u, put_same hs e, hr⟩
      | panicked c => exact he.elim
      | outgrown => unfold LetsOut at *; exact absurd he (by simp)
    case row row args =>
      exact Rows.mono h fun v w'' he => by obtain ⟨u, e, hr⟩ := he; exact ⟨u, put_same hs e, hr⟩
  | halt x w' => cases x <;> simp only [Oper.upon] at h

theorem waitsOf_some {i : Nat} {o : Oper} (ho : ops[i]? = some o) : waitsOf ops i = waitsFor o := by unfold waitsOf; rw [ho]
theorem mem_waits {o : Oper} {e : Edge} (he : e ∈ o.after) (hb : Region.binds .any e = true) : e.on ∈ waitsFor o :=
  List.mem_map.2 ⟨e, List.mem_filter.2 ⟨Array.mem_toList_iff.2 he, hb⟩, rfl⟩
theorem of_waits {o : Oper} {j : Nat} (h : j ∈ waitsFor o) : ∃ e ∈ o.after, Region.binds .any e = true ∧ e.on = j := by
  obtain ⟨e, he, rfl⟩ := List.mem_map.1 h
  obtain ⟨h1, h2⟩ := List.mem_filter.1 he
  exact ⟨e, Array.mem_toList_iff.1 h1, h2, rfl⟩
theorem relHead_spec {i : Nat} {o : Oper} (ho : ops[i]? = some o) (h : relHead ops i = true) :
    o.guard = none ∧ noSel o = true ∧ (∀ j ∈ waitsFor o, j < i) ∧ ∀ (j : Nat) (p : Oper) (d : Tmp), ops[j]? = some p → p.dst = some d → (i ≠ j → o.dst ≠ some d) ∧ (d ∈ o.looksAt ops → j ∈ waitsFor o) := by
  unfold relHead at h
  rw [ho] at h
  simp only [Bool.and_eq_true] at h
  obtain ⟨⟨⟨h1, h2⟩, h3⟩, h4⟩ := h
  refine ⟨by simpa using h1, h2, fun j hj => by simpa using (List.all_eq_true.1 h3) j hj, fun j p d hp hd => ?_⟩
  have h5 := (List.all_eq_true.1 h4) j (List.mem_range.2 (Array.getElem?_eq_some_iff.1 hp).1)
  simp only [hp, hd, Bool.and_eq_true, Bool.or_eq_true, beq_iff_eq, bne_iff_ne, Bool.not_eq_true', List.contains_eq_mem, decide_eq_false_iff_not, decide_eq_true_eq] at h5
  exact ⟨fun hij => h5.1.resolve_left hij, fun hm => h5.2.resolve_left (fun hn => hn hm)⟩
theorem reach_listed {L : Nat → Prop} (hc : ∀ j, L j → ∀ k ∈ waitsOf ops j, L k) : ∀ (f i j : Nat), (∀ k ∈ waitsOf ops i, L k) → reach ops f i j = true → L j
  | 0, _, _, _, h => by simp [reach] at h
  | f + 1, i, j, hi, h => by
    simp only [reach, Bool.or_eq_true, List.contains_eq_mem, decide_eq_true_eq, List.any_eq_true] at h
    rcases h with h | ⟨k, hk, h⟩
    · exact hi j h
    · exact reach_listed hc f k j (hc k (hi k hk)) h
theorem countP_upd {p q : Nat → Bool} {i : Nat} (hp : p i = false) (hq : q i = true) (h : ∀ j, j ≠ i → q j = p j) : ∀ l : List Nat, l.Nodup → i ∈ l → l.countP q = l.countP p + 1
  | [], _, hm => by simp at hm
  | x :: xs, hn, hm => by
    rw [List.nodup_cons] at hn
    rw [List.countP_cons, List.countP_cons]
    by_cases e : x = i
    · subst e
      have : xs.countP q = xs.countP p := List.countP_congr fun j hj => by
        rw [h j (fun e => hn.1 (e ▸ hj))]
      rw [this, hp, hq]; simp
    · have := countP_upd hp hq h xs hn.2 ((List.mem_cons.1 hm).resolve_left (Ne.symm e))
      rw [this, h x e]; omega
theorem countP_lt (m n : Nat) : (List.range n).countP (fun j => decide (j < m)) ≤ m ∧ (List.range n).countP (fun j => decide (j < m)) ≤ n := by
  induction n with
  | zero => simp
  | succ n ih =>
    rw [List.range_succ, List.countP_append, List.countP_singleton]
    by_cases h : n < m
    · rw [if_pos (by simpa using h)]; omega
    · rw [if_neg (by simpa using h)]; omega
theorem getD_tt {l : Array Bool} {j : Nat} (h : l.getD j false = true) : l.getD j true = true := by
  by_cases hj : j < l.size
  · simp [hj] at h ⊢; exact h
  · simp [hj] at h
theorem getD_ff {l : Array Bool} {j : Nat} (hj : j < l.size) (h : ¬ l.getD j false = true) : l.getD j true = false := by
  simp [hj] at h ⊢; exact h
theorem getD_tf {l : Array Bool} {j : Nat} (h : l.getD j true = false) : ¬ l.getD j false = true := fun e => by
  have := getD_tt e; rw [h] at this; cases this
theorem tail_any {m : Nat} (hT : ∀ i, m ≤ i → i < ops.size → relTail ops i = true) (hH : ∀ i o, i < m → ops[i]? = some o → ∀ j ∈ waitsFor o, j < i) : ∀ (l : List Oper) (t fuel : Nat) (listed : Array Bool) (a : Act) (w : World), l = ops.toList.drop t → m ≤ t → listed.size = ops.size →
    (∀ j, j < t → j < ops.size → listed.getD j false = true) → (∀ j, t ≤ j → j < ops.size → listed.getD j true = false) → l.length ≤ fuel → wpList P ops Q l a w → wpAny P .any ops Q fuel listed a w
  | [], t, fuel, listed, a, w, hl, hmt, hsz, h1, h2, hf, h => by
    have hlen : ops.size ≤ t := by
      have : (ops.toList.drop t).length = 0 := by rw [← hl]; rfl
      simp at this; omega
    have hr : Region.ready .any ops listed = [] := by
      refine List.eq_nil_iff_forall_not_mem.2 fun i hi => ?_
      obtain ⟨g1, o, ho, _⟩ := mem_ready.1 hi
      have hlt := (Array.getElem?_eq_some_iff.1 ho).1
      exact getD_tf g1 (h1 i (by omega) hlt)
    cases fuel with
    | zero => exact ⟨hr, h⟩
    | succ f => exact ⟨fun _ => h, fun i hi => by rw [hr] at hi; cases hi⟩
  | o :: rest, t, fuel, listed, a, w, hl, hmt, hsz, h1, h2, hf, h => by
    have ho : ops[t]? = some o := by
      have : (ops.toList.drop t)[0]? = some o := by rw [← hl]; rfl
      simpa using this
    have hlt := (Array.getElem?_eq_some_iff.1 ho).1
    have hwl : ∀ j p, ops[j]? = some p → ∀ k ∈ waitsFor p, k < j := fun j p hp k hk => by
      by_cases hj : j < m
      · exact hH j p hj hp k hk
      · have := hT j (by omega) (Array.getElem?_eq_some_iff.1 hp).1
        unfold relTail at this
        rw [waitsOf_some hp, Bool.and_eq_true] at this
        simpa using (List.all_eq_true.1 this.1) k hk
    have hL : ∀ j, listed.getD j false = true → j < t := fun j hj => by
      by_cases hjs : j < ops.size
      · by_cases hjt : j < t
        · exact hjt
        · exact absurd hj (getD_tf (h2 j (by omega) hjs))
      · have : listed.getD j false = false := by simp [show ¬ j < listed.size by omega]
        rw [this] at hj; cases hj
    cases fuel with
    | zero => simp at hf
    | succ f =>
      have hone : ∀ i ∈ Region.ready .any ops listed, i = t := fun i hi => by
        obtain ⟨g1, p, hp, g2⟩ := mem_ready.1 hi
        have hip := (Array.getElem?_eq_some_iff.1 hp).1
        by_cases hit : i < t
        · exact absurd (h1 i hit hip) (getD_tf g1)
        · by_cases e : i = t
          · exact e
          · have h3 := hT i (by omega) hip
            unfold relTail at h3
            rw [Bool.and_eq_true] at h3
            have h4 := (List.all_eq_true.1 h3.2) t (List.mem_range.2 (by omega))
            have h5 : listed.getD t false = true := reach_listed (L := fun j => listed.getD j false = true) (fun j hj k hk => by
              have hjt := hL j hj
              have hj' : ops[j]? = some ops[j] := Array.getElem?_eq_getElem (by omega)
              rw [waitsOf_some hj'] at hk
              have := hwl j _ hj' k hk
              exact h1 k (by omega) (by omega)) ops.size i t (fun k hk => by
              rw [waitsOf_some hp] at hk
              obtain ⟨e, he, hb, rfl⟩ := of_waits hk
              exact g2 e he hb) h4
            exact absurd h5 (getD_tf (h2 t (Nat.le_refl _) hlt))
      refine ⟨fun hr => ?_, fun i hi => ?_⟩
      · have : t ∈ Region.ready .any ops listed := mem_ready.2 ⟨h2 t (Nat.le_refl _) hlt, o, ho, fun e he hb => by
          have := hwl t o ho e.on (mem_waits he hb)
          exact h1 _ this (by omega)⟩
        rw [hr] at this; cases this
      · have e := hone i hi
        subst e
        have hstep : wpOp P ops Q i (wpList P ops Q rest) a w := by unfold wpOp; simp only [ho]; exact h
        refine wpOp_mono (fun a' w' h' => tail_any hT hH rest (i + 1) f _ a' w' ?_ (by omega) (by simpa using hsz) (fun j hj hjs => ?_) (fun j hj hjs => ?_) (by simp at hf; omega) h') hstep
        · have : ops.toList.drop (i + 1) = (ops.toList.drop i).drop 1 := by rw [List.drop_drop]
          rw [this, ← hl]; rfl
        · by_cases e : i = j
          · subst e; simp [show i < listed.size by omega]
          · rw [getD_set_ne false e]; exact h1 j (by omega) hjs
        · rw [getD_set_ne true (by omega)]; exact h2 j (by omega) hjs

theorem rel_any {m : Nat} (hm : m ≤ ops.size) (hT : ∀ i, m ≤ i → i < ops.size → relTail ops i = true) (hR : ∀ i, i < m → relHead ops i = true) {Rs : List Rel} (hl : Rs.length = m) {a0 : Act}
    (hw : wpRel P ops C St Q (ops.toList.drop m) (ops.toList.take m) Rs a0 []) : ∀ (fuel : Nat) (listed : Array Bool) (a : Act) (w : World) (vs : Nat → Value), listed.size = ops.size →
    ops.size ≤ (List.range ops.size).countP (fun j => listed.getD j false) + fuel → (∀ j, m ≤ j → j < ops.size → listed.getD j true = false) → (∀ j, listed.getD j false = true → ∀ k ∈ waitsOf ops j, listed.getD k false = true) → C w →
    (∀ j R, listed.getD j false = true → Rs[j]? = some R → R (vs j) w) → a = fillL (ops.toList.take m) (fun j => listed.getD j false) vs a0 → wpAny P .any ops Q fuel listed a w := by
  have htl : (ops.toList.take m).length = m := by simp; omega
  have hH : ∀ i o, i < m → ops[i]? = some o → ∀ j ∈ waitsFor o, j < i := fun i o hi ho => (relHead_spec ho (hR i hi)).2.2.1
  have htk : ∀ i o, i < m → ops[i]? = some o → (ops.toList.take m)[i]? = some o := fun i o hi ho => by
    rw [List.getElem?_take]; simp [hi, ho]
  have hkt : ∀ (i : Nat) (o : Oper), (ops.toList.take m)[i]? = some o → ops[i]? = some o := fun i o h => by
    rw [List.getElem?_take] at h
    split at h
    · simpa using h
    · cases h
  intro fuel
  induction fuel with
  | zero =>
    intro listed a w vs hsz hcnt htail hcl hC hf ha
    have h1 := List.countP_le_length (p := fun j => listed.getD j false) (l := List.range ops.size)
    rw [List.length_range] at h1
    have hall := List.countP_eq_length.1 (show (List.range ops.size).countP (fun j => listed.getD j false) = (List.range ops.size).length by rw [List.length_range]; omega)
    have hmn : m = ops.size := by
      by_cases e : m = ops.size
      · exact e
      · have h2 := hall m (List.mem_range.2 (by omega))
        exact absurd h2 (getD_tf (htail m (Nat.le_refl _) (by omega)))
    refine tail_any hT hH _ m 0 listed a w rfl (Nat.le_refl _) hsz (fun j hj hjs => hall j (List.mem_range.2 hjs)) htail (by simp; omega) ?_
    have h3 := wpRel_end _ Rs a0 [] (by rw [htl, hl]) hw vs w hC (fun j e he => by
      simp only [List.nil_append] at he
      obtain ⟨h4, R, h5, rfl⟩ := envL_get _ _ _ _ _ he
      rw [htl] at h4
      exact hf j R (hall j (List.mem_range.2 (by omega))) h5)
    rw [actsL_fill, htl] at h3
    rw [ha, fillL_congr _ _ (fun j => decide (j < m)) _ _ (fun j hj => by
      rw [htl] at hj
      rw [hall j (List.mem_range.2 (by omega))]; simp [hj])]
    exact h3
  | succ fuel ih =>
    intro listed a w vs hsz hcnt htail hcl hC hf ha
    by_cases hall : ∀ j, j < m → listed.getD j false = true
    · have hc1 : (List.range ops.size).countP (fun j => listed.getD j false) ≤ m := by
        refine Nat.le_trans (List.countP_mono_left fun j hj hjl => ?_) (countP_lt m ops.size).1
        simp only [decide_eq_true_eq]
        by_cases e : j < m
        · exact e
        · exact absurd hjl (getD_tf (htail j (by omega) (List.mem_range.1 hj)))
      refine tail_any hT hH _ m _ listed a w rfl (Nat.le_refl _) hsz (fun j hj hjs => hall j hj) htail (by simp; omega) ?_
      have h3 := wpRel_end _ Rs a0 [] (by rw [htl, hl]) hw vs w hC (fun j e he => by
        simp only [List.nil_append] at he
        obtain ⟨h4, R, h5, rfl⟩ := envL_get _ _ _ _ _ he
        rw [htl] at h4
        exact hf j R (hall j h4) h5)
      rw [actsL_fill, htl] at h3
      rw [ha, fillL_congr _ _ (fun j => decide (j < m)) _ _ (fun j hj => by
        rw [htl] at hj
        rw [hall j hj]; simp [hj])]
      exact h3
    · refine ⟨fun hr => ?_, fun i hi => ?_⟩
      · refine absurd (fun j => ?_) hall
        induction j using Nat.strongRecOn with
        | ind j ihj =>
          intro hj
          refine Classical.byContradiction fun hn => ?_
          have hjo : ops[j]? = some ops[j] := Array.getElem?_eq_getElem (by omega)
          have : j ∈ Region.ready .any ops listed := mem_ready.2 ⟨getD_ff (by omega) hn, _, hjo, fun e he hb => by
            have h1 := hH j _ hj hjo e.on (mem_waits he hb)
            exact ihj _ h1 (by omega)⟩
          rw [hr] at this; cases this
      · obtain ⟨g1, o, ho, g2⟩ := mem_ready.1 hi
        have hin := (Array.getElem?_eq_some_iff.1 ho).1
        have hwl : ∀ k ∈ waitsFor o, listed.getD k false = true := fun k hk => by
          obtain ⟨e, he, hb, rfl⟩ := of_waits hk
          exact g2 e he hb
        by_cases him : i < m
        · obtain ⟨hg, hns, hwi, hds⟩ := relHead_spec ho (hR i him)
          have hRi : Rs[i]? = some (Rs[i]'(by omega)) := List.getElem?_eq_getElem (by omega)
          obtain ⟨R, hRe⟩ : ∃ R, Rs[i]'(by omega) = R := ⟨_, rfl⟩
          rw [hRe] at hRi
          obtain ⟨_, hob⟩ := wpRel_at _ Rs a0 [] (by rw [htl, hl]) hw vs i o R (htk i o him ho) hRi
          have h1 := hob w hC (fun j hj e he => by
            simp only [List.nil_append] at he
            obtain ⟨_, R', h5, rfl⟩ := envL_get _ _ _ _ _ he
            exact hf j R' (hwl j (by simpa using hj)) h5)
          have hev : execOp a.eval o = execOp (actsL (ops.toList.take m) vs i a0).eval o := execOp_congr o (noSel_ne hns) fun x hx => by
            rw [ha, actsL_fill]
            refine fillL_eval x _ _ _ _ _ _ rfl rfl fun j p d hp hd hxd => ?_
            have hw' := (hds j p d (hkt _ _ hp) hd).2 (by
              subst hxd
              exact List.mem_append_left _ (List.mem_filterMap.2 ⟨.tmp d, by simpa using hx, rfl⟩))
            rw [hwl j hw']; simp [hwi j hw']
          have hsz2 : a.tmps.size = (actsL (ops.toList.take m) vs i a0).tmps.size := by rw [ha, actsL_fill, fillL_size, fillL_size]
          have h2 : o.wp P a w (fun a' w' => ∃ v, a' = a.put o.dst v ∧ (C w' ∧ St w w' ∧ R v w')) Q := oper_other hev hsz2 h1
          unfold wpOp
          simp only [ho]
          rw [if_pos (by simp [Region.wanted, hg])]
          refine .inl (Oper.wp_mono (fun a' w' h' => ?_) h2)
          obtain ⟨v, rfl, hC', hSt, hRv⟩ := h'
          refine ih _ _ w' (fun t => if t = i then v else vs t) (by simpa using hsz) ?_ (fun j hj hjs => ?_) (fun j hj k hk => ?_) hC' (fun j R' hj hRj => ?_) ?_
          · have := countP_upd (p := fun j => listed.getD j false) (q := fun j => (listed.setIfInBounds i true).getD j false) (i := i) (by
                have := getD_tf g1; simpa using this) (by simp [show i < listed.size by omega]) (fun j hj => getD_set_ne false (Ne.symm hj)) (List.range ops.size) List.nodup_range (List.mem_range.2 hin)
            omega
          · rw [getD_set_ne true (by omega)]; exact htail j hj hjs
          · refine getD_set_true ?_
            by_cases e : i = j
            · subst e; rw [waitsOf_some ho] at hk; exact hwl k hk
            · rw [getD_set_ne false e] at hj; exact hcl j hj k hk
          · by_cases e : j = i
            · subst e
              rw [hRi] at hRj
              cases hRj
              simpa using hRv
            · rw [getD_set_ne false (Ne.symm e)] at hj
              simp only [e, if_false]
              have hjm : j < m := by
                by_cases h : j < m
                · exact h
                · have : Rs[j]? = none := List.getElem?_eq_none (by omega)
                  rw [this] at hRj; cases hRj
              have hjo : ops[j]? = some ops[j] := Array.getElem?_eq_getElem (by omega)
              obtain ⟨hst, _⟩ := wpRel_at _ Rs a0 [] (by rw [htl, hl]) hw vs j _ R' (htk j _ hjm hjo) hRj
              exact hst _ _ _ hC hSt (hf j R' hj hRj)
          · rw [ha]
            refine (fillL_set _ (fun j => listed.getD j false) _ vs a0 i o v (htk i o him ho) (by have := getD_tf g1; simpa using this) (by simp [show i < listed.size by omega]) (fun j hj => getD_set_ne false (Ne.symm hj)) (fun j p t hp hj ht => ?_)).symm
            exact (hds j p t (hkt _ _ hp) ht).1 (Ne.symm hj)
        · refine absurd (fun j hj => ?_) hall
          have h3 := hT i (by omega) hin
          unfold relTail at h3
          rw [Bool.and_eq_true] at h3
          exact reach_listed (L := fun j => listed.getD j false = true) hcl ops.size i j (fun k hk => by rw [waitsOf_some ho] at hk; exact hwl k hk) ((List.all_eq_true.1 h3.2) j (List.mem_range.2 (by omega)))

/-- **One walk, whatever the order.** -/
theorem wp_region_rel (m : Nat) (Rs : List Rel) {id : Nat} {a : Act} {w : World} (hm : P.follows .mixedOrders = true) (hB : relOK ops m = true) (hl : Rs.length = m) (hC : C w.drew)
    (h : wpRel P ops C St Q (ops.toList.drop m) (ops.toList.take m) Rs a []) : (Code.region id ops true).wp P Q a w := by
  unfold relOK at hB
  rw [Bool.and_eq_true] at hB
  have hm1 : m ≤ ops.size := by simpa using hB.1
  have hall := List.all_eq_true.1 hB.2
  refine wp_region_any hm (rel_any (C := C) (St := St) hm1 (fun i h1 h2 => ?_) (fun i hi => ?_) hl h ops.size _ a _ (fun _ => undef) (by simp) (by omega) (fun j hj hjs => by simp [hjs]) (fun j hj => ?_) hC (fun j R hj => ?_) ?_)
  · have := hall i (List.mem_range.2 h2)
    rwa [if_neg (by omega)] at this
  · have := hall i (List.mem_range.2 (by omega))
    rwa [if_pos hi] at this
  · by_cases hjs : j < ops.size
    · simp [hjs] at hj
    · simp [hjs] at hj
  · by_cases hjs : j < ops.size
    · simp [hjs] at hj
    · simp [hjs] at hj
  · rw [fillL_congr _ _ (fun _ => false) _ _ (fun j hj => by
      by_cases hjs : j < ops.size
      · simp [hjs]
      · simp [hjs]), fillL_none]
theorem wpRel_cons {tail : List Oper} {o : Oper} {os : List Oper} {R : Rel} {Rs : List Rel} {a : Act} {E : List (World → Prop)} (h1 : ∀ v w w', C w → St w w' → R v w → R v w') (h2 : ∀ w, C w → (∀ j, (waitsFor o).contains j = true → ∀ e, E[j]? = some e → e w) → relObl P C St R o a w)
    (h3 : ∀ v, wpRel P ops C St Q tail os Rs (a.put o.dst v) (E ++ [R v])) : wpRel P ops C St Q tail (o :: os) (R :: Rs) a E := ⟨h1, h2, h3⟩
theorem wpRel_nil {tail : List Oper} {a : Act} {E : List (World → Prop)} (h : ∀ w, C w → (∀ (j : Nat) (e : World → Prop), E[j]? = some e → e w) → wpList P ops Q tail a w) : wpRel P ops C St Q tail [] [] a E := by
  unfold wpRel; exact h
theorem wp_region_relL (C : World → Prop) (St : World → World → Prop) (m : Nat) (Rs : List Rel) {l : List Oper} {id : Nat} {a : Act} {w : World} (hm : P.follows .mixedOrders = true) (hB : relOK l.toArray m = true) (hl : Rs.length = m) (hC : C w.drew)
    (h : wpRel P l.toArray C St Q (l.drop m) (l.take m) Rs a []) : (Code.region id l.toArray true).wp P Q a w := wp_region_rel m Rs hm hB hl hC h
end
end Go.Proofs.Ytamnojhkfknnoaa
/-
  An append of a view to an empty row that has no room: what lay there stays.
-/
namespace Go.Proofs.Ytamnojhkfknnoaa
open Go Go.RowKit
set_option linter.unusedVariables false

theorem run_append_none {w : World} (ty : TypeId) (B : Nat) (ad : Addr) (c : Nat) : (Builtin.append_ #[37, 37] ty #[.slice (some ⟨B, 0, none⟩) 0 0, .slice (some ad) 0 c]).run Try.prog w = .ok (.slice (some ⟨B, 0, none⟩) 0 0) w := by
  obtain ⟨i0, hi, hz0, hz1, hz2⟩ := info_parts infoC_Sc
  have hu := Try.underlying37
  have hf := run_firstCells_some (P := Try.prog) w 2 0 ad 0 c [] (by simp) (by simp)
  simp [Builtin.append_, run_underlying hu, sizeOf, typeInfo, hi, hz1, Builtin.lenOf, hf, storeCells]

/-- Behind it what lay there is as it was, and the answer is a row of the call's own. -/
theorem wp_append_empty {o : Oper} {a : Act} {W : World} {K : Act → World → Prop} {Q : Exit → Act → World → Prop} (s x : Operand)
    (ho : o.op = .call { callee := .builtin .append, args := #[s, x], argTypes := #[37, 37] }) (base B : Nat) (u : Value) (ys : List (Int × Int)) (hes : a.eval s = .slice (some ⟨B, 0, none⟩) 0 0) (hex : a.eval x = u)
    (hview : ViewSc W u ys) (hy : ys.length ≤ 1000) (hB : base ≤ B) (hblk : BlkA W B 49 #[])
    (h : ∀ v' W', OwnSc 49 base W' v' ys → Below W.heap.size W W' → K (a.put o.dst v') W') : o.wp Try.prog a W K Q := by
  obtain ⟨i0, hi, hz0, hz1, hz2⟩ := info_parts infoC_Sc
  obtain ⟨ad, c, rfl, hc⟩ := hview
  by_cases h0 : ys = []
  · subst h0
    have hr := run_append_none (w := W) o.type B ad c
    unfold Oper.wp execOp
    simp only [ho, resolve, invoke, builtin, Sem.run_bind, Sem.run_pure, Result.andThen_ok, List.map_toArray, List.map_cons, List.map_nil, hes, hex, List.length_nil, hr]
    exact h _ _ ⟨by simp [flatSc, flatE], .inr ⟨B, 0, #[], rfl, hB, hblk, Nat.le_refl _, Nat.zero_le _, rfl, by simp [flatSc, flatE]⟩⟩ (Below.refl _ _)
  · have hp : 0 < ys.length := List.length_pos_iff.2 h0
    have hfit : Builtin.nextslicecap (0 + ys.length) 0 * i0.bytes ≤ 281474976710656 := by rw [Nat.zero_add, nextslicecap_zero hp, hz2]; omega
    have hr := run_append_grow (P := Try.prog) (w := W) 37 o.type 49 i0 (.agg #[.int .i8 0, .int .i16 0]) Try.underlying37 hi hz0 ⟨B, 0, none⟩ 0 0 [] (by simp) (by simp) ad ys.length c (flatSc ys) (by rw [hz1]; exact flatSc_length ys) hc (by omega) (by omega) hfit
    unfold Oper.wp execOp
    simp only [ho, resolve, invoke, builtin, Sem.run_bind, Sem.run_pure, Result.andThen_ok, List.map_toArray, List.map_cons, List.map_nil, hes, hex, hr]
    have hcg := grownCap_ge W (0 + ys.length) 0 49
    have hcm := grownCap_le_maxLen W (0 + ys.length) 0 49 (by unfold maxLen; omega)
    obtain ⟨cp, hcp⟩ : ∃ cp, grownCap W (0 + ys.length) 0 49 = cp := ⟨_, rfl⟩
    rw [hcp] at hcg hcm ⊢
    rw [Nat.zero_add] at hcg ⊢
    have hBw : base ≤ W.heap.size := Nat.le_trans hB (Nat.le_of_lt (BlkA.lt hblk))
    refine h _ _ ⟨flatSc_length ys, .inr ⟨W.heap.size, cp, _, rfl, hBw, heap_alloc_new W.drew _, hcg, hcm, ?_, ?_⟩⟩ ((Below.refl _ _).drew.alloc (Nat.le_refl _) _)
    · have hz4 : (Value.agg #[Value.int .i8 0, .int .i16 0]).cells.size = 2 := rfl
      simp [Builtin.zeroCells, flatSc_length, hz4]; omega
    · simp [flatSc_length]
end Go.Proofs.Ytamnojhkfknnoaa
/-
  The model's code of scans, and its first scan that cannot be.
-/
namespace Go.Proofs.Ytamnojhkfknnoaa
open Go Go.RowKit
set_option linter.unusedVariables false

set_option maxHeartbeats 4000000 in
set_option maxRecDepth 100000 in
theorem sscans_any (B : Nat) (st sy : Int) (v : Value) (ps : List Lan) (u : Value) (cs : List (Int × Int)) (fine : Bool) (w : World) (hn : FitN st sy ps) (hv : ReadsLa w v ps) (hu : ReadsSc w u cs) (hf : FitsSc cs) (hx : cs.length ≤ 1048576) (hb : BlkA w B 35 (netB st sy v)) :
    Calls Try.prog 22 #[.pointer (some ⟨B, 0, none⟩), u, .bool fine] w fun e w' => e = .returned (.int .i64 (scnC st sy ps (fine && scsB st cs) cs.length)) ∧ Below w.heap.size w w' := by
  have HBX := Lib.hid hb
  have HV := Lib.hid hv
  have HN := Lib.hid hn
  have HST := Lib.hid hn.s
  have HF := Lib.hid hf
  obtain ⟨a, cap, rfl, ha⟩ := hu
  have HA := Lib.hid ha
  obtain ⟨m, hm⟩ : ∃ m, cs.length = m := ⟨_, rfl⟩
  have HM := Lib.hid hm
  rw [hm] at hx ⊢
  have HALL : Hid (scsK st cs m = scsB st cs) := Lib.hid (by rw [← hm]; rfl)
  clear hb hv hn hf ha hm
  go_enter Try.func22, Try.ntmps22
  go_wp2_with fail
  go_loopw [2, 7] (fun f i wr => ∃ k : Nat, k ≤ m ∧ i = .int .i64 k ∧ f = .bool (fine && scsK st cs k) ∧ Below w.heap.size w wr) (fun _ i _ => m - (intOf i).toNat)
  case atStart => exact ⟨0, Nat.zero_le _, rfl, by rw [scsK_zero]; simp, Below.refl _ _⟩
  case round =>
    obtain ⟨k, hk, rfl, rfl, hnx⟩ := hrel
    have HB := Lib.hid hnx
    have hsz := hnx.size
    obtain ⟨b, hbq⟩ : ∃ b, (fine && scsK st cs k) = b := ⟨_, rfl⟩
    have HQ := Lib.hid hbq
    rw [hbq]
    by_cases hlt : k < m
    · have hkl : (k : Int) < (m : Int) := by omega
      have HNX : Hid ((fine && scsK st cs (k + 1)) = (b && scB st (cs.getD k (0, 0)).1 (cs.getD k (0, 0)).2)) := Lib.hid (by rw [scsK_succ, ← Bool.and_assoc, HQ.out])
      obtain ⟨g, rfl, hc⟩ := HA.out (by intro e; have := HM.out; rw [e] at this; simp at this; omega)
      obtain ⟨e0, e1⟩ := (hc.below hnx) k (by rw [HM.out]; exact hlt)
      have hfk := HF.out.get k (by rw [HM.out]; exact hlt)
      obtain ⟨q, hq⟩ : ∃ q, cs.getD k (0, 0) = q := ⟨_, rfl⟩
      rw [hq] at e0 e1 hfk HNX
      obtain ⟨x0, x1⟩ := q
      simp only at e0 e1 HNX
      have HFK := Lib.hid hfk
      clear hq hc hnx hbq hfk
      cases b
      · have HZ : Hid ((fine && scsK st cs (k + 1)) = false) := Lib.hid (by rw [HNX.out]; rfl)
        go_wp2_with fail
        go_roundw
        case rel => exact ⟨k + 1, by omega, by go_num, by rw [HZ.out], HB.out⟩
        case measure => simp [intOf]; omega
      · obtain ⟨z, hz⟩ : ∃ z, scB st x0 x1 = z := ⟨_, rfl⟩
        have HZ : Hid ((fine && scsK st cs (k + 1)) = z) := Lib.hid (by rw [HNX.out, hz]; rfl)
        have HSC : Hid (∀ W, Below w.heap.size w W → Calls Try.prog 34 #[.pointer (some ⟨B, 0, none⟩), .agg #[.int .i8 x0, .int .i16 x1]] W fun e w' => e = .returned (.bool z) ∧ Below W.heap.size W w') := Lib.hid (fun W hW => by rw [← hz]; exact sscan_any B st sy v x0 x1 W HST.out HFK.out (HBX.out.below hW))
        clear hz HNX
        go_wp2_with (go_at_call 34; refine (HSC.out _ HB.out).mono ?_; rintro e w3 ⟨rfl, b3⟩; have HB3 := Lib.hid (blink HB.out b3); clear b3)
        go_roundw
        case rel => exact ⟨k + 1, by omega, by go_num, by rw [HZ.out], HB3.out⟩
        case measure => simp [intOf]; omega
    · have hk' : k = m := by omega
      have HQ2 : Hid ((fine && scsB st cs) = b) := Lib.hid (by rw [← HALL.out, ← hk']; exact HQ.out)
      have HV2 := Lib.hid (HV.out.below hnx)
      have HBX2 := Lib.hid (HBX.out.below hnx)
      have HCQ : Hid (scnC st sy ps (fine && scsB st cs) m = if askC st sy ps b = 0 ∧ 12 < m then 3 else askC st sy ps b) := Lib.hid (by rw [HQ2.out]; exact scnC_ask st sy ps b m)
      clear hk' hnx hbq
      go_wp2_with fail
      refine (sasked_any B st sy v ps b _ HN.out HV2.out HBX2.out).mono ?_
      rintro e w3 ⟨rfl, b3⟩
      have HB3 := Lib.hid (blink HB.out b3)
      clear b3
      obtain ⟨c, hc⟩ : ∃ c, askC st sy ps b = c := ⟨_, rfl⟩
      rw [hc] at HCQ ⊢
      clear hc
      by_cases h0 : c = 0
      · subst h0
        by_cases h12 : 12 < m
        · have t12 : decide ((12 : Int) < (m : Int)) = true := decide_eq_true (by omega)
          have HR : Hid (scnC st sy ps (fine && scsB st cs) m = 3) := Lib.hid (by rw [HCQ.out, if_pos ⟨rfl, h12⟩])
          go_wp2_with fail
          go_ret
          exact ⟨ret_int HR.out.symm, HB3.out⟩
        · have t12 : decide ((12 : Int) < (m : Int)) = false := decide_eq_false (by omega)
          have HR : Hid (scnC st sy ps (fine && scsB st cs) m = 0) := Lib.hid (by rw [HCQ.out, if_neg (fun h => h12 h.2)])
          go_wp2_with fail
          go_ret
          exact ⟨ret_int HR.out.symm, HB3.out⟩
      · have t0 : (c == 0) = false := by simp [h0]
        have HR : Hid (scnC st sy ps (fine && scsB st cs) m = c) := Lib.hid (by rw [HCQ.out, if_neg (fun h => h0 h.1)])
        clear h0
        go_wp2_with fail
        go_ret
        exact ⟨ret_int HR.out.symm, HB3.out⟩

end Go.Proofs.Ytamnojhkfknnoaa
/-
  A clone of lanes; the hops of a net.
-/
namespace Go.Proofs.Ytamnojhkfknnoaa
open Go Go.RowKit
set_option linter.unusedVariables false

theorem lan_cells {w : World} {b : Nat} {ps : List Lan} (h : CellsLa w b ps) : ∀ j u, (flatLa ps)[j]? = some u → w.cell? ((⟨b, 0, none⟩ : Addr).add j) = some u := flatLa_cells h
set_option maxHeartbeats 2000000 in
set_option maxRecDepth 100000 in
theorem cloneHops_row (b cap : Nat) (ps : List Lan) (hm : ps.length ≤ 1048576) (w : World) (hc : CellsLa w b ps) :
    Calls Try.prog 59 #[.slice (some ⟨b, 0, none⟩) ps.length cap] w fun e w' => ∃ v, e = .returned v ∧ OwnLa 105 w.heap.size w' v ps ∧ Below w.heap.size w w' := by
  obtain ⟨i0, hi, hz0, hz1, hz2⟩ := info_parts infoR_La
  have hq := fun (wx : World) => Lib.run_eql_slice_nil (P := Try.prog) wx 65 105 (some ⟨b, 0, none⟩) ps.length cap 0 0 Try.underlying65
  have hown : (w.alloc (.cells #[] 105)).ownsRow w.heap.size 105 4 (.slice (some ⟨w.heap.size, 0, none⟩) 0 0) 0 [] := World.ownsRow_made w #[] 0 (Nat.le_refl _) (Nat.zero_le _) rfl
  have hb0 : Below w.heap.size w (w.alloc (.cells #[] 105)) := (Below.refl _ _).alloc (Nat.le_refl _) _
  have hnews := lan_cells (hc.below hb0)
  have HB := Lib.hid hb0
  have HN := Lib.hid hnews
  have HO := Lib.hid hown
  obtain ⟨n, hn⟩ : ∃ n, ps.length = n := ⟨_, rfl⟩
  have HLN := Lib.hid hn
  rw [hn] at hm hq ⊢
  clear hb0 hnews hown hc hn
  go_enter Try.func59, Try.ntmps59
  go_wp2_with (at_builtin; refine wpList_append_own _ rfl _ _ 65 rfl w.heap.size 105 i0 (.agg #[.int .i8 0, .int .i8 0, .int .i16 0, .int .i16 0]) 4 6 Try.underlying65 hi hz0 hz1 hz2 rfl (by decide) _ _ _ rfl HO.out ⟨b, 0, none⟩ n cap (flatLa ps) rfl (by rw [flatLa_length, HLN.out]) HN.out (flatLa_ones ps) (by unfold maxLen; omega) (by omega) (by simp) ?_)
  intro v' w3 hown' hgrow _
  have HO' : Hid (OwnLa 105 w.heap.size w3 v' ps) := Lib.hid (by
    have h := hown'
    unfold OwnLa
    rw [HLN.out]
    exact h)
  have HB' : Hid (Below w.heap.size w w3) := Lib.hid (HB.out.grown hgrow (by simp) (fun j hj => by simp [Value.ownBlock] at hj; omega))
  clear hown' hgrow
  go_wp2
  go_ret
  exact ⟨_, rfl, HO'.out, HB'.out⟩
set_option maxHeartbeats 1000000 in
theorem cloneHops_nil (a : Option Addr) (cap : Nat) (w : World) :
    Calls Try.prog 59 #[.slice a 0 cap] w fun e w' => ∃ v, e = .returned v ∧ OwnLa 105 w.heap.size w' v [] ∧ Below w.heap.size w w' := by
  obtain ⟨i0, hi, hz0, hz1, hz2⟩ := info_parts infoR_La
  have hq := fun (wx : World) => Lib.run_eql_slice_nil (P := Try.prog) wx 65 105 a 0 cap 0 0 Try.underlying65
  have hown : (w.alloc (.cells #[] 105)).ownsRow w.heap.size 105 4 (.slice (some ⟨w.heap.size, 0, none⟩) 0 0) 0 [] := World.ownsRow_made w #[] 0 (Nat.le_refl _) (Nat.zero_le _) rfl
  have hb0 : Below w.heap.size w (w.alloc (.cells #[] 105)) := (Below.refl _ _).alloc (Nat.le_refl _) _
  have HB := Lib.hid hb0
  have HO := Lib.hid hown
  clear hb0 hown
  cases a with
  | none =>
    go_enter Try.func59, Try.ntmps59
    go_wp2_with fail
    go_ret
    exact ⟨_, rfl, World.ownsRow_nil _ _ _ _, Below.refl _ _⟩
  | some x =>
    go_enter Try.func59, Try.ntmps59
    go_wp2_with (at_builtin; refine wpList_append_own _ rfl _ _ 65 rfl w.heap.size 105 i0 (.agg #[.int .i8 0, .int .i8 0, .int .i16 0, .int .i16 0]) 4 6 Try.underlying65 hi hz0 hz1 hz2 rfl (by decide) _ _ _ rfl HO.out x 0 cap [] rfl (by simp) (by intro j u hj; simp at hj) (by intro u hu; simp at hu) (by unfold maxLen; omega) (by omega) (by simp) ?_)
    intro v' w3 hown' hgrow _
    have HO' : Hid (OwnLa 105 w.heap.size w3 v' []) := Lib.hid (by simpa [OwnLa, flatLa, flatE] using hown')
    have HB' : Hid (Below w.heap.size w w3) := Lib.hid (HB.out.grown hgrow (by simp) (fun j hj => by simp [Value.ownBlock] at hj; omega))
    clear hown' hgrow
    go_wp2
    go_ret
    exact ⟨_, rfl, HO'.out, HB'.out⟩

theorem row_mono {B B' n m : Nat} {T : TypeId} {w : World} {v : Value} {us : List Value} (h : w.ownsRow B T n v m us) (hB : B' ≤ B) : w.ownsRow B' T n v m us := by
  refine ⟨h.1, ?_⟩
  rcases h.2 with hn | ⟨g, cap, cur, rfl, hb, rest⟩
  · exact .inl hn
  · exact .inr ⟨g, cap, cur, rfl, Nat.le_trans hB hb, rest⟩
/-- Hops: the first k lanes with the stay. -/
def hopK (sy : Int) (ps : List Lan) : Nat → List Lan
  | 0 => ps
  | k + 1 => (hopK sy ps k).set k ((ps.getD k (0, 0, 0, 0)).1, (ps.getD k (0, 0, 0, 0)).2.1, (ps.getD k (0, 0, 0, 0)).2.2.1, (ps.getD k (0, 0, 0, 0)).2.2.2 + sy)
theorem hopK_len (sy : Int) (ps : List Lan) (k : Nat) : (hopK sy ps k).length = ps.length := by
  induction k with
  | zero => rfl
  | succ k ih => rw [hopK, List.length_set, ih]
theorem hopK_get (sy : Int) (ps : List Lan) (k j : Nat) (hj : j < ps.length) : (hopK sy ps k).getD j (0, 0, 0, 0) = if j < k then ((ps.getD j (0, 0, 0, 0)).1, (ps.getD j (0, 0, 0, 0)).2.1, (ps.getD j (0, 0, 0, 0)).2.2.1, (ps.getD j (0, 0, 0, 0)).2.2.2 + sy) else ps.getD j (0, 0, 0, 0) := by
  induction k with
  | zero => simp [hopK]
  | succ k ih =>
    rw [hopK]
    by_cases e : j = k
    · subst e
      have hl : j < (hopK sy ps j).length := by rw [hopK_len]; exact hj
      rw [if_pos (by omega)]
      simp only [List.getD, List.getElem?_set_self hl, Option.getD_some]
    · have h1 : ∀ x, ((hopK sy ps k).set k x).getD j (0, 0, 0, 0) = (hopK sy ps k).getD j (0, 0, 0, 0) := fun x => by
        simp only [List.getD]
        rw [List.getElem?_set_ne (fun h => e h.symm)]
      rw [h1, ih]
      by_cases h2 : j < k
      · rw [if_pos h2, if_pos (by omega)]
      · rw [if_neg h2, if_neg (by omega)]
def hopsL (sy : Int) (ps : List Lan) : List Lan := hopK sy ps ps.length
theorem hopsL_len (sy : Int) (ps : List Lan) : (hopsL sy ps).length = ps.length := hopK_len sy ps _
theorem hopsL_get (sy : Int) (ps : List Lan) (j : Nat) (hj : j < ps.length) : (hopsL sy ps).getD j (0, 0, 0, 0) = ((ps.getD j (0, 0, 0, 0)).1, (ps.getD j (0, 0, 0, 0)).2.1, (ps.getD j (0, 0, 0, 0)).2.2.1, (ps.getD j (0, 0, 0, 0)).2.2.2 + sy) := by
  rw [hopsL, hopK_get sy ps _ j hj, if_pos hj]
theorem hops_ok {st sy : Int} {ps : List Lan} (h : okNet st sy ps) : OkHops (hopsL sy ps) := fun i hi => by
  rw [hopsL_len] at hi
  rw [hopsL_get sy ps i hi]
  have h1 := h.2.2.2 i hi
  have h2 := h.1
  have h3 := h.2.1
  unfold okLa at h1
  unfold okHop
  simp only
  omega
theorem flatLa_set3 (ps : List Lan) (i : Nat) (y : Int) (hi : i < ps.length) : (flatLa ps).set (i * 4 + 3) (.int .i16 y) = flatLa (ps.set i ((ps.getD i (0, 0, 0, 0)).1, (ps.getD i (0, 0, 0, 0)).2.1, (ps.getD i (0, 0, 0, 0)).2.2.1, y)) := by
  unfold flatLa
  exact flatE_set encLa_len ps i 3 (.int .i16 y) _ hi (by omega) (by simp [encLa, List.getD, hi])

set_option maxHeartbeats 4000000 in
set_option maxRecDepth 100000 in
theorem ihops_any (st sy : Int) (v : Value) (ps : List Lan) (w : World) (hok : okNet st sy ps) (hv : ReadsLa w v ps) :
    Calls Try.prog 39 #[netV st sy v] w fun e w' => ∃ u, e = .returned u ∧ OwnLa 105 w.heap.size w' u (hopsL sy ps) ∧ Below w.heap.size w w' := by
  have hb1 : Below w.heap.size w (w.alloc (.cells (netB st sy v) 35)) := (Below.refl _ _).alloc (Nat.le_refl _) _
  have BX : BlkA (w.alloc (.cells (netB st sy v) 35)) w.heap.size 35 (netB st sy v) := BlkA.new rfl _ _
  have hv1 := hv.below hb1
  have HOK := Lib.hid hok
  have h20 := hok.2.2.1
  have hsy := hok.2.1
  go_enter Try.func39, Try.ntmps39
  go_wp2_with fail
  obtain ⟨W1, hW⟩ : ∃ W, w.alloc (.cells (netB st sy v) 35) = W := ⟨_, rfl⟩
  have hW' : w.alloc (.cells #[.int .i8 st, .int .i16 sy, v] 35) = W1 := hW
  rw [hW] at hb1 BX hv1
  rw [hW']
  clear hW hW' hv
  have hclone : Calls Try.prog 59 #[v] W1 fun e w' => ∃ u, e = .returned u ∧ OwnLa 105 W1.heap.size w' u ps ∧ Below W1.heap.size W1 w' := by
    obtain ⟨a, cap, rfl, h⟩ := hv1
    by_cases h0 : ps = []
    · subst h0; exact cloneHops_nil a cap W1
    · obtain ⟨b, rfl, hc⟩ := h h0
      exact cloneHops_row b cap ps (by omega) W1 hc
  refine hclone.mono ?_
  rintro e w2 ⟨u, rfl, o2, b2⟩
  have HB2 := Lib.hid (blink hb1 b2)
  have bx2 := BX.below b2
  have hs1 : w.heap.size < W1.heap.size := BX.lt
  clear hclone hv1 hb1 BX b2
  have HBX := Lib.hid bx2
  rcases o2.cases with ⟨rfl, hnil⟩ | ⟨g, gc, rfl, q1, q2, q3, q4, q5, q6⟩
  · subst hnil
    clear bx2
    go_wp2_with fail
    refine wp_loop_rounds 1 ?_
    rw [rounds_succ]
    go_wp2_with fail
    go_ret
    exact ⟨_, rfl, World.ownsRow_nil _ _ _ _, HB2.out⟩
  · have HO2 := Lib.hid o2
    have hg : w.heap.size < g := by omega
    obtain ⟨len, hlen⟩ : ∃ m, ps.length = m := ⟨_, rfl⟩
    have HL := Lib.hid hlen
    rw [hlen] at HO2 h20 ⊢
    clear o2 q1 q2 q3 q4 q5 q6 bx2 hlen hok
    go_wp2_with fail
    go_loopw [10] (fun i wr => ∃ k : Nat, k ≤ len ∧ i = .int .i64 k ∧ wr.ownsRow W1.heap.size 105 4 (.slice (some ⟨g, 0, none⟩) len gc) len (flatLa (hopK sy ps k)) ∧ BlkA wr w.heap.size 35 (netB st sy v) ∧ Below w.heap.size w wr) (fun i _ => len - (intOf i).toNat)
    case atStart => exact ⟨0, Nat.zero_le _, rfl, by have h := HO2.out; unfold OwnLa at h; rw [HL.out] at h; exact h, HBX.out, HB2.out⟩
    case round =>
      obtain ⟨k, hk, rfl, hown, hbx, hnx⟩ := hrel
      by_cases hlt : k < len
      · have hkl : k < ps.length := by have := HL.out; omega
        have htl := hopK_len sy ps k
        have d3 := hown.cellAt (k * 4 + 3) (by omega)
        rw [flatLa_3 _ _ (by rw [htl]; exact hkl), hopK_get sy ps k k hkl, if_neg (by omega)] at d3
        have f3 := hown.frozenAt (k * 4 + 3)
        have s1 : wr.cell? ⟨w.heap.size, 1, none⟩ = some (.int .i16 sy) := hbx.at 1
        have hla := HOK.out.2.2.2 k hkl
        have S := (hown.stored (k * 4 + 3) (.int .i16 ((ps.getD k (0, 0, 0, 0)).2.2.2 + sy))).1
        rw [flatLa_set3 _ _ _ (by rw [htl]; exact hkl), hopK_get sy ps k k hkl, if_neg (by omega)] at S
        have HS : Hid ((wr.setCell ⟨g, k * 4 + 3, none⟩ (.int .i16 ((ps.getD k (0, 0, 0, 0)).2.2.2 + sy))).ownsRow W1.heap.size 105 4 (.slice (some ⟨g, 0, none⟩) len gc) len (flatLa (hopK sy ps (k + 1)))) := Lib.hid S
        obtain ⟨q, hq⟩ : ∃ q, ps.getD k (0, 0, 0, 0) = q := ⟨_, rfl⟩
        rw [hq] at d3 hla HS
        obtain ⟨x0, x1, x2, x3⟩ := q
        unfold okLa at hla
        simp only at d3 hla HS
        have hx3 : 0 ≤ x3 ∧ x3 ≤ 40 := by omega
        have HBB := Lib.hid hbx
        have HB := Lib.hid hnx
        have hkln : (k : Int) < (len : Int) := by omega
        have ng : w.heap.size ≠ g := by omega
        have hgle : w.heap.size ≤ g := by omega
        clear hq S hown hbx hnx hla htl
        go_wp2_with fail
        go_region
        go_wp2_with fail
        go_roundw
        case rel => exact ⟨k + 1, by omega, by go_num, HS.out, (HBB.out.other _ _ ng), (HB.out.setCell hgle _).drew⟩
        case measure => simp [intOf]; omega
      · have hk' : k = len := by omega
        have HO3 : Hid (OwnLa 105 w.heap.size wr (.slice (some ⟨g, 0, none⟩) len gc) (hopsL sy ps)) := Lib.hid (by
          have h := row_mono hown (Nat.le_of_lt hs1)
          rw [hk'] at h
          unfold OwnLa
          rw [hopsL_len, hopsL, HL.out]
          exact h)
        have HB := Lib.hid hnx
        clear hk' hown hbx hnx
        go_wp2_with fail
        go_ret
        exact ⟨_, rfl, HO3.out, HB.out⟩
end Go.Proofs.Ytamnojhkfknnoaa
/-
  Arrivals lane by lane: what comes up round by round, when it ends, what it is then (plain); whether times are equal.
-/
namespace Go.Proofs.Ytamnojhkfknnoaa
open Go Go.RowKit
set_option linter.unusedVariables false

theorem times_ext {T U : List Nat} (hT : TOk T) (hU : TOk U) (h : ∀ s, s < 8 → T.getD s 0 = U.getD s 0) : T = U := by
  refine List.ext_getElem (by rw [hT.len, hU.len]) fun i h1 h2 => ?_
  have := h i (by rw [← hT.len]; exact h1)
  simpa [List.getD, h1, h2] using this
theorem orT_comm {T U : List Nat} (hT : TOk T) (hU : TOk U) : orT T U = orT U T := times_ext (orT_ok hT hU) (orT_ok hU hT) fun s hs => by
  rw [orT_get hT s hs, orT_get hU s hs, Nat.or_comm]
/-- The arrivals by k + 1 lanes, and those that have been seen before. -/
def atK (st : List Nat → List Nat) (A : List Nat) : Nat → List Nat
  | 0 => A
  | k + 1 => st (atK st A k)
def seenK (st : List Nat → List Nat) (A : List Nat) : Nat → List Nat
  | 0 => t0
  | k + 1 => orT (seenK st A k) (atK st A k)
theorem atK_ok {st : List Nat → List Nat} {A : List Nat} (hs : ∀ T, TOk T → TOk (st T)) (hA : TOk A) (k : Nat) : TOk (atK st A k) := by
  induction k with
  | zero => exact hA
  | succ k ih => exact hs _ ih
theorem seenK_ok {st : List Nat → List Nat} {A : List Nat} (hs : ∀ T, TOk T → TOk (st T)) (hA : TOk A) (k : Nat) : TOk (seenK st A k) := by
  induction k with
  | zero => exact t0_ok
  | succ k ih => exact orT_ok ih (atK_ok hs hA k)
def sumT (T : List Nat) : Nat := T.getD 0 0 + T.getD 1 0 + T.getD 2 0 + T.getD 3 0 + T.getD 4 0 + T.getD 5 0 + T.getD 6 0 + T.getD 7 0
theorem sumT_lt {T : List Nat} (h : TOk T) : sumT T < 8 * 2 ^ room := by
  have h0 := h.lt 0; have h1 := h.lt 1; have h2 := h.lt 2; have h3 := h.lt 3; have h4 := h.lt 4; have h5 := h.lt 5; have h6 := h.lt 6; have h7 := h.lt 7
  unfold sumT
  omega
theorem sumT_grows {T U : List Nat} (hT : TOk T) (hU : TOk U) (hne : orT T U ≠ T) : sumT T < sumT (orT T U) := by
  have g : ∀ s, s < 8 → T.getD s 0 ≤ (orT T U).getD s 0 := fun s hs => by rw [orT_get hT s hs]; exact Nat.left_le_or
  refine Classical.byContradiction fun h => hne (times_ext (orT_ok hT hU) hT fun s hs => ?_)
  have h0 := g 0 (by omega); have h1 := g 1 (by omega); have h2 := g 2 (by omega); have h3 := g 3 (by omega); have h4 := g 4 (by omega); have h5 := g 5 (by omega); have h6 := g 6 (by omega); have h7 := g 7 (by omega)
  unfold sumT at h
  rcases s with _ | _ | _ | _ | _ | _ | _ | _ | s <;> (try simp only [Nat.zero_add, Nat.reduceAdd]) <;> omega
theorem seenK_grows {st : List Nat → List Nat} {A : List Nat} (hs : ∀ T, TOk T → TOk (st T)) (hA : TOk A) {k : Nat} (hne : orT (atK st A k) (seenK st A k) ≠ seenK st A k) : sumT (seenK st A k) < sumT (seenK st A (k + 1)) := by
  rw [orT_comm (atK_ok hs hA k) (seenK_ok hs hA k)] at hne
  exact sumT_grows (seenK_ok hs hA k) (atK_ok hs hA k) hne
theorem tw_inj {T U : List Nat} (hT : TOk T) (hU : TOk U) (h : tw T = tw U) : T = U := times_ext hT hU fun s hs => by
  refine wd_ext (hT.lt s) (hU.lt s) fun i hi => ?_
  have e1 := flatH_get T s i (by rw [hT.len]; exact hs) hi
  have e2 := flatH_get U s i (by rw [hU.len]; exact hs) hi
  have h' : flatH T = flatH U := by unfold tw at h; simpa using h
  rw [h', e2] at e1
  simp only [Option.some.injEq, Value.int.injEq, true_and] at e1
  omega
open Classical in
/-- How much times in a block come to. -/
noncomputable def rankT' (w : World) (B : Nat) : Nat := if h : ∃ T, TOk T ∧ BlkT w B T then sumT (Classical.choose h) else 0
theorem rankT'_of {w : World} {B : Nat} {T : List Nat} (hT : TOk T) (hb : BlkT w B T) : rankT' w B = sumT T := by
  unfold rankT'
  have h : ∃ T, TOk T ∧ BlkT w B T := ⟨T, hT, hb⟩
  rw [dif_pos h]
  have hc := Classical.choose_spec h
  have e : tw (Classical.choose h) = tw T := by
    have h1 : w.heap[B]? = some (.cells (tw (Classical.choose h)) 94 (0, 0)) := hc.2
    have h2 : w.heap[B]? = some (.cells (tw T) 94 (0, 0)) := hb
    rw [h1] at h2
    simpa using h2
  rw [tw_inj hc.1 hT e]

/-- Which arrivals there are. -/
def bitT (T : List Nat) (s h : Nat) : Bool := (T.getD s 0).testBit h
theorem bitT_or {T U : List Nat} (hT : TOk T) (s h : Nat) (hs : s < 8) : bitT (orT T U) s h = (bitT T s h || bitT U s h) := by
  unfold bitT; rw [orT_get hT s hs, Nat.testBit_or]
theorem bitT_t0 (s h : Nat) : bitT t0 s h = false := by unfold bitT; rw [t0_get]; exact Nat.zero_testBit h
theorem bitT_tOf {s0 h0 : Nat} (hs0 : s0 < 8) (s h : Nat) : bitT (tOf s0 h0) s h = true ↔ s = s0 ∧ h = h0 := by
  unfold bitT tOf
  by_cases e : s = s0
  · subst e
    have : (t0.set s (2 ^ h0)).getD s 0 = 2 ^ h0 := by simp [List.getD, t0, hs0]
    rw [this, Nat.testBit_two_pow]
    simp [eq_comm]
  · have : (t0.set s0 (2 ^ h0)).getD s 0 = t0.getD s 0 := by simp [List.getD, Ne.symm e]
    rw [this, t0_get, Nat.zero_testBit]
    simp [e]
theorem onwK_bit {L : List Lan} {T : List Nat} (hT : TOk T) (hL : OkHops L) (k s h : Nat) (hk : k ≤ L.length) (hs : s < 8) : bitT (onwK L T k) s h = true ↔ ∃ i, i < k ∧ (L.getD i zl).2.1.toNat = s ∧ ∃ d, (L.getD i zl).2.2.1.toNat ≤ d ∧ d ≤ (L.getD i zl).2.2.2.toNat ∧ h < 320 ∧ d ≤ h ∧ bitT T (L.getD i zl).1.toNat (h - d) = true := by
  induction k with
  | zero =>
    rw [show onwK L T 0 = t0 from rfl, bitT_t0]
    constructor
    · intro h1; cases h1
    · rintro ⟨i, hi, _⟩; omega
  | succ k ih =>
    have ih := ih (by omega)
    obtain ⟨f, t, a, b, hq, hf, ht, ha, hb⟩ := hL.nats (k := k) (by omega)
    have hlen := (onwK_ok (L := L) hT k).len
    have hstep : bitT (onwK L T (k + 1)) s h = true ↔ bitT (onwK L T k) s h = true ∨ (s = t ∧ ∃ d, a ≤ d ∧ d ≤ b ∧ h < 320 ∧ d ≤ h ∧ bitT T f (h - d) = true) := by
      rw [onwK, hq]
      simp only [Int.toNat_natCast]
      unfold bitT
      by_cases e : s = t
      · subst e
        have : ((onwK L T k).set s ((onwK L T k).getD s 0 ||| mvK (T.getD f 0) a (b + 1))).getD s 0 = ((onwK L T k).getD s 0 ||| mvK (T.getD f 0) a (b + 1)) := by
          have : s < (onwK L T k).length := by rw [hlen]; exact hs
          simp [List.getD, this]
        rw [this, Nat.testBit_or, Bool.or_eq_true, mvK_bit (hT.lt f)]
        constructor
        · rintro (h1 | ⟨d, h1, h2, h3, h4, h5⟩)
          · exact .inl h1
          · exact .inr ⟨rfl, d, h1, by omega, h3, h4, h5⟩
        · rintro (h1 | ⟨_, d, h1, h2, h3, h4, h5⟩)
          · exact .inl h1
          · exact .inr ⟨d, h1, by omega, h3, h4, h5⟩
      · have : ((onwK L T k).set t ((onwK L T k).getD t 0 ||| mvK (T.getD f 0) a (b + 1))).getD s 0 = (onwK L T k).getD s 0 := by simp [List.getD, Ne.symm e]
        rw [this]
        simp [e]
    rw [hstep, ih]
    constructor
    · rintro (⟨i, hi, h1⟩ | ⟨rfl, h1⟩)
      · exact ⟨i, by omega, h1⟩
      · refine ⟨k, by omega, ?_, ?_⟩
        · rw [show L.getD k zl = _ from hq]; simp
        · rw [show L.getD k zl = _ from hq]; simpa using h1
    · rintro ⟨i, hi, h1, h2⟩
      by_cases e : i = k
      · subst e
        rw [show L.getD i zl = _ from hq] at h1 h2
        simp only [Int.toNat_natCast] at h1 h2
        exact .inr ⟨h1.symm, h2⟩
      · exact .inl ⟨i, by omega, h1, h2⟩
theorem onw_bit {L : List Lan} {T : List Nat} (hT : TOk T) (hL : OkHops L) (s h : Nat) (hs : s < 8) : bitT (onw L T) s h = true ↔ ∃ i, i < L.length ∧ (L.getD i zl).2.1.toNat = s ∧ ∃ d, (L.getD i zl).2.2.1.toNat ≤ d ∧ d ≤ (L.getD i zl).2.2.2.toNat ∧ h < 320 ∧ d ≤ h ∧ bitT T (L.getD i zl).1.toNat (h - d) = true :=
  onwK_bit hT hL _ s h (Nat.le_refl _) hs
theorem seenK_bit {st : List Nat → List Nat} {A : List Nat} (hs : ∀ T, TOk T → TOk (st T)) (hA : TOk A) (k s h : Nat) (h8 : s < 8) : bitT (seenK st A k) s h = true ↔ ∃ j, j < k ∧ bitT (atK st A j) s h = true := by
  induction k with
  | zero =>
    rw [show seenK st A 0 = t0 from rfl, bitT_t0]
    constructor
    · intro h1; cases h1
    · rintro ⟨j, hj, _⟩; omega
  | succ k ih =>
    rw [show seenK st A (k + 1) = orT (seenK st A k) (atK st A k) from rfl, bitT_or (seenK_ok hs hA k) s h h8, Bool.or_eq_true, ih]
    constructor
    · rintro (⟨j, hj, h1⟩ | h1)
      · exact ⟨j, by omega, h1⟩
      · exact ⟨k, by omega, h1⟩
    · rintro ⟨j, hj, h1⟩
      by_cases e : j = k
      · subst e; exact .inr h1
      · exact .inl ⟨j, by omega, h1⟩
/-- Where nothing new comes up, nothing new comes up behind it. -/
theorem closed_bit {L : List Lan} {A : List Nat} (hL : OkHops L) (hA : TOk A) {k : Nat} (hend : orT (atK (onw L) A k) (seenK (onw L) A k) = seenK (onw L) A k) (j s h : Nat) (h8 : s < 8) (hj : bitT (atK (onw L) A j) s h = true) : bitT (seenK (onw L) A k) s h = true := by
  have hs : ∀ T, TOk T → TOk (onw L T) := fun T h => onw_ok h
  have hin : ∀ s h, s < 8 → bitT (atK (onw L) A k) s h = true → bitT (seenK (onw L) A k) s h = true := fun s h h8 hb => by
    rw [← hend, bitT_or (atK_ok hs hA k) s h h8, hb]; rfl
  induction j generalizing s h with
  | zero =>
    by_cases e : 0 < k
    · exact (seenK_bit hs hA k s h h8).2 ⟨0, e, hj⟩
    · have : k = 0 := by omega
      subst this
      exact hin s h h8 hj
  | succ j ih =>
    obtain ⟨i, hi, ht, d, h1, h2, h3, h4, h5⟩ := (onw_bit (atK_ok hs hA j) hL s h h8).1 hj
    obtain ⟨f, t, a, b, hq, hf, _⟩ := hL.nats hi
    have hf8 : (L.getD i zl).1.toNat < 8 := by rw [show L.getD i zl = _ from hq]; simpa using hf
    obtain ⟨j', hj', h6⟩ := (seenK_bit hs hA k _ _ hf8).1 (ih _ _ hf8 h5)
    have h7 : bitT (atK (onw L) A (j' + 1)) s h = true := (onw_bit (atK_ok hs hA j') hL s h h8).2 ⟨i, hi, ht, d, h1, h2, h3, h4, h6⟩
    by_cases e : j' + 1 < k
    · exact (seenK_bit hs hA k s h h8).2 ⟨j' + 1, e, h7⟩
    · have : j' + 1 = k := by omega
      rw [this] at h7
      exact hin s h h8 h7
theorem atK_src {st sy : Nat} {ps : List Lan} (hok : okNet (st : Int) (sy : Int) ps) {s0 h0 : Nat} (hs0 : s0 < 8) (hh0 : h0 ≤ 300) (k s h : Nat) (h8 : s < 8) (hh : h < 320) : bitT (atK (onw (hopsL (sy : Int) ps)) (onw (hopsL (sy : Int) ps) (tOf s0 h0)) k) s h = true ↔ srcK ps (-1) sy s0 h0 (k + 1) s h := by
  have hL := hops_ok hok
  have hs : ∀ T, TOk T → TOk (onw (hopsL (sy : Int) ps) T) := fun T h => onw_ok h
  have hA : TOk (onw (hopsL (sy : Int) ps) (tOf s0 h0)) := onw_ok (tOf_ok s0 h0 hh0)
  have key : ∀ (T : List Nat) (Pr : Nat → Nat → Prop), TOk T → (∀ s h, s < 8 → h < 320 → (bitT T s h = true ↔ Pr s h)) → ∀ s h, s < 8 → h < 320 → (bitT (onw (hopsL (sy : Int) ps) T) s h = true ↔ ∃ i, i < ps.length ∧ pas (-1) (ps.getD i zl) ∧ (ps.getD i zl).2.1.toNat = s ∧ ∃ d, (ps.getD i zl).2.2.1.toNat ≤ d ∧ d ≤ (ps.getD i zl).2.2.2.toNat + sy ∧ d ≤ h ∧ Pr (ps.getD i zl).1.toNat (h - d)) := fun T Pr hT hP s h h8 hh => by
    rw [onw_bit hT hL s h h8, hopsL_len]
    have hlane : ∀ i, i < ps.length → (hopsL (sy : Int) ps).getD i zl = ((ps.getD i zl).1, (ps.getD i zl).2.1, (ps.getD i zl).2.2.1, (ps.getD i zl).2.2.2 + (sy : Int)) := fun i hi => hopsL_get _ _ _ hi
    have hla : ∀ i, i < ps.length → pas (-1) (ps.getD i zl) ∧ (ps.getD i zl).1.toNat < 8 ∧ ((ps.getD i zl).2.2.2 + (sy : Int)).toNat = (ps.getD i zl).2.2.2.toNat + sy := fun i hi => by
      have h2 := hok.2.2.2 i hi
      have h3 := hok.1
      have h1 : okLa _ (ps.getD i zl) := h2
      unfold okLa at h1
      unfold pas
      omega
    constructor
    · rintro ⟨i, hi, ht, d, h1, h2, _, h4, h5⟩
      rw [hlane i hi] at ht h1 h2 h5
      obtain ⟨hp, hf, hm⟩ := hla i hi
      simp only at ht h1 h2 h5
      rw [hm] at h2
      exact ⟨i, hi, hp, ht, d, h1, h2, h4, (hP _ _ hf (by omega)).1 h5⟩
    · rintro ⟨i, hi, hp, ht, d, h1, h2, h4, h5⟩
      obtain ⟨_, hf, hm⟩ := hla i hi
      refine ⟨i, hi, ?_⟩
      rw [hlane i hi]
      simp only
      rw [hm]
      exact ⟨ht, d, h1, h2, hh, h4, (hP _ _ hf (by omega)).2 h5⟩
  induction k generalizing s h with
  | zero => exact key (tOf s0 h0) (srcK ps (-1) sy s0 h0 0) (tOf_ok s0 h0 hh0) (fun s h _ _ => bitT_tOf hs0 s h) s h h8 hh
  | succ k ih => exact key _ (srcK ps (-1) sy s0 h0 (k + 1)) (atK_ok hs hA k) (fun s h h8 hh => ih s h h8 hh) s h h8 hh
/-- What has been seen at the end are the arrivals. -/
theorem seen_arr {st sy : Nat} {ps : List Lan} (hok : okNet (st : Int) (sy : Int) ps) {s0 h0 : Nat} (hs0 : s0 < 8) (hh0 : h0 ≤ 300) {k : Nat}
    (hend : orT (atK (onw (hopsL (sy : Int) ps)) (onw (hopsL (sy : Int) ps) (tOf s0 h0)) k) (seenK (onw (hopsL (sy : Int) ps)) (onw (hopsL (sy : Int) ps) (tOf s0 h0)) k) = seenK (onw (hopsL (sy : Int) ps)) (onw (hopsL (sy : Int) ps) (tOf s0 h0)) k) (s h : Nat) (h8 : s < 8) (hh : h < 320) :
    bitT (seenK (onw (hopsL (sy : Int) ps)) (onw (hopsL (sy : Int) ps) (tOf s0 h0)) k) s h = true ↔ Arr ps (-1) sy s0 h0 s h := by
  have hs : ∀ T, TOk T → TOk (onw (hopsL (sy : Int) ps) T) := fun T h => onw_ok h
  have hA : TOk (onw (hopsL (sy : Int) ps) (tOf s0 h0)) := onw_ok (tOf_ok s0 h0 hh0)
  constructor
  · intro hb
    obtain ⟨j, _, hj⟩ := (seenK_bit hs hA k s h h8).1 hb
    exact ⟨j, (atK_src hok hs0 hh0 j s h h8 hh).1 hj⟩
  · rintro ⟨j, hj⟩
    exact closed_bit (hops_ok hok) hA hend j s h h8 ((atK_src hok hs0 hh0 j s h h8 hh).2 hj)

theorem run_part_tw (T : List Nat) (s : Nat) (hs : s < 8) (h8 : T.length = 8) (w : World) : (part 92 (tw T) (s * 5)).run Try.prog w = .ok (hv (T.getD s 0)) w := by
  have hp := tw_part T s (by omega)
  simp only [part, Try.isAgg92, Try.sizeOf92, if_true, hp, Sem.run_bind, Sem.run_pure, Result.andThen_ok]
  rfl
/-- Whether times are equal. -/
theorem times_eq (T U : List Nat) (hT : TOk T) (hU : TOk U) (w : World) : (Op.equalIn 10000 94 (tv T) (tv U)).run Try.prog w = .ok (decide (T = U)) w := by
  have hu : Try.prog.underlying 94 = some (.array 8 92) := by kernel_rfl
  have hi : (Try.prog.info? 92).isSome = true := by kernel_rfl
  obtain ⟨i, hi⟩ := Option.isSome_iff_exists.1 hi
  have hc : Try.prog.cellsOf 92 = 5 := by kernel_rfl
  show (Op.equalIn (9999 + 1) 94 (.agg (tw T)) (.agg (tw U))).run Try.prog w = _
  have hall : (List.range 8).all (fun s => decide (T.getD s 0 = U.getD s 0)) = decide (T = U) := by
    rw [Bool.eq_iff_iff]
    simp only [List.all_eq_true, List.mem_range, decide_eq_true_eq]
    constructor
    · intro h; exact times_ext hT hU h
    · rintro rfl i hi; rfl
  rw [run_equalIn_array w 9999 _ _ hu hi, hc, eqItems_all 9999 92 5 (tw T) (tw U) w (fun s => decide (T.getD s 0 = U.getD s 0)) (List.range 8) (fun s hs => ⟨hv (T.getD s 0), hv (U.getD s 0), run_part_tw T s (List.mem_range.1 hs) hT.len w, run_part_tw U s (List.mem_range.1 hs) hU.len w, hours_eq 9997 _ _ (hT.lt s) (hU.lt s) w⟩), hall]
theorem guard_times : Try.prog.eqGuardType Try.prog.depth 94 = false := by kernel_rfl
end Go.Proofs.Ytamnojhkfknnoaa
/-
  The arrivals behind a scan, as the program finds them: names.
-/
namespace Go.Proofs.Ytamnojhkfknnoaa
open Go Go.RowKit
set_option linter.unusedVariables false

abbrev rarr (yn : Nat) (ps : List Lan) (s0 h0 k : Nat) : List Nat := seenK (onw (hopsL (yn : Int) ps)) (onw (hopsL (yn : Int) ps) (tOf s0 h0)) k
abbrev rend (yn : Nat) (ps : List Lan) (s0 h0 k : Nat) : Prop := orT (atK (onw (hopsL (yn : Int) ps)) (onw (hopsL (yn : Int) ps) (tOf s0 h0)) k) (rarr yn ps s0 h0 k) = rarr yn ps s0 h0 k
end Go.Proofs.Ytamnojhkfknnoaa
/-
  A region that draws its order, only reads and defers nothing, IN A ROUND of a range over a function: one walk, in the order of the text.
-/
namespace Go.Proofs.Ytamnojhkfknnoaa
open Go Go.RowKit
set_option linter.unusedVariables false
section
variable {F : Fence} {n : Nat} {P : Program} {ops : Array Oper} {Q : Exit → Act → World → Prop} {md : Region.Mode}

def noDefer (o : Oper) : Bool := match o.op with
  | .defer _ => false
  | _ => true
theorem noDefer_ne {o : Oper} (h : noDefer o = true) : ∀ c, o.op ≠ .defer c := by
  intro c hc
  unfold noDefer at h
  rw [hc] at h
  exact absurd h (by simp)

theorem oper_round (l : Nat) {o : Oper} {a : Act} {w : World} {K : Act → World → Prop} (hro : F.round = none) (hd : noDefer o = true) (h : o.wpIn F n P a w K Q) : o.wpIn (F.inRound l) n P a w K Q := by
  unfold Oper.wpIn at *
  refine ⟨h.1, ?_⟩
  have h2 := h.2
  rw [hro, Oper.semAt_none] at h2
  rw [Oper.semAt_eq _ _ _ (noDefer_ne hd)]
  generalize (execOp a.eval o).run P w = r at *
  cases r with
  | ok x w' =>
    cases x <;> simp only [Oper.uponIn] at h2 ⊢ <;>
      first
        | exact h2
        | exact ⟨h2.1, CallsIn.inRound l h2.2⟩
  | halt x w' => cases x <;> simp only [Oper.uponIn] at h2 ⊢ <;> exact h2

theorem opIn_round (l : Nat) {i : Nat} {a : Act} {w : World} {K : Act → World → Prop} (hro : F.round = none) (hd : ops.toList.all noDefer = true) (h : wpOpIn F n P ops Q i K a w) : wpOpIn (F.inRound l) n P ops Q i K a w := by
  unfold wpOpIn at *
  split
  · rename_i ho; simpa only [ho] using h
  · rename_i o ho
    simp only [ho] at h
    have hdo : noDefer o = true := List.all_eq_true.1 hd o (by
      rw [Array.mem_toList_iff]; exact Array.mem_of_getElem? ho)
    split
    · rename_i hw; simp only [hw, if_true] at h; exact oper_round l hro hdo h
    · rename_i hw; simp only [hw] at h; exact h

theorem anyIn_round (l : Nat) (hro : F.round = none) (hd : ops.toList.all noDefer = true) : ∀ (fuel : Nat) (listed : Array Bool) (a : Act) (w : World), wpAnyIn F n P md ops Q fuel listed a w → wpAnyIn (F.inRound l) n P md ops Q fuel listed a w
  | 0, _, _, _, h => h
  | fuel + 1, _, _, _, h => ⟨h.1, fun i hi => opIn_round l hro hd (wpOpIn_mono (fun a' w' h' => anyIn_round l hro hd fuel _ a' w' h') (h.2 i hi))⟩

theorem region_round (l : Nat) {id : Nat} {a : Act} {w : World} {os : List Oper} (hro : F.round = none) (hm : P.follows .mixedOrders = true) (hB : Region.lexB .any os.toArray = true) (hd : os.all noDefer = true)
    (h : wpQuietIn F n P os.toArray (fun w' => ∃ n, w' = w.drewN n) (fun a' => ∀ w', (∃ n, w' = w.drewN n) → Q .normal a' w') os a) : (Code.region id os.toArray true).wpIn (F.inRound l) n P Q a w := by
  simp only [Region.lexB, Bool.and_eq_true] at hB
  refine wpIn_region_any hm (anyIn_round l hro (by simpa using hd) _ _ _ _ (wpAnyIn_of_quiet (C := fun w' => ∃ n, w' = w.drewN n) (Q := fun a' => ∀ w', (∃ n, w' = w.drewN n) → Q .normal a' w') hro (fun _ w' hw' h => h w' hw') _ _ _ _ ⟨1, rfl⟩ ?_))
  have := wpAnyQIn_lex (F := F) (n := n) (C := fun w' => ∃ n, w' = w.drewN n) (md := .any) hB.1 os 0 (Array.replicate os.toArray.size false) a (by simp) (by simpa using hB.2) h
  simpa using this
end
end Go.Proofs.Ytamnojhkfknnoaa
/-
  Whole rows loaded and stored inside a fence; a region that draws its order and leaves a class of worlds.
-/
namespace Go.Proofs.Ytamnojhkfknnoaa
open Go Go.RowKit
set_option linter.unusedVariables false
section
variable {F : Fence} {n : Nat} {P : Program} {ops : Array Oper} {rest : List Oper} {o : Oper} {a : Act} {w : World} {Q : Exit → Act → World → Prop}

theorem wpListIn_load_row (hgd : o.guard = none) (ty : TypeId) (x : Operand) (ho : o.op = .load ty x)
    (g : Nat) (hx : a.eval x = .pointer (some ⟨g, 0, none⟩)) (t : TypeId) (cs : Array Value) (fr : Nat × Nat) (d : TypeDesc) (hg : w.heap[g]? = some (.cells cs t fr))
    (hu : P.underlying ty = some d) (hd : (match d with | .struct _ | .array _ _ => true | _ => false) = true) (hi : (P.info? ty).map (·.size) = some cs.size)
    (h : wpListIn F n P ops Q rest (a.put o.dst (.agg cs)) w) : wpListIn F n P ops Q (o :: rest) a w := by
  refine wpListIn_plain hgd fun K hK' => ?_
  unfold Oper.wpIn
  refine ⟨?_, ?_⟩
  · simp [Oper.about, ho]
  · rw [Oper.semAt_plain F _ _ (by rw [ho]; intro c hc'; cases hc')]
    unfold execOp
    simp only [ho, hx, Instr.loadAt, Instr.sureAddr, Sem.run_bind, Sem.run_pure, Result.andThen_ok, run_loadVar_row w g t ty cs fr d hg hu hd hi]
    exact hK' _ _ h
theorem wpListIn_store_row (hgd : o.guard = none) (ty : TypeId) (x y : Operand) (ho : o.op = .store ty x y)
    (g : Nat) (cells : Array Value) (hx : a.eval x = .pointer (some ⟨g, 0, none⟩)) (hy : a.eval y = .agg cells)
    (t : TypeId) (old : Array Value) (hg : w.heap[g]? = some (.cells old t (0, 0))) (hi : (P.info? ty).map (·.size) = some cells.size)
    (hold : old.size = cells.size) (h1 : cells.all (·.oneCell') = true)
    (h : wpListIn F n P ops Q rest (a.put o.dst undef) (w.setRow g cells)) : wpListIn F n P ops Q (o :: rest) a w := by
  refine wpListIn_plain hgd fun K hK' => ?_
  unfold Oper.wpIn
  refine ⟨?_, ?_⟩
  · simp [Oper.about, ho]
  · rw [Oper.semAt_plain F _ _ (by rw [ho]; intro c hc'; cases hc')]
    unfold execOp
    simp only [ho, hx, hy, Instr.storeAt, Instr.sureAddr, Sem.run_bind, Sem.run_pure, Result.andThen_ok, run_storeVar_row w g t ty old cells hg hi hold h1]
    exact hK' _ _ h
/-- A region that draws its order, each of whose operations yields one value in every world of a class and leaves such a world. -/
theorem wpIn_region_class (C : World → Prop) {id : Nat} {os : List Oper} (hro : F.round = none) (hm : P.follows .mixedOrders = true) (hB : Region.lexB .any os.toArray = true) (hC : C w.drew)
    (h : wpQuietIn F n P os.toArray C (fun a' => ∀ w', C w' → Q .normal a' w') os a) : (Code.region id os.toArray true).wpIn F n P Q a w := by
  simp only [Region.lexB, Bool.and_eq_true] at hB
  refine wpIn_region_any hm (wpAnyIn_of_quiet (C := C) (Q := fun a' => ∀ w', C w' → Q .normal a' w') hro (fun _ w' hw' h => h w' hw') _ _ _ _ hC ?_)
  have := wpAnyQIn_lex (F := F) (n := n) (C := C) (md := .any) hB.1 os 0 (Array.replicate os.toArray.size false) a (by simp) (by simpa using hB.2) h
  simpa using this
theorem quietIn_load_row {C : World → Prop} {Q : Act → Prop} (hgd : o.guard = none) (ty : TypeId) (x : Operand) (ho : o.op = .load ty x)
    (g : Nat) (hx : a.eval x = .pointer (some ⟨g, 0, none⟩)) (t : TypeId) (cs : Array Value) (d : TypeDesc) (hg : ∀ w, C w → w.heap[g]? = some (.cells cs t (0, 0)))
    (hu : P.underlying ty = some d) (hd : (match d with | .struct _ | .array _ _ => true | _ => false) = true) (hi : (P.info? ty).map (·.size) = some cs.size)
    (h : wpQuietIn F n P ops C Q rest (a.put o.dst (.agg cs))) : wpQuietIn F n P ops C Q (o :: rest) a := by
  refine ⟨fun w hw f hf => ?_, ?_⟩
  · simp [Oper.about, ho] at hf
  · rw [if_pos (by simp [Region.wanted, hgd])]
    refine ⟨.agg cs, fun w hw => ?_, h⟩
    unfold Oper.quietAtIn execOp
    simp only [ho, hx, Instr.loadAt, Instr.sureAddr, Sem.run_bind, Sem.run_pure, Result.andThen_ok, run_loadVar_row w g t ty cs (0, 0) d (hg w hw) hu hd hi]
    exact ⟨rfl, rfl⟩
end
end Go.Proofs.Ytamnojhkfknnoaa
/-
  The iterator of arrivals lane by lane.
-/
namespace Go.Proofs.Ytamnojhkfknnoaa
open Go Go.RowKit Go.Shelf
set_option linter.unusedVariables false
attribute [local go_sem] Oper.semAt_some

/-- Times that are told. -/
abbrev Tm : Type := {T : List Nat // TOk T}
/-- What the iterator reads. -/
def KpW (Bq Bh : Nat) (v : Value) (L : List Lan) (W : World) : Prop := W.cell? ⟨Bq, 0, none⟩ = some (.func (.func 43) #[] #[]) ∧ W.cell? ⟨Bh, 0, none⟩ = some v ∧ ReadsLa W v L
theorem grown_setRow (w : World) (g : Nat) (cs : Array Value) : w.grownBy (w.setRow g cs) (some g) :=
  ⟨rfl, rfl, rfl, by simp [World.setRow], fun k hk hne => by simp only [World.setRow]; rw [Array.getElem?_modify, if_neg (fun e => hne (by rw [e]))]⟩
theorem grown_belowI {w w' : World} (h : Below w.heap.size w w') (row : Option Nat) : w.grownBy w' row := ⟨h.os, h.tape, h.output, h.size, fun k hk _ => h.block k hk⟩
theorem BlkT.setRow_same {w : World} {B : Nat} {T U : List Nat} (h : BlkT w B T) : BlkT (w.setRow B (tw U)) B U := setRow_heapT w B (tw U) (tw T) _ (0, 0) h
theorem BlkT.setRow_other {w : World} {B C : Nat} {T : List Nat} {cs : Array Value} (h : BlkT w B T) (hne : B ≠ C) : BlkT (w.setRow C cs) B T :=
  ((grown_setRow w C cs).block B (BlkA.lt h) (by simpa using hne)).trans h
/-- All that come have come. -/
def SeqS (st : List Nat → List Nat) (A : List Nat) (xs : List Tm) : Prop := ∃ k, xs.map (·.1) = (List.range k).map (atK st A) ∧ orT (atK st A k) (seenK st A k) = seenK st A k

set_option maxRecDepth 100000 in
set_option maxHeartbeats 2000000 in
theorem walk1_in (n : Nat) (hn : 4 ≤ n) (l Bq Bh Bf : Nat) (v : Value) (L : List Lan) (T : List Nat) (hT : TOk T) (hL : OkHops L) (hlen : L.length ≤ 1048576) (J : List Tm → World → Prop) (W : World) (hJ : UpFrom W.heap.size J) (hKp : ∀ pre W1, J pre W1 → KpW Bq Bh v L W1)
    (hY : ∀ pre x W1, J pre W1 → pre.length < 8 * 2 ^ room → YieldAt Fence.wide (n - 1) Try.prog l #[tv x.1] W1 fun e W' => e = .returned (.bool true) ∧ J (pre ++ [x]) W' ∧ KeepsUp W.heap.size W1 W')
    (hBf : BlkT W Bf T) (h0 : J [] W) :
    CallsIn Fence.wide n Try.prog 72 #[.func (.yield l) #[] #[], .pointer (some ⟨Bq, 0, none⟩), .pointer (some ⟨Bh, 0, none⟩), .pointer (some ⟨Bf, 0, none⟩)] W fun e W' => (∃ v, e = .returned v) ∧ ∃ xs, SeqS (onw L) (onw L T) xs ∧ J xs W' := by
  have hn1 : 1 ≤ n := by omega
  have hro : Fence.wide.round = none := rfl
  have hFF : ∀ f, Fence.wide.fn f := fun _ => trivial
  have hst : ∀ U, TOk U → TOk (onw L U) := fun U h => onw_ok h
  obtain ⟨k1, k2, k3⟩ := hKp [] W h0
  have b1 : Below W.heap.size W (W.alloc (.cells (tw t0) 94)) := (Below.refl _ _).alloc (Nat.le_refl _) _
  have HBF := Lib.hid (hBf.alloc (.cells (tw t0) 94))
  have HV := Lib.hid (k3.below b1)
  have HBS : Hid (BlkT (W.alloc (.cells (tw t0) 94)) W.heap.size t0) := Lib.hid (BlkA.new rfl _ _)
  have HJ0 := Lib.hid (hJ.alloc h0 (.cells (tw t0) 94))
  have HB1 := Lib.hid b1
  have HJ := Lib.hid hJ
  have HY := Lib.hid hY
  have HKP := Lib.hid hKp
  have HT := Lib.hid hT
  have HLT := Lib.hid hT.len
  have HL := Lib.hid hL
  obtain ⟨W1, e1⟩ : ∃ V, W.alloc (.cells (tw t0) 94) = V := ⟨_, rfl⟩
  rw [e1] at HBF HV HBS HJ0 HB1
  have hs1 : W1.heap.size = W.heap.size + 1 := by rw [← e1]; simp
  rw [tw_zero] at e1
  have g1 : W1.cell? ⟨Bq, 0, none⟩ = some (.func (.func 43) #[] #[]) := (HB1.out.cell (p := ⟨Bq, 0, none⟩) (World.block_lt_of_cell? W _ k1)).trans k1
  have g2 : W1.cell? ⟨Bh, 0, none⟩ = some v := (HB1.out.cell (p := ⟨Bh, 0, none⟩) (World.block_lt_of_cell? W _ k2)).trans k2
  rw [← e1] at g1 g2
  have E1 := Lib.hid e1
  clear hJ hKp hY hBf h0 k1 k2 k3 b1 hT hL e1
  refine callsIn_of_wp Try.func72 rfl (hFF _) ?_ hro
  simp only [Try.ntmps72, List.size_toArray, List.length_cons, List.length_nil, Nat.reduceAdd, Nat.reduceSub, Array.replicate_succ, Array.replicate_zero, List.push_toArray, List.append_toArray, List.nil_append, List.cons_append]
  gi_wp2_with (refine wpListIn_load_row (o := ⟨some 9, _, _, _, _, _⟩) rfl 94 (.tmp 3) rfl Bf rfl 94 (tw T) (0, 0) _ (by rw [E1.out]; exact HBF.out) (show Try.prog.underlying 94 = some (.array 8 92) by kernel_rfl) rfl (tw_info HLT.out) ?_)
  rw [E1.out]
  refine ((callsIn_wide (n := n - 1)).2 (ionward_any v L T HT.out HL.out hlen W1 HV.out)).mono ?_
  rintro e W2 ⟨rfl, b2⟩
  have hst : ∀ U, TOk U → TOk (onw L U) := fun U h => onw_ok h
  have hA0 : TOk (onw L T) := onw_ok HT.out
  obtain ⟨A0, hA⟩ : ∃ A, onw L T = A := ⟨_, rfl⟩
  rw [hA] at hA0 ⊢
  have HAE := Lib.hid hA
  have HST := Lib.hid hst
  have HA0 := Lib.hid hA0
  obtain ⟨W3, e3⟩ : ∃ V, W2.alloc (.cells (tw t0) 94) = V := ⟨_, rfl⟩
  have hs2 : W1.heap.size ≤ W2.heap.size := b2.size
  have HN3 : Hid (BlkT W3 W2.heap.size t0) := Lib.hid (by rw [← e3]; exact BlkA.new rfl _ _)
  have HB3 : Hid (Below W1.heap.size W1 W3) := Lib.hid (by rw [← e3]; exact b2.alloc hs2 _)
  rw [tw_zero] at e3
  have E3 := Lib.hid e3
  clear hA hst hA0 e3 b2 g1 g2
  gi_wp2_with (refine wpListIn_store_row (o := ⟨none, _, _, _, _, _⟩) rfl 94 (.tmp 6) (.tmp 10) rfl W2.heap.size (tw A0) rfl rfl 94 (tw t0) (by rw [E3.out]; exact HN3.out) (tw_info HA0.out.len) (by rw [tw_size, tw_size, HA0.out.len, t0_ok.len]) (tw_ones _) ?_)
  rw [E3.out]
  obtain ⟨W4, e4⟩ : ∃ V, W3.setRow W2.heap.size (tw A0) = V := ⟨_, rfl⟩
  have HN4 : Hid (BlkT W4 W2.heap.size A0) := Lib.hid (by rw [← e4]; exact HN3.out.setRow_same)
  have HS4 : Hid (BlkT W4 W.heap.size t0) := Lib.hid (by rw [← e4]; exact BlkT.setRow_other (BlkA.below HBS.out HB3.out) (by omega))
  have HJ4 : Hid (J [] W4) := Lib.hid (by
    rw [← e4]
    exact HJ.out [] W3 _ _ (HJ.out [] W1 W3 none HJ0.out (grown_belowI HB3.out none) (fun r e => by cases e)) (grown_setRow W3 W2.heap.size (tw A0)) (fun r e => by cases e; omega))
  rw [e4]
  clear e4
  rw [show ∀ (a : Act), a.put none undef = a from fun _ => rfl]
  gi_loopw [6] (fun x wr => ∃ (k : Nat) (pre : List Tm) (Ba : Nat), x = .pointer (some ⟨Ba, 0, none⟩) ∧ pre.map (·.1) = (List.range k).map (atK (onw L) A0) ∧ W.heap.size < Ba ∧ BlkT wr Ba (atK (onw L) A0 k) ∧ BlkT wr W.heap.size (seenK (onw L) A0 k) ∧ J pre wr ∧ k ≤ sumT (seenK (onw L) A0 k)) (fun x wr => 8 * 2 ^ room - rankT' wr W.heap.size)
  case atStart => exact ⟨0, [], W2.heap.size, rfl, rfl, by omega, HN4.out, HS4.out, HJ4.out, Nat.zero_le _⟩
  case round =>
    obtain ⟨k, pre, Ba, rfl, hpre, hBa, hba, hbs, hJp, hk⟩ := hrel
    have hokA : TOk (atK (onw L) A0 k) := atK_ok HST.out HA0.out k
    have hokS : TOk (seenK (onw L) A0 k) := seenK_ok HST.out HA0.out k
    have hgrow : orT (atK (onw L) A0 k) (seenK (onw L) A0 k) ≠ seenK (onw L) A0 k → sumT (seenK (onw L) A0 k) < sumT (seenK (onw L) A0 (k + 1)) := fun h => seenK_grows HST.out HA0.out h
    have hrank := rankT'_of hokS hbs
    have hlt := sumT_lt hokS
    have hlt2 := sumT_lt (seenK_ok HST.out HA0.out (k + 1))
    have hpl : pre.length = k := by have h := congrArg List.length hpre; simpa using h
    have HSE : Hid (orT (atK (onw L) A0 k) (seenK (onw L) A0 k) = seenK (onw L) A0 k → SeqS (onw L) A0 pre) := Lib.hid (fun h => ⟨k, hpre, h⟩)
    have HMAP : Hid (∀ x : Tm, x.1 = atK (onw L) A0 k → (pre ++ [x]).map (·.1) = (List.range (k + 1)).map (atK (onw L) A0)) := Lib.hid (fun x hx => by rw [List.map_append, hpre, List.range_succ, List.map_append, List.map_singleton, List.map_singleton, hx])
    have hA1 : atK (onw L) A0 (k + 1) = onw L (atK (onw L) A0 k) := rfl
    have hS1 : seenK (onw L) A0 (k + 1) = orT (seenK (onw L) A0 k) (atK (onw L) A0 k) := rfl
    have hokS1 := seenK_ok HST.out HA0.out (k + 1)
    obtain ⟨A1, hA1'⟩ : ∃ X, atK (onw L) A0 (k + 1) = X := ⟨_, rfl⟩
    obtain ⟨S1, hS1'⟩ : ∃ X, seenK (onw L) A0 (k + 1) = X := ⟨_, rfl⟩
    rw [hA1'] at hA1
    rw [hS1'] at hS1 hgrow hlt2 hokS1
    obtain ⟨A, hA⟩ : ∃ A, atK (onw L) A0 k = A := ⟨_, rfl⟩
    obtain ⟨S, hS⟩ : ∃ S, seenK (onw L) A0 k = S := ⟨_, rfl⟩
    rw [hA] at hokA hgrow HSE HMAP hba hA1 hS1
    rw [hS] at hokS hgrow hbs HSE hrank hlt hk hS1
    have HOKA := Lib.hid hokA
    have HOKS := Lib.hid hokS
    have HBA := Lib.hid hba
    have HBSN := Lib.hid hbs
    have HJP := Lib.hid hJp
    have HGR := Lib.hid hgrow
    have HRK := Lib.hid hrank
    have HLTS := Lib.hid hlt
    have HLT2 := Lib.hid hlt2
    have HK := Lib.hid hk
    have HPL := Lib.hid hpl
    have HA1 := Lib.hid hA1
    have HS1 := Lib.hid hS1
    have HA1' := Lib.hid hA1'
    have HS1' := Lib.hid hS1'
    have HOKS1 := Lib.hid hokS1
    have hg := guard_times
    clear hpre hokA hokS hba hbs hJp hgrow hrank hlt hlt2 hk hpl hA1 hS1 hA1' hS1' hA hS hokS1
    by_cases hend : orT A S = S
    · have heq : ∀ Z, (Op.equalIn 10000 94 (tv (orT A S)) (tv S)).run Try.prog Z = .ok true Z := fun Z => by rw [times_eq _ _ (orT_ok HOKA.out HOKS.out) HOKS.out, decide_eq_true hend]
      have HSEQ := Lib.hid (HSE.out hend)
      clear hend
      gi_wp2_with fail
      refine wpIn_region_class (fun V => BlkT V Ba A ∧ BlkT V W.heap.size S ∧ Below wr.heap.size wr V) rfl (by kernel_rfl) (by kernel_rfl) ⟨BlkA.drew HBA.out, BlkA.drew HBSN.out, (Below.refl _ _).drew⟩ ?_
      refine quietIn_load_row (o := ⟨some 11, _, _, _, _, _⟩) rfl 94 (.tmp 6) rfl Ba rfl 94 (tw A) _ (fun V h => h.1) (show Try.prog.underlying 94 = some (.array 8 92) by kernel_rfl) rfl (tw_info HOKA.out.len) ?_
      refine quietIn_load_row (o := ⟨some 12, _, _, _, _, _⟩) rfl 94 (.tmp 5) rfl W.heap.size rfl 94 (tw S) _ (fun V h => h.2.1) (show Try.prog.underlying 94 = some (.array 8 92) by kernel_rfl) rfl (tw_info HOKS.out.len) ?_
      refine wpQuietIn_step (by quiet_asked_in) (fun K hK => ?_)
      go_simp
      refine ⟨tv (orT A S), fun V h1 h2 h3 => ((callsIn_wide (n := n - 1)).2 (itor_any A S HOKA.out HOKS.out V)).mono (fun e w' hh => ⟨hh.1, BlkA.below h1 hh.2, BlkA.below h2 hh.2, blink h3 hh.2⟩), hK _ ?_⟩
      clear hK K
      refine quietIn_load_row (o := ⟨some 14, _, _, _, _, _⟩) rfl 94 (.tmp 5) rfl W.heap.size rfl 94 (tw S) _ (fun V h => h.2.1) (show Try.prog.underlying 94 = some (.array 8 92) by kernel_rfl) rfl (tw_info HOKS.out.len) ?_
      refine wpQuietIn_step (by quiet_asked_in) (fun K hK => ?_)
      go_simp
      refine ⟨.bool false, fun V _ _ _ => rfl, hK _ ?_⟩
      clear hK K
      refine wpQuietIn_nil ?_
      rintro V ⟨h1, h2, h3⟩
      have HJV := Lib.hid (HJ.out pre wr V none HJP.out (grown_belowI h3 none) (fun r e => by cases e))
      clear h1 h2 h3
      gi_wp2_with fail
      go_end0
      exact ⟨⟨_, rfl⟩, pre, by rw [HAE.out]; exact HSEQ.out, HJV.out⟩
    · have heq : ∀ Z, (Op.equalIn 10000 94 (tv (orT A S)) (tv S)).run Try.prog Z = .ok false Z := fun Z => by rw [times_eq _ _ (orT_ok HOKA.out HOKS.out) HOKS.out, decide_eq_false hend]
      have HEND := Lib.hid hend
      clear hend
      gi_wp2_with fail
      refine wpIn_region_class (fun V => BlkT V Ba A ∧ BlkT V W.heap.size S ∧ Below wr.heap.size wr V) rfl (by kernel_rfl) (by kernel_rfl) ⟨BlkA.drew HBA.out, BlkA.drew HBSN.out, (Below.refl _ _).drew⟩ ?_
      refine quietIn_load_row (o := ⟨some 11, _, _, _, _, _⟩) rfl 94 (.tmp 6) rfl Ba rfl 94 (tw A) _ (fun V h => h.1) (show Try.prog.underlying 94 = some (.array 8 92) by kernel_rfl) rfl (tw_info HOKA.out.len) ?_
      refine quietIn_load_row (o := ⟨some 12, _, _, _, _, _⟩) rfl 94 (.tmp 5) rfl W.heap.size rfl 94 (tw S) _ (fun V h => h.2.1) (show Try.prog.underlying 94 = some (.array 8 92) by kernel_rfl) rfl (tw_info HOKS.out.len) ?_
      refine wpQuietIn_step (by quiet_asked_in) (fun K hK => ?_)
      go_simp
      refine ⟨tv (orT A S), fun V h1 h2 h3 => ((callsIn_wide (n := n - 1)).2 (itor_any A S HOKA.out HOKS.out V)).mono (fun e w' hh => ⟨hh.1, BlkA.below h1 hh.2, BlkA.below h2 hh.2, blink h3 hh.2⟩), hK _ ?_⟩
      clear hK K
      refine quietIn_load_row (o := ⟨some 14, _, _, _, _, _⟩) rfl 94 (.tmp 5) rfl W.heap.size rfl 94 (tw S) _ (fun V h => h.2.1) (show Try.prog.underlying 94 = some (.array 8 92) by kernel_rfl) rfl (tw_info HOKS.out.len) ?_
      refine wpQuietIn_step (by quiet_asked_in) (fun K hK => ?_)
      go_simp
      refine ⟨.bool true, fun V _ _ _ => rfl, hK _ ?_⟩
      clear hK K
      refine wpQuietIn_nil ?_
      rintro V ⟨h1, h2, h3⟩
      have HJV := Lib.hid (HJ.out pre wr V none HJP.out (grown_belowI h3 none) (fun r e => by cases e))
      have HA5 := Lib.hid h1
      have HS5 := Lib.hid h2
      obtain ⟨fn, tmps, assign, body, hyl, hR⟩ := HY.out pre ⟨A, HOKA.out⟩ V HJV.out (by rw [HPL.out]; have := HK.out; have := HLTS.out; omega)
      have hmap := HMAP.out ⟨A, HOKA.out⟩ rfl
      obtain ⟨ys, hys⟩ : ∃ ys : List Tm, pre ++ [⟨A, HOKA.out⟩] = ys := ⟨_, rfl⟩
      rw [hys] at hR hmap
      have HMAPY := Lib.hid hmap
      simp only at hyl
      clear h1 h2 h3 hmap hys
      gi_wp2_with (refine wpListIn_load_row (o := ⟨some 21, _, _, _, _, _⟩) rfl 94 (.tmp 6) rfl Ba rfl 94 (tw A) (0, 0) _ HA5.out (show Try.prog.underlying 94 = some (.array 8 92) by kernel_rfl) rfl (tw_info HOKA.out.len) ?_)
      refine hR.mono ?_
      rintro e W6 ⟨rfl, hJ6, hk6⟩
      have HA6 : Hid (BlkT W6 Ba A) := Lib.hid (hk6.same _ _ (by omega) HA5.out)
      have HS6 : Hid (BlkT W6 W.heap.size S) := Lib.hid (hk6.same _ _ (Nat.le_refl _) HS5.out)
      have HJ6 := Lib.hid hJ6
      clear hyl hR hJ6 hk6
      gi_wp2_with (first
        | (refine wpListIn_load_row (o := ⟨some 24, _, _, _, _, _⟩) rfl 94 (.tmp 5) rfl W.heap.size rfl 94 (tw S) (0, 0) _ HS6.out (show Try.prog.underlying 94 = some (.array 8 92) by kernel_rfl) rfl (tw_info HOKS.out.len) ?_)
        | (refine wpListIn_load_row (o := ⟨some 25, _, _, _, _, _⟩) rfl 94 (.tmp 6) rfl Ba rfl 94 (tw A) (0, 0) _ HA6.out (show Try.prog.underlying 94 = some (.array 8 92) by kernel_rfl) rfl (tw_info HOKA.out.len) ?_))
      refine ((callsIn_wide (n := n - 1)).2 (itor_any S A HOKS.out HOKA.out W6)).mono ?_
      rintro e W7 ⟨rfl, b7⟩
      rw [← HS1.out]
      have HS7 : Hid (BlkT W7 W.heap.size S) := Lib.hid (BlkA.below HS6.out b7)
      have a7 : BlkT W7 Ba A := BlkA.below HA6.out b7
      have j7 : J ys W7 := HJ.out ys W6 W7 none HJ6.out (grown_belowI b7 none) (fun r e => by cases e)
      obtain ⟨X1, x1⟩ : ∃ X, W7.setRow W.heap.size (tw S1) = X := ⟨_, rfl⟩
      have a8 : BlkT X1 Ba A := by rw [← x1]; exact a7.setRow_other (by omega)
      have s8 : BlkT X1 W.heap.size S1 := by rw [← x1]; exact HS7.out.setRow_same
      have j8 : J ys X1 := by rw [← x1]; exact HJ.out ys W7 _ _ j7 (grown_setRow _ _ _) (fun r e => by cases e; exact Nat.le_refl _)
      have hx1s : X1.heap.size = W7.heap.size := by rw [← x1]; simp [World.setRow]
      have hz8 : W.heap.size < W7.heap.size := by rw [← hx1s]; exact BlkA.lt s8
      obtain ⟨X2, x2⟩ : ∃ X, X1.alloc (.cells (tw t0) 94) = X := ⟨_, rfl⟩
      have n9 : BlkT X2 W7.heap.size t0 := by rw [← x2, ← hx1s]; exact BlkA.new rfl _ _
      have s9 : BlkT X2 W.heap.size S1 := by rw [← x2]; exact BlkA.alloc s8 _
      have j9 : J ys X2 := by rw [← x2]; exact HJ.out.alloc j8 _
      obtain ⟨X3, x3⟩ : ∃ X, X2.setRow W7.heap.size (tw A) = X := ⟨_, rfl⟩
      have n10 : BlkT X3 W7.heap.size A := by rw [← x3]; exact n9.setRow_same
      have s10 : BlkT X3 W.heap.size S1 := by rw [← x3]; exact s9.setRow_other (by omega)
      have j10 : J ys X3 := by rw [← x3]; exact HJ.out ys X2 _ _ j9 (grown_setRow _ _ _) (fun r e => by cases e; omega)
      obtain ⟨g1, g2, g3⟩ := HKP.out ys X3 j10
      rw [tw_zero] at x2
      have HX1 := Lib.hid x1
      have HX2 := Lib.hid x2
      have HX3 := Lib.hid x3
      have HA8 := Lib.hid a8
      have HN9 := Lib.hid n9
      have HN10 := Lib.hid n10
      have HS10 := Lib.hid s10
      have HJ10 := Lib.hid j10
      have HG3 := Lib.hid g3
      rw [← x3, ← x2, ← x1] at g1 g2
      clear x1 x2 x3 hx1s a7 j7 a8 s8 j8 n9 s9 j9 n10 s10 j10 g3 b7
      gi_wp2_with (first
        | (refine wpListIn_store_row (o := ⟨none, _, _, _, _, _⟩) rfl 94 (.tmp 5) (.tmp 26) rfl W.heap.size (tw S1) rfl rfl 94 (tw S) HS7.out (tw_info HOKS1.out.len) (by rw [tw_size, tw_size, HOKS1.out.len, HOKS.out.len]) (tw_ones _) ?_)
        | (refine wpListIn_load_row (o := ⟨some 27, _, _, _, _, _⟩) rfl 94 (.tmp 6) rfl Ba rfl 94 (tw A) (0, 0) _ (by rw [HX1.out]; exact HA8.out) (show Try.prog.underlying 94 = some (.array 8 92) by kernel_rfl) rfl (tw_info HOKA.out.len) ?_)
        | (refine wpListIn_store_row (o := ⟨none, _, _, _, _, _⟩) rfl 94 (.tmp 6) (.tmp 27) rfl _ (tw A) rfl rfl 94 (tw t0) (by rw [HX1.out, HX2.out]; exact HN9.out) (tw_info HOKA.out.len) (by rw [tw_size, tw_size, HOKA.out.len, t0_ok.len]) (tw_ones _) ?_)
        | (refine wpListIn_load_row (o := ⟨some 18, _, _, _, _, _⟩) rfl 94 (.tmp 6) rfl _ rfl 94 (tw A) (0, 0) _ (by rw [HX1.out, HX2.out, HX3.out]; exact HN10.out) (show Try.prog.underlying 94 = some (.array 8 92) by kernel_rfl) rfl (tw_info HOKA.out.len) ?_))
      rw [HX1.out, HX2.out, HX3.out]
      refine ((callsIn_wide (n := n - 1)).2 (ionward_any v L A HOKA.out HL.out hlen X3 HG3.out)).mono ?_
      rintro e W8 ⟨rfl, b8⟩
      rw [← HA1.out]
      have HOKA1 : Hid (TOk A1) := Lib.hid (by rw [HA1.out]; exact HST.out A HOKA.out)
      have HN11 : Hid (BlkT W8 W7.heap.size A) := Lib.hid (BlkA.below HN10.out b8)
      have HS11 : Hid (BlkT W8 W.heap.size S1) := Lib.hid (BlkA.below HS10.out b8)
      have HJ11 : Hid (J ys W8) := Lib.hid (HJ.out ys X3 W8 none HJ10.out (grown_belowI b8 none) (fun r e => by cases e))
      clear g1 g2 b8
      gi_wp2_with (refine wpListIn_store_row (o := ⟨none, _, _, _, _, _⟩) rfl 94 (.tmp 6) (.tmp 19) rfl W7.heap.size (tw A1) rfl rfl 94 (tw A) HN11.out (tw_info HOKA1.out.len) (by rw [tw_size, tw_size, HOKA1.out.len, HOKA.out.len]) (tw_ones _) ?_)
      try rw [show ∀ (a : Act), a.put none undef = a from fun _ => rfl]
      have s12 : BlkT (W8.setRow W7.heap.size (tw A1)) W.heap.size S1 := HS11.out.setRow_other (by omega)
      go_roundw
      case rel => exact ⟨k + 1, ys, W7.heap.size, rfl, HMAPY.out, hz8, by rw [HA1'.out]; exact HN11.out.setRow_same, by rw [HS1'.out]; exact s12, HJ.out ys W8 _ _ HJ11.out (grown_setRow _ _ _) (fun r e => by cases e; omega), by rw [HS1'.out]; have h1 := HGR.out HEND.out; have h2 := HK.out; omega⟩
      case measure =>
        rw [rankT'_of HOKS1.out s12, HRK.out]
        have h1 := HGR.out HEND.out
        have h2 := HLT2.out
        omega
end Go.Proofs.Ytamnojhkfknnoaa
/-
  The arrivals behind a scan.
-/
namespace Go.Proofs.Ytamnojhkfknnoaa
open Go Go.RowKit Go.Shelf
set_option linter.unusedVariables false
attribute [local go_sem] Oper.semAt_some

def orL (xs : List Tm) : List Nat := (xs.map (·.1)).foldl orT t0
theorem orL_snoc (xs : List Tm) (x : Tm) : orL (xs ++ [x]) = orT (orL xs) x.1 := by simp [orL]
theorem orL_ok (xs : List Tm) : TOk (orL xs) := by
  have : ∀ (ys : List Tm) (T : List Nat), TOk T → TOk ((ys.map (·.1)).foldl orT T) := fun ys => by
    induction ys with
    | nil => intro T h; exact h
    | cons y ys ih => intro T h; exact ih _ (orT_ok h y.2)
  exact this xs t0 t0_ok
theorem orL_seen {st : List Nat → List Nat} {A : List Nat} {xs : List Tm} {k : Nat} (h : xs.map (·.1) = (List.range k).map (atK st A)) : orL xs = seenK st A k := by
  unfold orL
  rw [h]
  clear h
  induction k with
  | zero => rfl
  | succ k ih => rw [List.range_succ, List.map_append, List.foldl_append, ih]; rfl
theorem alloc_setRow (W : World) (cs cs' : Array Value) (t : TypeId) : (W.alloc (.cells cs t)).setRow W.heap.size cs' = W.alloc (.cells cs' t) := by
  unfold World.setRow World.alloc
  congr 1
  apply Array.ext_getElem?
  intro i
  rw [Array.getElem?_modify, Array.getElem?_push, Array.getElem?_push]
  by_cases h : i = W.heap.size
  · subst h; simp
  · rw [if_neg (fun e => h e.symm)]; simp [h]

set_option maxHeartbeats 1000000 in
set_option maxRecDepth 100000 in
theorem iwalk_any (av : Option Addr) (len cap : Nat) (T : List Nat) (w : World) :
    Calls Try.prog 60 #[.slice av len cap, .func (.func 43) #[] #[], tv T] w fun e w' => e = .returned (.func (.func 72) #[] #[.pointer (some ⟨w.heap.size + 1, 0, none⟩), .pointer (some ⟨w.heap.size, 0, none⟩), .pointer (some ⟨w.heap.size + 1 + 1, 0, none⟩)]) ∧ w' = ((w.alloc (.cells #[.slice av len cap] 65)).alloc (.cells #[.func (.func 43) #[] #[]] 123)).alloc (.cells (tw T) 94) := by
  go_enter Try.func60, Try.ntmps60
  go_wp2_with fail
  go_ret
  exact ⟨rfl, rfl⟩

set_option maxHeartbeats 2000000 in
set_option maxRecDepth 100000 in
theorem iarr_in (av : Option Addr) (len cap : Nat) (L : List Lan) (s0 h0 : Nat) (hL : OkHops L) (hlen : L.length ≤ 1048576) (hs0 : s0 < 8) (hh0 : h0 ≤ 300) (w : World) (hv : ReadsLa w (.slice av len cap) L) :
    CallsIn Fence.wide 9 Try.prog 52 #[.slice av len cap, .agg #[.int .i8 (s0 : Int), .int .i16 (h0 : Int)]] w fun e w' => ∃ k, e = .returned (tv (seenK (onw L) (onw L (tOf s0 h0)) k)) ∧ orT (atK (onw L) (onw L (tOf s0 h0)) k) (seenK (onw L) (onw L (tOf s0 h0)) k) = seenK (onw L) (onw L (tOf s0 h0)) k ∧ Below w.heap.size w w' := by
  have hro : Fence.wide.round = none := rfl
  have hFF : ∀ f, Fence.wide.fn f := fun _ => trivial
  have hb1 : Below w.heap.size w (((w.alloc (.cells #[.int .i8 (s0 : Int), .int .i16 (h0 : Int)] 49)).alloc (.cells (tw t0) 94)).alloc (.cells (tw t0) 94)) := ((((Below.refl _ _).alloc (Nat.le_refl _) _).alloc (by simp) _).alloc (by simp; omega) _)
  have BR : BlkT (((w.alloc (.cells #[.int .i8 (s0 : Int), .int .i16 (h0 : Int)] 49)).alloc (.cells (tw t0) 94)).alloc (.cells (tw t0) 94)) (w.heap.size + 1) t0 := (BlkA.new (by simp) _ _).alloc _
  have BL : BlkT (((w.alloc (.cells #[.int .i8 (s0 : Int), .int .i16 (h0 : Int)] 49)).alloc (.cells (tw t0) 94)).alloc (.cells (tw t0) 94)) (w.heap.size + 1 + 1) t0 := BlkA.new (by simp) _ _
  have HV := Lib.hid hv
  have HL := Lib.hid hL
  obtain ⟨W3, e3⟩ : ∃ X, (((w.alloc (.cells #[.int .i8 (s0 : Int), .int .i16 (h0 : Int)] 49)).alloc (.cells (tw t0) 94)).alloc (.cells (tw t0) 94)) = X := ⟨_, rfl⟩
  rw [e3] at hb1 BR BL
  rw [tw_zero] at e3
  have HB1 := Lib.hid hb1
  have HBR := Lib.hid BR
  have HBL := Lib.hid BL
  have E3 := Lib.hid e3
  clear hv hL hb1 BR BL e3
  refine callsIn_of_wp_marks Try.func52 rfl (hFF _) ?_ hro
  simp only [Try.ntmps52, List.size_toArray, List.length_cons, List.length_nil, Nat.reduceAdd, Nat.reduceSub, Array.replicate_succ, Array.replicate_zero, List.push_toArray, List.append_toArray, List.nil_append, List.cons_append]
  gi_wp2
  rw [E3.out]
  refine ((callsIn_wide (n := 8)).2 (itimesOf_any s0 h0 hs0 hh0 W3)).mono ?_
  rintro e W4 ⟨rfl, b4⟩
  have HB4 := Lib.hid b4
  clear b4
  gi_wp2
  refine ((callsIn_wide (n := 8)).2 (iwalk_any av len cap (tOf s0 h0) W4)).mono ?_
  rintro e W5 ⟨rfl, e5⟩
  have hs4 : w.heap.size + 1 + 1 < W4.heap.size := BlkA.lt (BlkA.below HBL.out HB4.out)
  have hb5 : Below W4.heap.size W4 W5 := by rw [e5]; exact ((((Below.refl _ _).alloc (Nat.le_refl _) _).alloc (by simp) _).alloc (by simp; omega) _)
  have hbh : BlkA W5 W4.heap.size 65 #[.slice av len cap] := by rw [e5]; exact ((BlkA.new rfl _ _).alloc _).alloc _
  have hbq : BlkA W5 (W4.heap.size + 1) 123 #[.func (.func 43) #[] #[]] := by rw [e5]; exact (BlkA.new (by simp) _ _).alloc _
  have hbf : BlkT W5 (W4.heap.size + 1 + 1) (tOf s0 h0) := by rw [e5]; exact BlkA.new (by simp) _ _
  have hs5 : W4.heap.size + 1 + 1 < W5.heap.size := BlkA.lt hbf
  have hbw : Below w.heap.size w W5 := blink (blink HB1.out HB4.out) hb5
  have hbr : BlkT W5 (w.heap.size + 1) t0 := BlkA.below (BlkA.below HBR.out HB4.out) hb5
  have hbl : BlkT W5 (w.heap.size + 1 + 1) t0 := BlkA.below (BlkA.below HBL.out HB4.out) hb5
  have HBH := Lib.hid hbh
  have HBQ := Lib.hid hbq
  have HBF := Lib.hid hbf
  have HBW := Lib.hid hbw
  have HBR5 := Lib.hid hbr
  have HBL5 := Lib.hid hbl
  have HE5 := Lib.hid e5
  clear e5 hb5 hbh hbq hbf hbw hbr hbl
  gi_wp2
  try rw [← HE5.out]
  refine wpIn_range_upK (α := Tm) hro (by omega) (gf := 72) (lb := #[.pointer (some ⟨W4.heap.size + 1, 0, none⟩), .pointer (some ⟨W4.heap.size, 0, none⟩), .pointer (some ⟨W4.heap.size + 1 + 1, 0, none⟩)]) rfl (hFF _) (enters_of Try.func72 (by kernel_rfl) rfl)
    (encs := fun x => #[tv x.1]) (S := SeqS (onw L) (onw L (tOf s0 h0))) (N := 8 * 2 ^ room) (Kp := KpW (W4.heap.size + 1) W4.heap.size (.slice av len cap) L) (w0 := W5)
    (fun l J W hW hJ hKp hY hJ0 => walk1_in 8 (by omega) l _ _ _ (.slice av len cap) L (tOf s0 h0) (tOf_ok s0 h0 hh0) HL.out hlen J W hJ hKp hY (BlkA.below HBF.out hW) hJ0) (Below.refl _ _) (fun _ => rfl)
    (fun xs W => BlkT W (w.heap.size + 1 + 1) (orL xs) ∧ BlkT W (w.heap.size + 1) t0 ∧ BlkA W (W4.heap.size + 1) 123 #[.func (.func 43) #[] #[]] ∧ BlkA W W4.heap.size 65 #[.slice av len cap] ∧ Below w.heap.size w W)
    ?up ?kp ⟨HBL5.out, HBR5.out, HBQ.out, HBH.out, HBW.out⟩
    (fun x b => { tmps := #[.slice av len cap, .agg #[.int .i8 (s0 : Int), .int .i16 (h0 : Int)], undef, .pointer (some ⟨w.heap.size, 0, none⟩), .pointer (some ⟨w.heap.size + 1, 0, none⟩), .pointer (some ⟨w.heap.size + 1 + 1, 0, none⟩), .pointer (some ⟨b, 0, none⟩), .slice av len cap, .agg #[.int .i8 (s0 : Int), .int .i16 (h0 : Int)], tv (tOf s0 h0), .func (.func 72) #[] #[.pointer (some ⟨W4.heap.size + 1, 0, none⟩), .pointer (some ⟨W4.heap.size, 0, none⟩), .pointer (some ⟨W4.heap.size + 1 + 1, 0, none⟩)], tv x.1, undef, undef, undef, undef], defers := [] })
    (fun x => .cells (tw x.1) 94) ?assign ?body ?done
  case up =>
    rintro xs A B row ⟨h1, h2, h3, h4, h5⟩ hg hr
    have far : ∀ k, k < W5.heap.size → some k ≠ row := fun k hk e => by have := hr k e.symm; omega
    exact ⟨(hg.block _ (BlkA.lt h1) (far _ (by omega))).trans h1, (hg.block _ (BlkA.lt h2) (far _ (by omega))).trans h2, (hg.block _ (BlkA.lt h3) (far _ (by omega))).trans h3, (hg.block _ (BlkA.lt h4) (far _ (by omega))).trans h4, h5.grown hg (by have := h5.size; omega) (fun k e => by have := hr k e; omega)⟩
  case kp =>
    rintro xs W ⟨h1, h2, h3, h4, h5⟩
    exact ⟨h3.at 0, h4.at 0, HV.out.below h5⟩
  case assign =>
    intro l x W K hK
    obtain ⟨W2, e2⟩ : ∃ X, W.alloc (.cells (tw t0) 94) = X := ⟨_, rfl⟩
    have hn : BlkT W2 W.heap.size t0 := by rw [← e2]; exact BlkA.new rfl _ _
    have hw : W2.setRow W.heap.size (tw x.1) = W.alloc (.cells (tw x.1) 94) := by rw [← e2]; exact alloc_setRow W _ _ _
    rw [tw_zero] at e2
    have HE := Lib.hid e2
    have HN := Lib.hid hn
    have HW := Lib.hid hw
    clear e2 hn hw
    obtain ⟨X, hX⟩ := x
    simp only at HW hK ⊢
    gi_wp2_with (refine wpListIn_store_row (o := ⟨none, _, _, _, _, _⟩) rfl 94 (.tmp 6) (.tmp 11) rfl W.heap.size (tw X) rfl rfl 94 (tw t0) (by rw [HE.out]; exact HN.out) (tw_info hX.len) (by rw [tw_size, tw_size, hX.len, t0_ok.len]) (tw_ones _) ?_)
    rw [HE.out, HW.out]
    exact hK
  case body =>
    rintro l pre x b W ⟨h1, h2, h3, h4, h5⟩ hpl hbge hbl
    have hsn := orL_snoc pre x
    have hoks := orL_ok (pre ++ [x])
    have hok0 := orL_ok pre
    obtain ⟨X, hX⟩ := x
    simp only at hsn hbl ⊢
    obtain ⟨R0, hR0⟩ : ∃ R, orL pre = R := ⟨_, rfl⟩
    obtain ⟨R1, hR1⟩ : ∃ R, orL (pre ++ [⟨X, hX⟩]) = R := ⟨_, rfl⟩
    rw [hR0] at hsn h1 hok0
    rw [hR1] at hsn hoks
    have HSN := Lib.hid hsn
    have HR1 := Lib.hid hR1
    have H1 := Lib.hid h1
    have H2 := Lib.hid h2
    have H3 := Lib.hid h3
    have H4 := Lib.hid h4
    have H5 := Lib.hid h5
    have HX : Hid (BlkT W b X) := Lib.hid hbl
    clear hsn hR0 hR1 h1 h2 h3 h4 h5 hbl
    gi_wp2_with (first
      | (refine wpListIn_load_row (o := ⟨some 12, _, _, _, _, _⟩) rfl 94 (.tmp 5) rfl (w.heap.size + 1 + 1) rfl 94 (tw R0) (0, 0) _ H1.out (show Try.prog.underlying 94 = some (.array 8 92) by kernel_rfl) rfl (tw_info hok0.len) ?_)
      | (refine wpListIn_load_row (o := ⟨some 13, _, _, _, _, _⟩) rfl 94 (.tmp 6) rfl b rfl 94 (tw X) (0, 0) _ HX.out (show Try.prog.underlying 94 = some (.array 8 92) by kernel_rfl) rfl (tw_info hX.len) ?_))
    refine (CallsIn.inRound l ((callsIn_wide (n := _)).2 (itor_any R0 X hok0 hX W))).mono ?_
    rintro e W7 ⟨rfl, b7⟩
    rw [← HSN.out]
    have H17 : Hid (BlkT W7 (w.heap.size + 1 + 1) R0) := Lib.hid (BlkA.below H1.out b7)
    have H27 : Hid (BlkT W7 (w.heap.size + 1) t0) := Lib.hid (BlkA.below H2.out b7)
    have H37 := Lib.hid (H3.out.below b7)
    have H47 := Lib.hid (H4.out.below b7)
    have H57 := Lib.hid (blink H5.out b7)
    have HB7 := Lib.hid b7
    clear b7
    gi_wp2_with (refine wpListIn_store_row (o := ⟨none, _, _, _, _, _⟩) rfl 94 (.tmp 5) (.tmp 14) rfl (w.heap.size + 1 + 1) (tw R1) rfl rfl 94 (tw R0) H17.out (tw_info hoks.len) (by rw [tw_size, tw_size, hoks.len, hok0.len]) (tw_ones _) ?_)
    have hgs := grown_setRow W7 (w.heap.size + 1 + 1) (tw R1)
    exact ⟨(KeepsUp.below HB7.out).trans (KeepsUp.grown hgs (fun r e => by cases e; omega)), by rw [HR1.out]; exact H17.out.setRow_same, H27.out.setRow_other (by omega), (hgs.block _ (BlkA.lt H37.out) (by simp; omega)).trans H37.out, (hgs.block _ (BlkA.lt H47.out) (by simp; omega)).trans H47.out, H57.out.grown hgs H57.out.size (fun k e => by cases e; omega)⟩
  case done =>
    rintro D xs W hD ⟨k, hk, hend⟩ ⟨h1, h2, h3, h4, h5⟩ hK
    have hsk := orL_seen hk
    have hoks := orL_ok xs
    rw [hsk] at h1 hoks
    have HEND := Lib.hid hend
    obtain ⟨R, hR⟩ : ∃ R, seenK (onw L) (onw L (tOf s0 h0)) k = R := ⟨_, rfl⟩
    rw [hR] at h1 hoks
    have HR := Lib.hid hR
    have H1 := Lib.hid h1
    have H2 := Lib.hid h2
    have H5 := Lib.hid h5
    have HK := Lib.hid hK
    clear hk hend hsk h1 h2 h3 h4 h5 hK hR
    gi_wp2_with (first
      | (refine wpListIn_load_row (o := ⟨some 15, _, _, _, _, _⟩) rfl 94 (.tmp 5) rfl (w.heap.size + 1 + 1) rfl 94 (tw R) (0, 0) _ H1.out (show Try.prog.underlying 94 = some (.array 8 92) by kernel_rfl) rfl (tw_info hoks.len) ?_)
      | (refine wpListIn_store_row (o := ⟨none, _, _, _, _, _⟩) rfl 94 (.tmp 4) (.tmp 15) rfl (w.heap.size + 1) (tw R) rfl rfl 94 (tw t0) H2.out (tw_info hoks.len) (by rw [tw_size, tw_size, hoks.len, t0_ok.len]) (tw_ones _) ?_))
    have hK2 : (W.setRow (w.heap.size + 1) (tw R)).heap[D]? = some (.deferred (some [])) := ((grown_setRow W _ _).block D (Array.getElem?_eq_some_iff.1 HK.out).1 (by simp; omega)).trans HK.out
    refine ⟨by simp, .inl ⟨_, _, rfl, run_takeDeferred hK2, ?_⟩⟩
    have hne : w.heap.size + 1 ≠ D := by omega
    exact ⟨tv R, results_cell_row Try.results52 _ _ (w.heap.size + 1) 94 (tw R) (0, 0) _ rfl ((World.putObj_heap_other hne).trans H2.out.setRow_same) (show Try.prog.underlying 94 = some (.array 8 92) by kernel_rfl) rfl (tw_info hoks.len), k, by rw [HR.out], HEND.out, Below.trans (below_setRowT H5.out (by omega)) (belowK_b (w := w) (Nat.le_refl _) _ D _ _ (by omega) hK2 rfl rfl)⟩
end Go.Proofs.Ytamnojhkfknnoaa
/-
  The tracker: what its map holds (scans to times): plain.
-/
namespace Go.Proofs.Ytamnojhkfknnoaa
open Go Go.RowKit
set_option linter.unusedVariables false

theorem laidOutS : laidOutB Try.prog = true := by kernel_rfl
theorem wideS : (match Try.prog.underlying 49 with | some (.array _ _) | some (.struct _) => true | _ => false) = true := by kernel_rfl
set_option maxRecDepth 100000 in
theorem keyedS : Maps.Keyed Try.prog 49 := Maps.Keyed.of_law (deep_law_laid laidOutS (m := 2) (by omega) (of_decide_eq_true (by kernel_rfl)) (by kernel_rfl) wideS)
abbrev scv (s h : Nat) : Value := .agg #[.int .i8 (s : Int), .int .i16 (h : Int)]
theorem typesS : Try.prog.types.size = 156 := by kernel_rfl
theorem ktS : Try.prog.keyType 49 = true := by kernel_rfl
theorem coS : Try.prog.cellsOf 49 = 2 := by kernel_rfl
theorem coS8 : Try.prog.cellsOf 22 = 1 := by kernel_rfl
theorem coS16 : Try.prog.cellsOf 23 = 1 := by kernel_rfl
theorem sizeS : ∃ m, Try.prog.types.size = m + 2 := ⟨156 - 2, by rw [typesS]⟩
theorem litS16 (d : Nat) {n : Int} (h : (Lit.int .i16 n).wf = true) : Try.prog.keyLits (d + 1) 23 [.int .i16 n] = some [.int .i16 n] := by
  unfold Program.keyLits; simp only [Try.underlying23]; rw [if_pos ⟨trivial, h⟩]
theorem litS8 (d : Nat) {n : Int} (h : (Lit.int .i8 n).wf = true) : Try.prog.keyLits (d + 1) 22 [.int .i8 n] = some [.int .i8 n] := by
  unfold Program.keyLits; simp only [Try.underlying22]; rw [if_pos ⟨trivial, h⟩]
set_option maxRecDepth 100000 in
theorem litsSc (d : Nat) {a b : Int} (h0 : (Lit.int .i8 a).wf = true) (h1 : (Lit.int .i16 b).wf = true) :
    Try.prog.keyLits (d + 1 + 1) 49 [.int .i8 a, .int .i16 b] = some [.int .i8 a, .int .i16 b] := by
  unfold Program.keyLits
  simp only [Try.underlying49]
  rw [if_pos ⟨by rw [coS]; rfl, by kernel_rfl⟩]
  simp only [List.mapM_cons, List.mapM_nil, coS8, coS16, List.drop_succ_cons, List.drop_zero, List.take_succ_cons, List.take_zero, litS8 d h0, litS16 d h1]
  rfl
set_option maxRecDepth 100000 in
theorem keyS_some (s h : Nat) (hs : s < 8) (hh : h ≤ 300) : ∃ kl, keyOf Try.prog 49 (scv s h) = some kl := by
  have w0 : (Lit.int .i8 (s : Int)).wf = true := by simp [Lit.wf, IntKind.min, IntKind.max, IntKind.signed, IntKind.bits]; omega
  have w1 : (Lit.int .i16 (h : Int)).wf = true := by simp [Lit.wf, IntKind.min, IntKind.max, IntKind.signed, IntKind.bits]; omega
  obtain ⟨m, hm⟩ := sizeS
  unfold keyOf scv
  simp only [Try.underlying49]
  rw [if_pos (by rw [ktS, Value.formed, Try.underlying49, coS]; rfl), hm, show m + 2 + 1 = (m + 1) + 1 + 1 from rfl]
  exact ⟨_, by rw [show (Value.agg #[.int .i8 (s : Int), .int .i16 (h : Int)]).cells.toList = [.int .i8 (s : Int), .int .i16 (h : Int)] from rfl, litsSc (m + 1) w0 w1]; rfl⟩
/-- The name of a scan's key. -/
noncomputable def klS (s h : Nat) : Lit := (keyOf Try.prog 49 (scv s h)).getD (.bool false)
theorem klS_key {s h : Nat} (hs : s < 8) (hh : h ≤ 300) : keyOf Try.prog 49 (scv s h) = some (klS s h) := by
  obtain ⟨kl, hk⟩ := keyS_some s h hs hh
  unfold klS
  rw [hk]; rfl
attribute [irreducible] klS
theorem klS_inj {s h s' h' : Nat} (hs : s < 8) (hh : h ≤ 300) (hs' : s' < 8) (hh' : h' ≤ 300) (e : klS s h = klS s' h') : s = s' ∧ h = h' := by
  have h1 := klS_key hs hh
  have h2 := klS_key hs' hh'
  rw [e] at h1
  have := keyedS.inj h1 h2
  unfold scv at this
  simp at this
  omega

/-- How times read. -/
noncomputable def encT (T : List Nat) : DataW Unit := .agg (T.map fun (n : Nat) => .lit (.int .u64 (n : Int)))
theorem encT_inj {T U : List Nat} (h : encT T = encT U) : T = U := by
  unfold encT at h
  simp only [DataW.agg.injEq] at h
  refine (List.map_inj_right ?_).1 h
  intro x y hxy
  simp at hxy; omega
open Classical in
noncomputable def RT (v : Value) : Option (DataW Unit × List MemPlace) := if h : ∃ T, TOk T ∧ v = tv T then some (encT (Classical.choose h), []) else none
theorem RT_mk {T : List Nat} (hT : TOk T) : RT (tv T) = some (encT T, []) := by
  unfold RT
  have h : ∃ U, TOk U ∧ tv T = tv U := ⟨T, hT, rfl⟩
  rw [dif_pos h]
  have hc := Classical.choose_spec h
  have e : tw T = tw (Classical.choose h) := by simpa using hc.2
  rw [← tw_inj hT hc.1 e]
theorem RT_inv {v : Value} {y : DataW Unit × List MemPlace} (h : RT v = some y) : ∃ T, TOk T ∧ v = tv T ∧ y = (encT T, []) := by
  unfold RT at h
  split at h
  · rename_i hx
    have hc := Classical.choose_spec hx
    exact ⟨_, hc.1, hc.2, (Option.some.inj h).symm⟩
  · cases h
theorem rarr_ok (yn : Nat) (ps : List Lan) (s h : Nat) (hh : h ≤ 300) (k : Nat) : TOk (rarr yn ps s h k) := seenK_ok (fun T h => onw_ok h) (onw_ok (tOf_ok s h hh)) k
/-- What is kept are arrivals. -/
structure KTr (yn : Nat) (ps : List Lan) (D : DataW Unit) : Prop where
  at_ : ∀ s h : Nat, s < 8 → h ≤ 300 → Maps.has D (klS s h) = true → ∃ k, D.atKey (klS s h) (encT t0) = encT (rarr yn ps s h k) ∧ rend yn ps s h k
theorem KTr.zero (yn : Nat) (ps : List Lan) : KTr yn ps (.map []) := ⟨fun s h _ _ hh => by cases hh⟩
theorem KTr.put {yn : Nat} {ps : List Lan} {D : DataW Unit} (K : KTr yn ps D) (hm : Maps.IsMap D) {s h : Nat} (hs : s < 8) (hh : h ≤ 300) {k : Nat} (he : rend yn ps s h k) : KTr yn ps (D.put (klS s h) (encT (rarr yn ps s h k))) := by
  have hkey := klS_key hs hh
  have hk : WideAt.IsKeyLit (klS s h) := keyedS.key hkey
  have h1 := Maps.atKey_put_same hm hk (encT (rarr yn ps s h k)) (encT t0)
  refine ⟨fun s' h' hs' hh' hx => ?_⟩
  by_cases e : s' = s ∧ h' = h
  · obtain ⟨rfl, rfl⟩ := e
    exact ⟨k, h1, he⟩
  · have hne : klS s' h' ≠ klS s h := fun q => e (klS_inj hs' hh' hs hh q)
    rw [Maps.has_put_other hne] at hx
    rw [Maps.atKey_put_other hne]
    exact K.at_ s' h' hs' hh' hx
theorem ownT_below {w w' : World} {P : Program} {k : TypeId} {R : Value → Option (DataW Unit × List MemPlace)} {b n m : Nat} {D : DataW Unit} (h : w.ownsMap P k R b n D) (hb : Below m w w') (hlt : b < m) : w'.ownsMap P k R b n D := by
  obtain ⟨es, clock, hb', rest⟩ := h
  exact ⟨es, clock, by rw [hb.block b hlt]; exact hb', rest⟩
/-- Nothing that lies before M turns, nor anything that was there but M itself. -/
def KeptBut (M : Nat) (w w' : World) : Prop := Below M w w' ∧ w.heap.size ≤ w'.heap.size ∧ ∀ b, b < w.heap.size → b ≠ M → w'.heap[b]? = w.heap[b]?
theorem KeptBut.refl (M : Nat) (w : World) : KeptBut M w w := ⟨Below.refl _ _, Nat.le_refl _, fun _ _ _ => rfl⟩
theorem KeptBut.trans {M : Nat} {w w' w'' : World} (h : KeptBut M w w') (h' : KeptBut M w' w'') : KeptBut M w w'' :=
  ⟨h.1.trans h'.1, Nat.le_trans h.2.1 h'.2.1, fun b hb hne => (h'.2.2 b (Nat.lt_of_lt_of_le hb h.2.1) hne).trans (h.2.2 b hb hne)⟩
theorem KeptBut.of_below {M : Nat} {w w' : World} (h : Below w.heap.size w w') (hM : M ≤ w.heap.size) : KeptBut M w w' := ⟨h.mono hM, h.size, fun b hb _ => h.block b hb⟩
theorem KeptBut.of_grown {M : Nat} {w w' : World} (h : w.grownBy w' (some M)) (hM : M ≤ w.heap.size) : KeptBut M w w' :=
  ⟨(Below.refl M w).grown h hM (fun i hi => by cases hi; exact Nat.le_refl _), h.size, fun b hb hne => h.block b hb (by simpa using hne)⟩
theorem KeptBut.cell {M : Nat} {w w' : World} (h : KeptBut M w w') {b o : Nat} {v : Value} (hne : b ≠ M) (hc : w.cell? ⟨b, o, none⟩ = some v) : w'.cell? ⟨b, o, none⟩ = some v := by
  have hb : b < w.heap.size := World.block_lt_of_cell? w ⟨b, o, none⟩ hc
  exact (World.cell?_of_block (w := w) (a := ⟨b, o, none⟩) (h.2.2 b hb hne)).trans hc
theorem KeptBut.size {M : Nat} {w w' : World} (h : KeptBut M w w') : w.heap.size ≤ w'.heap.size := h.2.1
theorem zero_times (w : World) : (zeroValue 94).run Try.prog w = .ok (tv t0) w := by kernel_rfl
end Go.Proofs.Ytamnojhkfknnoaa
/-
  The program's tracker: canGo and firstBad.
-/
namespace Go.Proofs.Ytamnojhkfknnoaa
open Go Go.RowKit
set_option linter.unusedVariables false

abbrev ownsT (w : World) (M n : Nat) (D : DataW Unit) : Prop := w.ownsMap Try.prog 49 RT M n D
abbrev trkV (au : Option Addr) (l cu M : Nat) : Value := .agg #[.slice au l cu, .map (some M)]

theorem KeptBut.setRow {M : Nat} {w w3 : World} (h : KeptBut M w w3) (B : Nat) (cs : Array Value) (hB : w.heap.size ≤ B) (hM : M ≤ B) (hs : M ≤ w3.heap.size) : KeptBut M w (w3.setRow B cs) :=
  ⟨h.1.grown (grown_setRow w3 B cs) hs (fun i hi => by cases hi; exact hM), by have := h.2.1; simpa [World.setRow] using this, fun b hb hne => ((grown_setRow w3 B cs).block b (Nat.lt_of_lt_of_le hb h.2.1) (by simp; omega)).trans (h.2.2 b hb hne)⟩
theorem BlkA.rowed {w : World} {B : Nat} {T : TypeId} {vs : Array Value} (h : BlkA w B T vs) (g : Nat) (cs : Array Value) (hne : B ≠ g) : BlkA (w.setRow g cs) B T vs := ((grown_setRow w g cs).block B (BlkA.lt h) (by simpa using hne)).trans h
theorem BlkA.kept {w w' : World} {B M : Nat} {T : TypeId} {vs : Array Value} (h : BlkA w B T vs) (k : KeptBut M w w') (hne : B ≠ M) : BlkA w' B T vs := (k.2.2 B (BlkA.lt h) hne).trans h
/-- What the map tells of a scan. -/
theorem look_T {M n : Nat} {D : DataW Unit} {yn : Nat} {ps : List Lan} (K : KTr yn ps D) {s h : Nat} (hs : s < 8) (hh : h ≤ 300) :
    ∃ T b, TOk T ∧ (∀ W, ownsT W M n D → (Instr.lookup 66 (.map (some M)) (.agg #[.int .i8 (s : Int), .int .i16 (h : Int)]) true).run Try.prog W = .ok (.tuple #[tv T, .bool b]) W) ∧ ((b = true ∧ ∃ k, T = rarr yn ps s h k ∧ rend yn ps s h k) ∨ (b = false ∧ T = t0)) := by
  have hkey := klS_key hs hh
  have key : ∀ T b, TOk T → D.atKey (klS s h) (encT t0) = encT T → Maps.has D (klS s h) = b → ∀ W, ownsT W M n D → (Instr.lookup 66 (.map (some M)) (.agg #[.int .i8 (s : Int), .int .i16 (h : Int)]) true).run Try.prog W = .ok (.tuple #[tv T, .bool b]) W := fun T b hT ha hb W ho => by
    obtain ⟨v, qs, hrun, hv⟩ := ho.look_ok keyedS Try.underlying66 (zero_times W) (RT_mk t0_ok) hkey
    obtain ⟨U, hU, rfl, hy⟩ := RT_inv hv
    rw [ha] at hy
    simp only [Prod.mk.injEq] at hy
    rw [encT_inj hy.1, ← hb]
    exact hrun
  cases hb : Maps.has D (klS s h)
  · exact ⟨t0, false, t0_ok, key t0 false t0_ok (Maps.atKey_of_not_has hb _) hb, .inr ⟨rfl, rfl⟩⟩
  · obtain ⟨k, h1, h2⟩ := K.at_ s h hs hh hb
    exact ⟨rarr yn ps s h k, true, rarr_ok yn ps s h hh k, key _ true (rarr_ok yn ps s h hh k) h1 hb, .inl ⟨rfl, k, rfl, h2⟩⟩

set_option maxHeartbeats 1000000 in
set_option maxRecDepth 100000 in
theorem icango_any (au : Option Addr) (cu M n : Nat) (D : DataW Unit) (sn yn : Nat) (ps : List Lan) (s0 h0 s1 h1 : Nat) (w : World) (hok : okNet (sn : Int) (yn : Int) ps) (hpl : ps.length ≤ 1048576) (hs0 : s0 < 8) (hh0 : h0 ≤ 300) (hs1 : s1 < 8) (hh1 : h1 ≤ 300)
    (hr : ReadsLa w (.slice au (hopsL (yn : Int) ps).length cu) (hopsL (yn : Int) ps)) (hm : ownsT w M n D) (hk : KTr yn ps D) (hn : n < 1000000) :
    Calls Try.prog 28 #[trkV au (hopsL (yn : Int) ps).length cu M, scv s0 h0, scv s1 h1] w fun e w' => ∃ D', e = .returned (.bool (arrB ps (-1) (yn : Int) s0 h0 s1 h1)) ∧ ownsT w' M (n + 1) D' ∧ KTr yn ps D' ∧ KeptBut M w w' := by
  have HOK := Lib.hid hok
  have HR := Lib.hid hr
  have HM := Lib.hid hm
  have HK := Lib.hid hk
  have hML : M < w.heap.size := hm.lt
  obtain ⟨l, hl⟩ : ∃ l, (hopsL (yn : Int) ps).length = l := ⟨_, rfl⟩
  have HLN := Lib.hid hl
  have hlb : l ≤ 1048576 := by rw [← hl, hopsL_len]; exact hpl
  rw [hl] at HR ⊢
  have hb1 : Below w.heap.size w (((w.alloc (.cells #[.slice au l cu, .map (some M)] 68)).alloc (.cells #[.int .i8 (s0 : Int), .int .i16 (h0 : Int)] 49)).alloc (.cells #[.int .i8 (s1 : Int), .int .i16 (h1 : Int)] 49)) := (((Below.refl _ _).alloc (Nat.le_refl _) _).alloc (by simp) _).alloc (by simp; omega) _
  have BT : BlkA (((w.alloc (.cells #[.slice au l cu, .map (some M)] 68)).alloc (.cells #[.int .i8 (s0 : Int), .int .i16 (h0 : Int)] 49)).alloc (.cells #[.int .i8 (s1 : Int), .int .i16 (h1 : Int)] 49)) w.heap.size 68 #[.slice au l cu, .map (some M)] := ((BlkA.new rfl _ _).alloc _).alloc _
  have BX : BlkA (((w.alloc (.cells #[.slice au l cu, .map (some M)] 68)).alloc (.cells #[.int .i8 (s0 : Int), .int .i16 (h0 : Int)] 49)).alloc (.cells #[.int .i8 (s1 : Int), .int .i16 (h1 : Int)] 49)) (w.heap.size + 1) 49 #[.int .i8 (s0 : Int), .int .i16 (h0 : Int)] := (BlkA.new (by simp) _ _).alloc _
  have BY : BlkA (((w.alloc (.cells #[.slice au l cu, .map (some M)] 68)).alloc (.cells #[.int .i8 (s0 : Int), .int .i16 (h0 : Int)] 49)).alloc (.cells #[.int .i8 (s1 : Int), .int .i16 (h1 : Int)] 49)) (w.heap.size + 1 + 1) 49 #[.int .i8 (s1 : Int), .int .i16 (h1 : Int)] := BlkA.new (by simp) _ _
  obtain ⟨W1, hW⟩ : ∃ W, (((w.alloc (.cells #[.slice au l cu, .map (some M)] 68)).alloc (.cells #[.int .i8 (s0 : Int), .int .i16 (h0 : Int)] 49)).alloc (.cells #[.int .i8 (s1 : Int), .int .i16 (h1 : Int)] 49)) = W := ⟨_, rfl⟩
  rw [hW] at hb1 BT BX BY
  have HW := Lib.hid hW
  clear hW hl hok hr hm hk
  go_enter Try.func28, Try.ntmps28
  go_wp2_with fail
  rw [HW.out]
  obtain ⟨T, b, hT, hlk, hcase⟩ := look_T (M := M) (n := n) HK.out hs0 hh0
  have HT := Lib.hid hT
  have HC := Lib.hid hcase
  have HM1 : Hid (ownsT W1 M n D) := Lib.hid (ownT_below HM.out hb1 hML)
  have hlook := hlk W1 HM1.out
  have hML1 : M < W1.heap.size := Nat.lt_of_lt_of_le hML hb1.size
  have hS2 : (W1.alloc (.cells (tw t0) 94)).setRow W1.heap.size (tw T) = W1.alloc (.cells (tw T) 94) := alloc_setRow _ _ _ _
  have BZ : BlkA (W1.alloc (.cells (tw t0) 94)) W1.heap.size 94 (tw t0) := BlkA.new rfl _ _
  have b2 : Below W1.heap.size W1 (W1.alloc (.cells (tw T) 94)) := (Below.refl _ _).alloc (Nat.le_refl _) _
  have B2 : BlkT (W1.alloc (.cells (tw T) 94)) W1.heap.size T := BlkA.new rfl _ _
  obtain ⟨W2, hW2⟩ : ∃ W, W1.alloc (.cells (tw T) 94) = W := ⟨_, rfl⟩
  rw [hW2] at hS2 b2 B2
  rw [tw_zero] at BZ hS2
  have HS2 := Lib.hid hS2
  have HZ := Lib.hid BZ
  have HBT := Lib.hid (BT.below b2)
  have HBX := Lib.hid (BX.below b2)
  have HBY := Lib.hid (BY.below b2)
  have HKB := Lib.hid ((KeptBut.of_below hb1 (Nat.le_of_lt hML)).trans (KeptBut.of_below b2 (Nat.le_of_lt hML1)))
  have HM2 : Hid (ownsT W2 M n D) := Lib.hid (ownT_below HM1.out b2 hML1)
  have HR2 := Lib.hid (HR.out.below (blink hb1 b2))
  have HT2 := Lib.hid B2
  have hML2 : M < W2.heap.size := Nat.lt_of_lt_of_le hML1 b2.size
  have hMt : W1.heap.size ≠ M := by omega
  have hmw : w.heap.size ≤ W1.heap.size := hb1.size
  have hMx : w.heap.size + 1 ≠ M := by omega
  have hMy : w.heap.size + 1 + 1 ≠ M := by omega
  have hMw : w.heap.size ≠ M := by omega
  have bt0 := HBT.out.at 0
  have bt1 := HBT.out.at 1
  have bx0 := HBX.out.at 0
  have bx1 := HBX.out.at 1
  clear hT hcase hlk BZ BT BX BY hb1 hS2 hW2 b2 B2
  have HHAS : Hid (∀ W, Calls Try.prog 53 #[tv T, scv s1 h1] W fun e w' => e = .returned (.bool ((T.getD s1 0).testBit h1)) ∧ Below W.heap.size W w') := Lib.hid (fun W => ithas_any T HT.out s1 h1 hs1 hh1 W)
  rcases HC.out with ⟨rfl, k, hTk, hend⟩ | ⟨rfl, hT0⟩
  · have HRES : Hid ((T.getD s1 0).testBit h1 = arrB ps (-1) (yn : Int) s0 h0 s1 h1) := Lib.hid (by
      rw [hTk]
      exact arrB_of (by simpa [bitT] using seen_arr HOK.out hs0 hh0 hend s1 h1 hs1 (by omega)))
    have by0 := HBY.out.at 0
    have by1 := HBY.out.at 1
    clear hTk hend HC bt0 bt1 bx0 bx1
    go_wp2_with (first
      | (refine wpList_store_row (o := ⟨none, _, _, _, _, _⟩) rfl 94 (.tmp 7) (.tmp 14) rfl W1.heap.size (tw T) rfl rfl 94 _ HZ.out (tw_info HT.out.len) (by rw [tw_size, HT.out.len]; rfl) (tw_ones _) ?_; rw [HS2.out])
      | (refine wpList_load_row (o := ⟨some 26, _, _, _, _, _⟩) rfl 94 (.tmp 7) rfl W1.heap.size rfl 94 _ (0, 0) _ HT2.out (show Try.prog.underlying 94 = some (.array 8 92) by kernel_rfl) rfl (tw_info HT.out.len) ?_))
    refine (HHAS.out _).mono ?_
    rintro e w6 ⟨rfl, b6⟩
    have HB6 := Lib.hid b6
    clear b6
    go_wp2_with fail
    go_ret
    exact ⟨D, ret_bool HRES.out, (ownT_below HM2.out HB6.out hML2).mono (by omega), HK.out, HKB.out.trans (KeptBut.of_below HB6.out (Nat.le_of_lt hML2))⟩
  · have HARR : Hid (∀ W, ReadsLa W (.slice au l cu) (hopsL (yn : Int) ps) → Calls Try.prog 52 #[.slice au l cu, scv s0 h0] W fun e w' => ∃ k, e = .returned (tv (rarr yn ps s0 h0 k)) ∧ rend yn ps s0 h0 k ∧ Below W.heap.size W w') := Lib.hid (fun W hr => by
      have h := callsIn_wide.1 (iarr_in au (hopsL (yn : Int) ps).length cu (hopsL (yn : Int) ps) s0 h0 (hops_ok HOK.out) (by rw [hopsL_len]; exact hpl) hs0 hh0 W (by rw [HLN.out]; exact hr))
      rw [HLN.out] at h
      exact h)
    clear HHAS HC hT0
    go_wp2_with (refine wpList_store_row (o := ⟨none, _, _, _, _, _⟩) rfl 94 (.tmp 7) (.tmp 14) rfl W1.heap.size (tw T) rfl rfl 94 _ HZ.out (tw_info HT.out.len) (by rw [tw_size, HT.out.len]; rfl) (tw_ones _) ?_; rw [HS2.out])
    refine (HARR.out W2 HR2.out).mono ?_
    rintro e w3 ⟨k, rfl, hend, b3⟩
    obtain ⟨A, hA⟩ : ∃ A, rarr yn ps s0 h0 k = A := ⟨_, rfl⟩
    have hAO : TOk A := by rw [← hA]; exact rarr_ok yn ps s0 h0 hh0 k
    have HAO := Lib.hid hAO
    have HK4 : Hid (KTr yn ps (D.put (klS s0 h0) (encT A))) := Lib.hid (by rw [← hA]; exact HK.out.put HM2.out.isMap hs0 hh0 hend)
    have HRES : Hid ((A.getD s1 0).testBit h1 = arrB ps (-1) (yn : Int) s0 h0 s1 h1) := Lib.hid (by
      rw [← hA]
      exact arrB_of (by simpa [bitT] using seen_arr HOK.out hs0 hh0 hend s1 h1 hs1 (by omega)))
    have HHAS : Hid (∀ W, Calls Try.prog 53 #[tv A, scv s1 h1] W fun e w' => e = .returned (.bool ((A.getD s1 0).testBit h1)) ∧ Below W.heap.size W w') := Lib.hid (fun W => ithas_any A HAO.out s1 h1 hs1 hh1 W)
    rw [hA]
    have hML3 : M < w3.heap.size := Nat.lt_of_lt_of_le hML2 b3.size
    have hT3 : BlkT w3 W1.heap.size T := BlkA.below HT2.out b3
    have HT3 := Lib.hid hT3
    have hK4 : KeptBut M w (w3.setRow W1.heap.size (tw A)) := (HKB.out.trans (KeptBut.of_below b3 (Nat.le_of_lt hML2))).setRow W1.heap.size (tw A) hmw (by omega) (by omega)
    have hT4 : BlkT (w3.setRow W1.heap.size (tw A)) W1.heap.size A := hT3.setRow_same
    have hx4 : W1.heap.size ≠ w.heap.size ∧ W1.heap.size ≠ w.heap.size + 1 ∧ W1.heap.size ≠ w.heap.size + 1 + 1 := by
      have h := HW.out
      have : W1.heap.size = w.heap.size + 1 + 1 + 1 := by rw [← h]; simp
      omega
    have hb4 := (HBT.out.below b3).rowed W1.heap.size (tw A) (fun e => hx4.1 e.symm)
    have hbx4 := (HBX.out.below b3).rowed W1.heap.size (tw A) (fun e => hx4.2.1 e.symm)
    have hby4 := (HBY.out.below b3).rowed W1.heap.size (tw A) (fun e => hx4.2.2 e.symm)
    have hm4 : ownsT (w3.setRow W1.heap.size (tw A)) M n D := (ownT_below HM2.out b3 hML2).kept (grown_setRow w3 W1.heap.size (tw A)) (by simp; omega)
    have hs4 : (w3.setRow W1.heap.size (tw A)).heap.size = w3.heap.size := by simp [World.setRow]
    obtain ⟨W4, hW4⟩ : ∃ W, w3.setRow W1.heap.size (tw A) = W := ⟨_, rfl⟩
    rw [hW4] at hK4 hT4 hb4 hbx4 hby4 hm4 hs4
    have HW4 := Lib.hid hW4
    have HKK4 := Lib.hid hK4
    have HT4 := Lib.hid hT4
    have HY4 := Lib.hid hby4
    have HM4 := Lib.hid hm4
    have HS4 := Lib.hid hs4
    have c1 := hb4.at 1
    have x0 := hbx4.at 0
    have x1 := hbx4.at 1
    have HKEY := Lib.hid (klS_key hs0 hh0)
    clear hA hAO hend b3 hT3 hK4 hT4 hb4 hbx4 hby4 hm4 hs4 hW4 HARR bt0 bt1 bx0 bx1 hlook
    go_wp2_with (first
      | (refine wpList_store_row (o := ⟨none, _, _, _, _, _⟩) rfl 94 (.tmp 7) (.tmp 21) rfl W1.heap.size (tw A) rfl rfl 94 _ HT3.out (tw_info HAO.out.len) (by rw [tw_size, tw_size, HAO.out.len, HT.out.len]) (tw_ones _) ?_; rw [HW4.out])
      | (refine wpList_load_row (o := ⟨some 25, _, _, _, _, _⟩) rfl 94 (.tmp 7) rfl W1.heap.size rfl 94 _ (0, 0) _ HT4.out (show Try.prog.underlying 94 = some (.array 8 92) by kernel_rfl) rfl (tw_info HAO.out.len) ?_)
      | (at_mapUpdate; refine wpList_mapUpdate_own _ rfl _ _ _ 66 rfl 49 94 keyedS Try.underlying66 RT M n D rfl HM4.out (by unfold maxLen; omega) _ _ (klS s0 h0) rfl rfl HKEY.out (encT A) [] (RT_mk HAO.out) ?_))
    intro w5 hown5 hgrow5
    have hML4 : M < W4.heap.size := by rw [HS4.out]; exact hML3
    have k5 := KeptBut.of_grown hgrow5 (Nat.le_of_lt hML4)
    have HKK5 := Lib.hid (HKK4.out.trans k5)
    have hT5 : BlkT w5 W1.heap.size A := BlkA.kept HT4.out k5 hMt
    have HT5 := Lib.hid hT5
    have hy5 := BlkA.kept HY4.out k5 hMy
    have y0 := hy5.at 0
    have y1 := hy5.at 1
    have hML5 : M < w5.heap.size := Nat.lt_of_lt_of_le hML4 hgrow5.size
    have HO5 := Lib.hid hown5
    clear hown5 hgrow5 k5 hT5 hy5 c1 x0 x1
    go_wp2_with (refine wpList_load_row (o := ⟨some 26, _, _, _, _, _⟩) rfl 94 (.tmp 7) rfl W1.heap.size rfl 94 _ (0, 0) _ HT5.out (show Try.prog.underlying 94 = some (.array 8 92) by kernel_rfl) rfl (tw_info HAO.out.len) ?_)
    refine (HHAS.out _).mono ?_
    rintro e w6 ⟨rfl, b6⟩
    have HB6 := Lib.hid b6
    clear b6
    go_wp2_with fail
    go_ret
    exact ⟨_, ret_bool HRES.out, ownT_below HO5.out HB6.out hML5, HK4.out, HKK5.out.trans (KeptBut.of_below HB6.out (Nat.le_of_lt hML5))⟩
end Go.Proofs.Ytamnojhkfknnoaa
/-
  The program's tracker: firstBad, and a tracker that is new.
-/
namespace Go.Proofs.Ytamnojhkfknnoaa
open Go Go.RowKit
set_option linter.unusedVariables false

theorem not_map {w : World} {M n : Nat} {D : DataW Unit} (hm : ownsT w M n D) {b o : Nat} {v : Value} (hc : w.cell? ⟨b, o, none⟩ = some v) : b ≠ M := by
  rintro rfl
  obtain ⟨es, clock, hb, _⟩ := hm
  simp [World.cell?, hb] at hc
theorem ReadsSc.kept {w w' : World} {M n : Nat} {D : DataW Unit} {v : Value} {cs : List (Int × Int)} (h : ReadsSc w v cs) (hm : ownsT w M n D) (k : KeptBut M w w') : ReadsSc w' v cs := by
  obtain ⟨a, cap, rfl, h⟩ := h
  refine ⟨a, cap, rfl, fun hne => ?_⟩
  obtain ⟨b, e, hc⟩ := h hne
  refine ⟨b, e, fun i hi => ?_⟩
  obtain ⟨h0, h1⟩ := hc i hi
  exact ⟨k.cell (not_map hm h0) h0, k.cell (not_map hm h1) h1⟩
theorem ReadsLa.kept {w w' : World} {M n : Nat} {D : DataW Unit} {v : Value} {ps : List Lan} (h : ReadsLa w v ps) (hm : ownsT w M n D) (k : KeptBut M w w') : ReadsLa w' v ps := by
  obtain ⟨a, cap, rfl, h⟩ := h
  refine ⟨a, cap, rfl, fun hne => ?_⟩
  obtain ⟨b, e, hc⟩ := h hne
  refine ⟨b, e, fun i hi => ?_⟩
  obtain ⟨h0, h1, h2, h3⟩ := hc i hi
  exact ⟨k.cell (not_map hm h0) h0, k.cell (not_map hm h1) h1, k.cell (not_map hm h2) h2, k.cell (not_map hm h3) h3⟩
theorem KeptBut.drew {M : Nat} {w w' : World} (h : KeptBut M w w') : KeptBut M w w'.drew := ⟨h.1.drew, h.2.1, h.2.2⟩

end Go.Proofs.Ytamnojhkfknnoaa
/-
  The program's CheckScans and FirstBadScan.
-/
namespace Go.Proofs.Ytamnojhkfknnoaa
open Go Go.RowKit
set_option linter.unusedVariables false

theorem KeptBut.setCell {M : Nat} {w w' : World} (h : KeptBut M w w') (p : Addr) (u : Value) (hp : p.block = M) : KeptBut M w (w'.setCell p u) :=
  ⟨h.1.setCell (by rw [hp]; exact Nat.le_refl _) u, by have := h.2.1; simpa using this, fun b hb hne => (heap_setCell_other w' p b u (by rw [hp]; exact hne)).trans (h.2.2 b hb hne)⟩

set_option maxHeartbeats 1000000 in
set_option maxRecDepth 100000 in
theorem itrk_any (st sy : Int) (v : Value) (ps : List Lan) (w : World) (hok : okNet st sy ps) (hv : ReadsLa w v ps) :
    Calls Try.prog 26 #[netV st sy v] w fun e w' => ∃ au cu M, e = .returned (trkV au (hopsL sy ps).length cu M) ∧ ReadsLa w' (.slice au (hopsL sy ps).length cu) (hopsL sy ps) ∧ ownsT w' M 0 (.map []) ∧ w.heap.size ≤ M ∧ Below w.heap.size w w' := by
  have HOK := Lib.hid hok
  have hb1 : Below w.heap.size w ((w.alloc (.cells #[.int .i8 st, .int .i16 sy, v] 35)).alloc (.cells #[.slice none 0 0, .map none] 68)) := ((Below.refl _ _).alloc (Nat.le_refl _) _).alloc (by simp) _
  have BN : BlkA ((w.alloc (.cells #[.int .i8 st, .int .i16 sy, v] 35)).alloc (.cells #[.slice none 0 0, .map none] 68)) w.heap.size 35 #[.int .i8 st, .int .i16 sy, v] := (BlkA.new rfl _ _).alloc _
  have BT : BlkA ((w.alloc (.cells #[.int .i8 st, .int .i16 sy, v] 35)).alloc (.cells #[.slice none 0 0, .map none] 68)) (w.heap.size + 1) 68 #[.slice none 0 0, .map none] := BlkA.new (by simp) _ _
  obtain ⟨W1, hW⟩ : ∃ W, ((w.alloc (.cells #[.int .i8 st, .int .i16 sy, v] 35)).alloc (.cells #[.slice none 0 0, .map none] 68)) = W := ⟨_, rfl⟩
  rw [hW] at hb1 BN BT
  have HW := Lib.hid hW
  have HV1 := Lib.hid (hv.below hb1)
  have HB1 := Lib.hid hb1
  have HBT := Lib.hid BT
  have n0 := BN.at 0
  have n1 := BN.at 1
  have n2 := BN.at 2
  obtain ⟨l, hl⟩ : ∃ l, (hopsL sy ps).length = l := ⟨_, rfl⟩
  have HLN := Lib.hid hl
  rw [hl]
  clear hW hb1 BN BT hok hv hl
  go_enter Try.func26, Try.ntmps26
  go_wp2_with fail
  rw [HW.out]
  go_wp2_with fail
  refine (ihops_any st sy v ps W1 HOK.out HV1.out).mono ?_
  rintro e w3 ⟨u, rfl, o3, b3⟩
  have hfar : ∃ au cu, u = .slice au (hopsL sy ps).length cu ∧ (hopsL sy ps ≠ [] → ∃ b, au = some ⟨b, 0, none⟩ ∧ W1.heap.size ≤ b ∧ CellsLa w3 b (hopsL sy ps)) := by
    rcases o3.cases with ⟨rfl, h0⟩ | ⟨g, cap, rfl, hB, _, _, _, hc, _⟩
    · exact ⟨none, 0, by rw [h0]; rfl, fun h => absurd h0 h⟩
    · exact ⟨_, cap, rfl, fun _ => ⟨g, rfl, hB, hc⟩⟩
  obtain ⟨au, cu, rfl, hfc⟩ := hfar
  have HFC := Lib.hid hfc
  rw [HLN.out]
  have hs1 : W1.heap.size = w.heap.size + 1 + 1 := by rw [← HW.out]; simp
  have hs13 : W1.heap.size ≤ w3.heap.size := b3.size
  have hk4 : KeptBut (w.heap.size + 1) w3 (w3.alloc (.map #[] 0)) := KeptBut.of_below ((Below.refl _ _).alloc (Nat.le_refl _) _) (by omega)
  have hb4 : Below w3.heap.size w3 (w3.alloc (.map #[] 0)) := (Below.refl _ _).alloc (Nat.le_refl _) _
  have hm4 : ownsT (w3.alloc (.map #[] 0)) w3.heap.size 0 (.map []) := World.ownsMap_made w3 _ _ _
  have BT4 := (HBT.out.below b3).below hb4
  obtain ⟨W4, hW4⟩ : ∃ W, w3.alloc (.map #[] 0) = W := ⟨_, rfl⟩
  rw [hW4] at hb4 hm4 BT4 hk4
  have HW4 := Lib.hid hW4
  have HB4 := Lib.hid (blink (blink HB1.out b3) hb4)
  have HM4 := Lib.hid hm4
  have HK4 := Lib.hid hk4
  have HBT4 := Lib.hid BT4
  have t0 := BT4.at 0
  have t1 := BT4.at 1
  have f0 := BlkA.frozen BT4 0
  have f1 := BlkA.frozen BT4 1
  have hs3 : w.heap.size ≤ w3.heap.size := (blink HB1.out b3).size
  have hmm := run_makeMap (P := Try.prog) 66 w3
  rw [HW4.out] at hmm
  clear o3 hfc hb4 hm4 BT4 hk4 hW4 b3
  go_wp2_with fail
  clear hmm
  have hkf := (HK4.out.setCell ⟨w.heap.size + 1, 0, none⟩ (.slice au l cu) rfl).setCell ⟨w.heap.size + 1, 1, none⟩ (.map (some w3.heap.size)) rfl
  have hbf : Below w.heap.size w ((W4.setCell ⟨w.heap.size + 1, 0, none⟩ (.slice au l cu)).setCell ⟨w.heap.size + 1, 1, none⟩ (.map (some w3.heap.size))) := (HB4.out.setCell (by simp) _).setCell (by simp) _
  have hof : ownsT ((W4.setCell ⟨w.heap.size + 1, 0, none⟩ (.slice au l cu)).setCell ⟨w.heap.size + 1, 1, none⟩ (.map (some w3.heap.size))) w3.heap.size 0 (.map []) := (HM4.out.setCell (a := ⟨w.heap.size + 1, 0, none⟩) (by simp; omega) _).setCell (a := ⟨w.heap.size + 1, 1, none⟩) (by simp; omega) _
  have hcf : BlkA ((W4.setCell ⟨w.heap.size + 1, 0, none⟩ (.slice au l cu)).setCell ⟨w.heap.size + 1, 1, none⟩ (.map (some w3.heap.size))) (w.heap.size + 1) 68 #[.slice au l cu, .map (some w3.heap.size)] := by
    have h := (HBT4.out.set 0 (.slice au l cu)).set 1 (.map (some w3.heap.size))
    simpa using h
  obtain ⟨W5, hW5⟩ : ∃ W, ((W4.setCell ⟨w.heap.size + 1, 0, none⟩ (.slice au l cu)).setCell ⟨w.heap.size + 1, 1, none⟩ (.map (some w3.heap.size))) = W := ⟨_, rfl⟩
  rw [hW5] at hkf hbf hof hcf ⊢
  have c0 := hcf.at 0
  have c1 := hcf.at 1
  clear t0 t1 f0 f1 hW5
  refine bodyPost_ret (v := trkV au l cu w3.heap.size) (by simp [results, Try.results26, go_sem, c0, c1]) rfl ⟨au, cu, _, rfl, ?_, hof, hs3, hbf⟩
  refine ⟨au, cu, by rw [HLN.out], fun hne => ?_⟩
  obtain ⟨b, e, hb, hc⟩ := HFC.out hne
  have hne2 : b ≠ w.heap.size + 1 := by omega
  refine ⟨b, e, fun i hi => ?_⟩
  obtain ⟨h0, h1, h2, h3⟩ := hc i hi
  exact ⟨hkf.cell hne2 h0, hkf.cell hne2 h1, hkf.cell hne2 h2, hkf.cell hne2 h3⟩
end Go.Proofs.Ytamnojhkfknnoaa
/-
  A row of scans outside what a call writes.
-/
namespace Go.Proofs.Ytamnojhkfknnoaa
open Go Go.RowKit
theorem OwnSc.out {T : TypeId} {B lo hi : Nat} {w w' : World} {v : Value} {ps : List (Int × Int)} (h : OwnSc T B w v ps) (K : KeepsOut lo hi w w') (hd : ∀ k, v.ownBlock = some k → k < lo ∨ hi ≤ k) : OwnSc T B w' v ps := row_out h K hd
end Go.Proofs.Ytamnojhkfknnoaa
/-
  The program's FalseScans.
-/
namespace Go.Proofs.Ytamnojhkfknnoaa
open Go Go.RowKit
set_option linter.unusedVariables false

theorem KeptBut.grown_far {M : Nat} {w w1 w2 : World} {row : Option Nat} (h : KeptBut M w w1) (hg : w1.grownBy w2 row) (hM : M ≤ w.heap.size) (hr : ∀ k, row = some k → w.heap.size ≤ k) : KeptBut M w w2 :=
  ⟨h.1.grown hg (Nat.le_trans hM h.2.1) (fun k e => Nat.le_trans hM (hr k e)), Nat.le_trans h.2.1 hg.size, fun b hb hne => (hg.block b (Nat.lt_of_lt_of_le hb h.2.1) (fun e => by have := hr b e.symm; omega)).trans (h.2.2 b hb hne)⟩
theorem row_keptBut {M B : Nat} {T : TypeId} {n m : Nat} {w w' : World} {v : Value} {us : List Value} (h : w.ownsRow B T n v m us) (k : KeptBut M w w') (hB : M < B) : w'.ownsRow B T n v m us := by
  refine ⟨h.1, ?_⟩
  rcases h.2 with hn | ⟨g, cap, cur, rfl, hb, hg, rest⟩
  · exact .inl hn
  · exact .inr ⟨g, cap, cur, rfl, hb, by rw [k.2.2 g (Array.getElem?_eq_some_iff.1 hg).1 (by omega)]; exact hg, rest⟩

end Go.Proofs.Ytamnojhkfknnoaa
/-
  The best lists that the program's MostScans keeps: a row of slices, told from place d on.
-/
namespace Go.Proofs.Ytamnojhkfknnoaa
open Go Go.RowKit
set_option linter.unusedVariables false

def OwnBF (base : Nat) (w : World) (Rb m : Nat) (f : Nat → List Int) (d : Nat) : Prop :=
  ∃ us : List Value, w.ownsRow base 30 1 (.slice (some ⟨Rb, 0, none⟩) m m) m us ∧ ∀ k, d ≤ k → k < m → OwnI base w (us.getD k nilG) (f k)
theorem OwnBF.below {base Rb m d : Nat} {w w' : World} {f : Nat → List Int} (h : OwnBF base w Rb m f d) (hb : Below w.heap.size w w') : OwnBF base w' Rb m f d := by
  obtain ⟨us, h1, h2⟩ := h
  exact ⟨us, row_same h1 hb, fun k a b => (h2 k a b).below hb⟩
theorem OwnBF.lt {base Rb m d : Nat} {w : World} {f : Nat → List Int} (h : OwnBF base w Rb m f d) : base ≤ Rb ∧ Rb < w.heap.size := by
  obtain ⟨us, h1, _⟩ := h
  exact World.ownsRow.lt h1 Rb rfl
theorem OwnBF.cell {base Rb m d : Nat} {w : World} {f : Nat → List Int} (h : OwnBF base w Rb m f d) {k : Nat} (hd : d ≤ k) (hk : k < m) : ∃ u, w.cell? ⟨Rb, k, none⟩ = some u ∧ OwnI base w u (f k) := by
  obtain ⟨us, h1, h2⟩ := h
  have hus : us.length = m := by simpa using h1.1
  refine ⟨us.getD k nilG, ?_, h2 k hd hk⟩
  rw [World.ownsRow.cellAt h1 k (by omega), List.getElem?_eq_getElem (by omega)]
  simp [List.getD, show k < us.length by omega]
theorem OwnBF.frozen {base Rb m d : Nat} {w : World} {f : Nat → List Int} (h : OwnBF base w Rb m f d) (k : Nat) : w.frozen? ⟨Rb, k, none⟩ = false := by
  obtain ⟨us, h1, _⟩ := h
  rcases h1.2 with ⟨e, _⟩ | ⟨g', cap, cur, e, _, hg, _⟩
  · simp at e
  · simp only [Value.slice.injEq, Option.some.injEq, Addr.mk.injEq, and_true, true_and] at e
    rw [e.1]
    exact frozen_of_row w g' k _ _ hg
/-- Rows of numbers stay where a cell of the row of rows is set. -/
theorem OwnBF.rowsStay {base Rb m d : Nat} {w : World} {f : Nat → List Int} (h : OwnBF base w Rb m f d) (i : Nat) (x : Value) {b : Nat} {u : Value} {xs : List Int} (hu : OwnI b w u xs) : OwnI b (w.setCell ⟨Rb, i, none⟩ x) u xs := by
  obtain ⟨us, h1, _⟩ := h
  refine hu.kept (World.ownsRow.stored h1 i x).2 ?_
  cases e : u.ownBlock with
  | none => exact .inl rfl
  | some p => exact .inr fun e2 => row_types (by decide) h1 hu p (by rw [e2]; rfl) e
theorem OwnBF.store {base Rb m d i : Nat} {w : World} {f : Nat → List Int} {u : Value} {xs : List Int} (h : OwnBF base w Rb m f d) (hi : i < m) (hd : d ≤ i + 1) (hid : i ≤ d) (hu : OwnI base w u xs) : OwnBF base (w.setCell ⟨Rb, i, none⟩ u) Rb m (fun k => if k = i then xs else f k) i := by
  have hs := fun (b : Nat) (v : Value) (ys : List Int) (o : OwnI b w v ys) => h.rowsStay i u o
  obtain ⟨us, h1, h2⟩ := h
  have hus : us.length = m := by simpa using h1.1
  refine ⟨us.set i u, (World.ownsRow.stored h1 i u).1, fun k hk hkm => ?_⟩
  show OwnI base _ _ (if k = i then xs else f k)
  by_cases e : k = i
  · subst e
    rw [if_pos rfl, show (us.set k u).getD k nilG = u by simp [List.getD, show k < us.length by omega]]
    exact hs _ _ _ hu
  · rw [if_neg e, show (us.set i u).getD k nilG = us.getD k nilG by simp [List.getD, show ¬ i = k by omega]]
    exact hs _ _ _ (h2 k (by omega) hkm)
theorem OwnBF.same {base Rb m d d' : Nat} {w : World} {f f' : Nat → List Int} (h : OwnBF base w Rb m f d) (hd : d ≤ d') (he : ∀ k, d' ≤ k → k < m → f k = f' k) : OwnBF base w Rb m f' d' := by
  obtain ⟨us, h1, h2⟩ := h
  exact ⟨us, h1, fun k a b => by rw [← he k a b]; exact h2 k (by omega) b⟩
/-- canGo writes the tracker's map alone. -/
theorem OwnBF.keptBut {base Rb m d M : Nat} {w w' : World} {f : Nat → List Int} (h : OwnBF base w Rb m f d) (k : KeptBut M w w') (hM : M < base) : OwnBF base w' Rb m f d := by
  obtain ⟨us, h1, h2⟩ := h
  exact ⟨us, row_keptBut h1 k hM, fun q a b => row_keptBut (h2 q a b) k hM⟩
theorem made_BF {w : World} {base Rb m : Nat} {us : List Value} (h : w.ownsRow base 30 1 (.slice (some ⟨Rb, 0, none⟩) m m) m us) (f : Nat → List Int) : OwnBF base w Rb m f m := ⟨us, h, fun k a b => by omega⟩

/-- One round of the inner loop: the list from scan i so far. -/
theorem RK_hit {G : Nat → Nat → Bool} {b : Nat → List Int} {i j : Nat} (h1 : G i (i + 1 + j) = true) (h2 : betL ((i : Int) :: b (i + 1 + j)) (RK G b i j) = true) : RK G b i (j + 1) = (i : Int) :: b (i + 1 + j) := by
  rw [RK, h1, h2]; rfl
theorem RK_off {G : Nat → Nat → Bool} {b : Nat → List Int} {i j : Nat} (h : (G i (i + 1 + j) && betL ((i : Int) :: b (i + 1 + j)) (RK G b i j)) = false) : RK G b i (j + 1) = RK G b i j := by
  rw [RK, h]; rfl
theorem BK_hit {G : Nat → Nat → Bool} {n m : Nat} (h : betL (bl G n (n - 1 - m)) (BK G n m) = true) : BK G n (m + 1) = bl G n (n - 1 - m) := by rw [BK, if_pos h]
theorem BK_off {G : Nat → Nat → Bool} {n m : Nat} (h : betL (bl G n (n - 1 - m)) (BK G n m) = false) : BK G n (m + 1) = BK G n m := by rw [BK, if_neg (by simp [h])]
theorem RK_len {G : Nat → Nat → Bool} {b : Nat → List Int} {i B : Nat} : ∀ {m : Nat}, (∀ j, j < m → (b (i + 1 + j)).length ≤ B) → (RK G b i m).length ≤ B + 1
  | 0, _ => by simp [RK]
  | m + 1, h => by
    have h1 := RK_len (G := G) (m := m) (fun j hj => h j (by omega))
    have h2 := h m (by omega)
    rw [RK]
    split
    · simp; omega
    · exact h1
end Go.Proofs.Ytamnojhkfknnoaa
/-
  A slice of nil slices is made, inside a fence: what the program's MostScans does first.
-/
namespace Go.Proofs.Ytamnojhkfknnoaa
open Go Go.RowKit
set_option linter.unusedVariables false

theorem info_i64s : (Try.prog.info? 30).map (fun i => (i.zero, i.size, i.bytes)) = some (some (.slice none 0 0), 1, 24) := by kernel_rfl
theorem wpListIn_make_rows {F : Fence} {n : Nat} (w : World) {ops : Array Oper} {rest : List Oper} {o : Oper} {a : Act} {Q : Exit → Act → World → Prop}
    (hg : o.guard = none) (l c : Operand) (hop : o.op = Op.makeSlice 70 l c) (base m : Nat) (hl : a.eval l = .int .i64 (m : Int)) (hc : a.eval c = .int .i64 (m : Int)) (hm : m ≤ 1000) (hb : base ≤ w.heap.size)
    (hK : ∀ w', (∃ us, w'.ownsRow base 30 1 (.slice (some ⟨w.heap.size, 0, none⟩) m m) m us) → w.grownBy w' none → wpListIn F n Try.prog ops Q rest (a.put o.dst (.slice (some ⟨w.heap.size, 0, none⟩) m m)) w') : wpListIn F n Try.prog ops Q (o :: rest) a w := by
  obtain ⟨i0, hi, hz0, hz1, hz2⟩ := info_parts info_i64s
  refine wpListIn_plain hg fun K hK' => ?_
  obtain ⟨w', hrun, r1, r2⟩ := run_make_full (P := Try.prog) w base 70 30 i0 (.slice none 0 0) 1 Try.underlying70 hi hz0 hz1 .i64 .i64 m (by rw [hz2]; omega) (by unfold maxLen; omega) hb
  unfold Oper.wpIn
  refine ⟨?_, ?_⟩
  · simp [Oper.about, hop]
  · rw [Oper.semAt_plain F _ _ (by rw [hop]; intro c hc'; cases hc')]
    simp [execOp, hop, hl, hc, hrun, Result.andThen]
    exact hK' _ _ (hK _ ⟨_, r1⟩ r2)
end Go.Proofs.Ytamnojhkfknnoaa
