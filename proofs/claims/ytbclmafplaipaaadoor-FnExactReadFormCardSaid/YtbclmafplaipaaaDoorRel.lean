/-
  A region that draws its order, in one walk: each operation yields, in whatever world of a class, a value that is good for something (a relation of its own), given what the operations that it waits for have yielded; behind these a tail may stand, each operation of which waits for all that stand before it.
-/
import Derived.Orders
import Derived.Tactics
namespace Go.Proofs.YtbclmafplaipaaaDoor
open Go
set_option linter.unusedVariables false

abbrev Rel := Value → World → Prop
def waitsFor (o : Oper) : List Nat := (o.after.toList.filter fun e => Region.binds .any e).map (·.on)
def waitsOf (ops : Array Oper) (i : Nat) : List Nat := match ops[i]? with
  | none => []
  | some o => waitsFor o
def reach (ops : Array Oper) : Nat → Nat → Nat → Bool
  | 0, _, _ => false
  | f + 1, i, j => (waitsOf ops i).contains j || (waitsOf ops i).any (fun k => reach ops f k j)
def noSel (o : Oper) : Bool := match o.op with
  | .select _ _ => false
  | _ => true
theorem noSel_ne {o : Oper} (h : noSel o = true) : ∀ cs b, o.op ≠ .select cs b := by
  intro cs b hc
  unfold noSel at h
  rw [hc] at h
  exact absurd h (by simp)
def relHead (ops : Array Oper) (i : Nat) : Bool := match ops[i]? with
  | none => true
  | some o => o.guard.isNone && noSel o && (waitsFor o).all (fun j => decide (j < i)) &&
      (List.range ops.size).all fun j => match ops[j]? with
        | none => true
        | some p => match p.dst with
          | none => true
          | some d => ((i == j) || (o.dst != some d)) && (!(o.looksAt ops).contains d || (waitsFor o).contains j)
def relTail (ops : Array Oper) (i : Nat) : Bool := (waitsOf ops i).all (fun j => decide (j < i)) && (List.range i).all fun j => reach ops ops.size i j
def relOK (ops : Array Oper) (m : Nat) : Bool := decide (m ≤ ops.size) && (List.range ops.size).all fun i => if i < m then relHead ops i else relTail ops i

section
variable {P : Program} {ops : Array Oper} {C : World → Prop} {St : World → World → Prop} {Q : Exit → Act → World → Prop}

/-- What an operation owes. -/
def relObl (P : Program) (C : World → Prop) (St : World → World → Prop) (R : Rel) (o : Oper) (a : Act) (w : World) : Prop :=
  o.wp P a w (fun a' w' => ∃ v, a' = a.put o.dst v ∧ C w' ∧ St w w' ∧ R v w') (fun _ _ _ => False)
theorem relObl_intro {R : Rel} {o : Oper} {a : Act} {w : World} (h : ∀ K : Act → World → Prop, (∀ a' w', (∃ v, a' = a.put o.dst v ∧ C w' ∧ St w w' ∧ R v w') → K a' w') → o.wp P a w K (fun _ _ _ => False)) : relObl P C St R o a w := h _ (fun _ _ h => h)

/-- The walk in the order of the text. -/
def wpRel (P : Program) (ops : Array Oper) (C : World → Prop) (St : World → World → Prop) (Q : Exit → Act → World → Prop) (tail : List Oper) : List Oper → List Rel → Act → List (World → Prop) → Prop
  | o :: os, R :: Rs, a, E => (∀ v w w', C w → St w w' → R v w → R v w') ∧ (∀ w, C w → (∀ j, (waitsFor o).contains j = true → ∀ e, E[j]? = some e → e w) → relObl P C St R o a w) ∧ ∀ v, wpRel P ops C St Q tail os Rs (a.put o.dst v) (E ++ [R v])
  | _, _, a, E => ∀ w, C w → (∀ (j : Nat) (e : World → Prop), E[j]? = some e → e w) → wpList P ops Q tail a w

def actsL : List Oper → (Nat → Value) → Nat → Act → Act
  | o :: os, vs, i + 1, a => actsL os (fun t => vs (t + 1)) i (a.put o.dst (vs 0))
  | _, _, _, a => a
def envL : List Rel → (Nat → Value) → Nat → List (World → Prop)
  | R :: Rs, vs, i + 1 => R (vs 0) :: envL Rs (fun t => vs (t + 1)) i
  | _, _, _ => []
theorem envL_get (Rs : List Rel) (vs : Nat → Value) (i j : Nat) (e : World → Prop) (h : (envL Rs vs i)[j]? = some e) : j < i ∧ ∃ R, Rs[j]? = some R ∧ e = R (vs j) := by
  induction Rs generalizing vs i j with
  | nil => cases i <;> simp [envL] at h
  | cons R Rs ih =>
    cases i with
    | zero => simp [envL] at h
    | succ i =>
      rw [envL] at h
      cases j with
      | zero => simp at h; exact ⟨by omega, R, rfl, h.symm⟩
      | succ j =>
        simp only [List.getElem?_cons_succ] at h
        obtain ⟨h1, R', h2, h3⟩ := ih _ _ _ h
        exact ⟨by omega, R', by simpa using h2, h3⟩
theorem envL_mem (Rs : List Rel) (vs : Nat → Value) (i : Nat) (e : World → Prop) (h : e ∈ envL Rs vs i) : ∃ j R, j < i ∧ Rs[j]? = some R ∧ e = R (vs j) := by
  obtain ⟨j, hj⟩ := List.getElem?_of_mem h
  obtain ⟨h1, R, h2, h3⟩ := envL_get _ _ _ _ _ hj
  exact ⟨j, R, h1, h2, h3⟩
theorem wpRel_at {tail : List Oper} : ∀ (os : List Oper) (Rs : List Rel) (a : Act) (E : List (World → Prop)), Rs.length = os.length → wpRel P ops C St Q tail os Rs a E → ∀ (vs : Nat → Value) (i : Nat) (o : Oper) (R : Rel), os[i]? = some o → Rs[i]? = some R →
    (∀ v w w', C w → St w w' → R v w → R v w') ∧ ∀ w, C w → (∀ j, (waitsFor o).contains j = true → ∀ e, (E ++ envL Rs vs i)[j]? = some e → e w) → relObl P C St R o (actsL os vs i a) w
  | [], _, _, _, _, _, _, i, _, _, h, _ => by simp at h
  | o :: os, [], _, _, hl, _, _, _, _, _, _, _ => by simp at hl
  | o :: os, R :: Rs, a, E, hl, h, vs, 0, o', R', ho, hR => by
    simp only [List.getElem?_cons_zero, Option.some.injEq] at ho hR
    subst ho; subst hR
    refine ⟨h.1, fun w hw hd => ?_⟩
    simp only [envL, List.append_nil] at hd
    exact h.2.1 w hw hd
  | o :: os, R :: Rs, a, E, hl, h, vs, i + 1, o', R', ho, hR => by
    have h2 := wpRel_at os Rs (a.put o.dst (vs 0)) (E ++ [R (vs 0)]) (by simpa using hl) (h.2.2 (vs 0)) (fun t => vs (t + 1)) i o' R' (by simpa using ho) (by simpa using hR)
    refine ⟨h2.1, fun w hw hd => ?_⟩
    refine h2.2 w hw fun j hj e he => hd j hj e ?_
    rw [List.append_assoc] at he
    exact he
theorem wpRel_end {tail : List Oper} : ∀ (os : List Oper) (Rs : List Rel) (a : Act) (E : List (World → Prop)), Rs.length = os.length → wpRel P ops C St Q tail os Rs a E → ∀ (vs : Nat → Value) (w : World), C w → (∀ (j : Nat) (e : World → Prop), (E ++ envL Rs vs os.length)[j]? = some e → e w) → wpList P ops Q tail (actsL os vs os.length a) w
  | [], _, a, E, hl, h, vs, w, hw, he => by
    unfold wpRel at h
    exact h w hw fun j e h' => he j e (by simpa [envL] using h')
  | o :: os, [], _, _, hl, _, _, _, _, _ => by simp at hl
  | o :: os, R :: Rs, a, E, hl, h, vs, w, hw, he => by
    refine wpRel_end os Rs (a.put o.dst (vs 0)) (E ++ [R (vs 0)]) (by simpa using hl) (h.2.2 (vs 0)) (fun t => vs (t + 1)) w hw fun j e h' => he j e ?_
    rw [List.append_assoc] at h'
    exact h'

/-- The frame with what some of the operations have yielded. -/
def fillL : List Oper → (Nat → Bool) → (Nat → Value) → Act → Act
  | o :: os, f, vs, a => fillL os (fun t => f (t + 1)) (fun t => vs (t + 1)) (if f 0 = true then a.put o.dst (vs 0) else a)
  | [], _, _, a => a
theorem fillL_none (os : List Oper) (vs : Nat → Value) (a : Act) : fillL os (fun _ => false) vs a = a := by
  induction os generalizing vs with
  | nil => rfl
  | cons o os ih => rw [fillL]; exact ih _
theorem fillL_congr (os : List Oper) (f g : Nat → Bool) (vs : Nat → Value) (a : Act) (h : ∀ j, j < os.length → f j = g j) : fillL os f vs a = fillL os g vs a := by
  induction os generalizing f g vs a with
  | nil => rfl
  | cons o os ih =>
    rw [fillL, fillL, h 0 (by simp)]
    exact ih _ _ _ _ fun j hj => h (j + 1) (by simpa using hj)
theorem actsL_fill (os : List Oper) (vs : Nat → Value) (i : Nat) (a : Act) : actsL os vs i a = fillL os (fun j => decide (j < i)) vs a := by
  induction os generalizing vs i a with
  | nil => cases i <;> rfl
  | cons o os ih =>
    cases i with
    | zero =>
      rw [fillL_congr _ _ (fun _ => false) _ _ (fun j _ => by simp), fillL_none]; rfl
    | succ i =>
      rw [actsL, ih, fillL]
      simp
theorem put_size (a : Act) (d : Option Tmp) (v : Value) : (a.put d v).tmps.size = a.tmps.size := by cases d <;> simp [Act.put]
theorem fillL_size (os : List Oper) (f : Nat → Bool) (vs : Nat → Value) (a : Act) : (fillL os f vs a).tmps.size = a.tmps.size := by
  induction os generalizing f vs a with
  | nil => rfl
  | cons o os ih =>
    rw [fillL, ih]
    split
    · exact put_size _ _ _
    · rfl
theorem eval_put_same {a b : Act} {d : Tmp} {v : Value} {x : Operand} (h : a.eval x = b.eval x) (hs : a.tmps.size = b.tmps.size) : (a.put (some d) v).eval x = (b.put (some d) v).eval x := by
  by_cases e : x = .tmp d
  · subst e
    simp [Act.put, Act.eval, Array.getElem?_setIfInBounds, hs]
  · rw [Act.eval_put (fun d' h' => by cases h'; exact e), Act.eval_put (fun d' h' => by cases h'; exact e), h]
theorem fillL_eval (x : Operand) (os : List Oper) (f g : Nat → Bool) (vs : Nat → Value) (a b : Act) (h : a.eval x = b.eval x) (hs : a.tmps.size = b.tmps.size) (hd : ∀ (j : Nat) (o : Oper) (d : Tmp), os[j]? = some o → o.dst = some d → x = .tmp d → f j = g j) : (fillL os f vs a).eval x = (fillL os g vs b).eval x := by
  induction os generalizing f g vs a b with
  | nil => exact h
  | cons o os ih =>
    rw [fillL, fillL]
    refine ih _ _ _ _ _ ?_ ?_ fun j o' d ho hd' hx => hd (j + 1) o' d (by simpa using ho) hd' hx
    · cases hdst : o.dst with
      | none => split <;> split <;> exact h
      | some d =>
        by_cases e : x = .tmp d
        · have := hd 0 o d (by simp) hdst e
          rw [this]
          split
          · exact eval_put_same h hs
          · exact h
        · have hp : ∀ (c : Act) (v : Value), (c.put (some d) v).eval x = c.eval x := fun c v => Act.eval_put (fun d' h' => by cases h'; exact e)
          split <;> split <;> first | exact h | (simp only [hp]; exact h)
    · split <;> split <;> first | exact hs | (simp only [put_size]; exact hs)
theorem fillL_put (os : List Oper) (f : Nat → Bool) (vs : Nat → Value) (a : Act) (d : Option Tmp) (v : Value) (h : ∀ o ∈ os, ∀ t, o.dst = some t → d ≠ some t) : fillL os f vs (a.put d v) = (fillL os f vs a).put d v := by
  induction os generalizing f vs a with
  | nil => rfl
  | cons o os ih =>
    rw [fillL, fillL, ← ih _ _ _ (fun o' ho' => h o' (by simp [ho']))]
    split
    · rw [Act.put_comm _ _ _ (fun t ht => by
        intro e
        exact h o (by simp) t e (by rw [ht]))]
    · rfl
theorem fillL_set (os : List Oper) (f g : Nat → Bool) (vs : Nat → Value) (a : Act) (i : Nat) (o : Oper) (v : Value) (ho : os[i]? = some o) (hf : f i = false) (hg : g i = true) (hfg : ∀ j, j ≠ i → g j = f j) (hdis : ∀ (j : Nat) (p : Oper) (t : Tmp), os[j]? = some p → j ≠ i → p.dst = some t → o.dst ≠ some t) :
    fillL os g (fun t => if t = i then v else vs t) a = (fillL os f vs a).put o.dst v := by
  induction os generalizing f g vs a i with
  | nil => simp at ho
  | cons p os ih =>
    cases i with
    | zero =>
      simp only [List.getElem?_cons_zero, Option.some.injEq] at ho
      subst ho
      rw [fillL, fillL, hf, hg]
      simp only [if_true, Bool.false_eq_true, if_false]
      rw [← fillL_put os _ _ a p.dst v (fun o' ho' t ht => by
        obtain ⟨j, hj⟩ := List.getElem?_of_mem ho'
        exact hdis (j + 1) o' t (by simpa using hj) (by omega) ht)]
      have e1 : (fun t => if t + 1 = 0 then v else vs (t + 1)) = fun t => vs (t + 1) := by funext t; simp
      rw [e1]
      exact fillL_congr _ _ _ _ _ fun j _ => hfg (j + 1) (by omega)
    | succ i =>
      rw [fillL, fillL, hfg 0 (by omega)]
      have e1 : (fun t => if t + 1 = i + 1 then v else vs (t + 1)) = fun t => if t = i then v else (fun t => vs (t + 1)) t := by funext t; simp
      rw [e1]
      have e2 : (if (0 : Nat) = i + 1 then v else vs 0) = vs 0 := by simp
      rw [e2]
      exact ih (fun t => f (t + 1)) (fun t => g (t + 1)) (fun t => vs (t + 1)) _ i (by simpa using ho) hf hg (fun j hj => hfg (j + 1) (by omega)) (fun j p t hp hj => hdis (j + 1) p t (by simpa using hp) (by omega))

theorem put_same {a b : Act} (hs : a.tmps.size = b.tmps.size) {d : Option Tmp} {u v : Value} (h : b.put d u = b.put d v) : a.put d u = a.put d v := by
  cases d with
  | none => rfl
  | some t =>
    by_cases ht : t < b.tmps.size
    · have e : (b.put (some t) u).tmps[t]? = (b.put (some t) v).tmps[t]? := by rw [h]
      simp [Act.put, ht] at e
      rw [e]
    · have h1 : b.tmps.size ≤ t := Nat.le_of_not_lt ht
      have h2 : a.tmps.size ≤ t := by rw [hs]; exact h1
      simp only [Act.put]
      rw [Array.setIfInBounds_eq_of_size_le h2, Array.setIfInBounds_eq_of_size_le h2]
/-- What an operation owes at one frame it pays at another one that reads the same. -/
theorem oper_other {R : Value → World → Prop} {o : Oper} {a b : Act} {w : World} (he : execOp a.eval o = execOp b.eval o) (hs : a.tmps.size = b.tmps.size)
    (h : o.wp P b w (fun b' w' => ∃ v, b' = b.put o.dst v ∧ R v w') (fun _ _ _ => False)) : o.wp P a w (fun a' w' => ∃ v, a' = a.put o.dst v ∧ R v w') Q := by
  unfold Oper.wp at *
  rw [he]
  generalize (execOp b.eval o).run P w = r at *
  cases r with
  | ok n w' =>
    cases n <;> simp only [Oper.upon] at h ⊢
    case value v => obtain ⟨u, e, hr⟩ := h; exact ⟨u, put_same hs e, hr⟩
    case skip => obtain ⟨u, e, hr⟩ := h; exact ⟨u, put_same hs e, hr⟩
    case defer d =>
      obtain ⟨u, e, _⟩ := h
      generalize o.dst = dd at e
      have e2 := congrArg Act.defers e
      cases dd <;> simp [Act.put] at e2
    case enter f args =>
      refine Calls.mono h fun e w'' he => ?_
      cases e with
      | returned v => obtain ⟨u, e, hr⟩ := he; exact ⟨u, put_same hs e, hr⟩
      | panicked c => exact he.elim
      | outgrown => unfold LetsOut at *; exact absurd he (by simp)
    case row row args =>
      exact Rows.mono h fun v w'' he => by obtain ⟨u, e, hr⟩ := he; exact ⟨u, put_same hs e, hr⟩
  | halt x w' => cases x <;> simp only [Oper.upon] at h

theorem waitsOf_some {i : Nat} {o : Oper} (ho : ops[i]? = some o) : waitsOf ops i = waitsFor o := by unfold waitsOf; rw [ho]
theorem mem_waits {o : Oper} {e : Edge} (he : e ∈ o.after) (hb : Region.binds .any e = true) : e.on ∈ waitsFor o :=
  List.mem_map.2 ⟨e, List.mem_filter.2 ⟨Array.mem_toList_iff.2 he, hb⟩, rfl⟩
theorem of_waits {o : Oper} {j : Nat} (h : j ∈ waitsFor o) : ∃ e ∈ o.after, Region.binds .any e = true ∧ e.on = j := by
  obtain ⟨e, he, rfl⟩ := List.mem_map.1 h
  obtain ⟨h1, h2⟩ := List.mem_filter.1 he
  exact ⟨e, Array.mem_toList_iff.1 h1, h2, rfl⟩
theorem relHead_spec {i : Nat} {o : Oper} (ho : ops[i]? = some o) (h : relHead ops i = true) :
    o.guard = none ∧ noSel o = true ∧ (∀ j ∈ waitsFor o, j < i) ∧ ∀ (j : Nat) (p : Oper) (d : Tmp), ops[j]? = some p → p.dst = some d → (i ≠ j → o.dst ≠ some d) ∧ (d ∈ o.looksAt ops → j ∈ waitsFor o) := by
  unfold relHead at h
  rw [ho] at h
  simp only [Bool.and_eq_true] at h
  obtain ⟨⟨⟨h1, h2⟩, h3⟩, h4⟩ := h
  refine ⟨by simpa using h1, h2, fun j hj => by simpa using (List.all_eq_true.1 h3) j hj, fun j p d hp hd => ?_⟩
  have h5 := (List.all_eq_true.1 h4) j (List.mem_range.2 (Array.getElem?_eq_some_iff.1 hp).1)
  simp only [hp, hd, Bool.and_eq_true, Bool.or_eq_true, beq_iff_eq, bne_iff_ne, Bool.not_eq_true', List.contains_eq_mem, decide_eq_false_iff_not, decide_eq_true_eq] at h5
  exact ⟨fun hij => h5.1.resolve_left hij, fun hm => h5.2.resolve_left (fun hn => hn hm)⟩
theorem reach_listed {L : Nat → Prop} (hc : ∀ j, L j → ∀ k ∈ waitsOf ops j, L k) : ∀ (f i j : Nat), (∀ k ∈ waitsOf ops i, L k) → reach ops f i j = true → L j
  | 0, _, _, _, h => by simp [reach] at h
  | f + 1, i, j, hi, h => by
    simp only [reach, Bool.or_eq_true, List.contains_eq_mem, decide_eq_true_eq, List.any_eq_true] at h
    rcases h with h | ⟨k, hk, h⟩
    · exact hi j h
    · exact reach_listed hc f k j (hc k (hi k hk)) h
theorem countP_upd {p q : Nat → Bool} {i : Nat} (hp : p i = false) (hq : q i = true) (h : ∀ j, j ≠ i → q j = p j) : ∀ l : List Nat, l.Nodup → i ∈ l → l.countP q = l.countP p + 1
  | [], _, hm => by simp at hm
  | x :: xs, hn, hm => by
    rw [List.nodup_cons] at hn
    rw [List.countP_cons, List.countP_cons]
    by_cases e : x = i
    · subst e
      have : xs.countP q = xs.countP p := List.countP_congr fun j hj => by
        rw [h j (fun e => hn.1 (e ▸ hj))]
      rw [this, hp, hq]; simp
    · have := countP_upd hp hq h xs hn.2 ((List.mem_cons.1 hm).resolve_left (Ne.symm e))
      rw [this, h x e]; omega
theorem countP_lt (m n : Nat) : (List.range n).countP (fun j => decide (j < m)) ≤ m ∧ (List.range n).countP (fun j => decide (j < m)) ≤ n := by
  induction n with
  | zero => simp
  | succ n ih =>
    rw [List.range_succ, List.countP_append, List.countP_singleton]
    by_cases h : n < m
    · rw [if_pos (by simpa using h)]; omega
    · rw [if_neg (by simpa using h)]; omega
theorem getD_tt {l : Array Bool} {j : Nat} (h : l.getD j false = true) : l.getD j true = true := by
  by_cases hj : j < l.size
  · simp [hj] at h ⊢; exact h
  · simp [hj] at h
theorem getD_ff {l : Array Bool} {j : Nat} (hj : j < l.size) (h : ¬ l.getD j false = true) : l.getD j true = false := by
  simp [hj] at h ⊢; exact h
theorem getD_tf {l : Array Bool} {j : Nat} (h : l.getD j true = false) : ¬ l.getD j false = true := fun e => by
  have := getD_tt e; rw [h] at this; cases this
theorem tail_any {m : Nat} (hT : ∀ i, m ≤ i → i < ops.size → relTail ops i = true) (hH : ∀ i o, i < m → ops[i]? = some o → ∀ j ∈ waitsFor o, j < i) : ∀ (l : List Oper) (t fuel : Nat) (listed : Array Bool) (a : Act) (w : World), l = ops.toList.drop t → m ≤ t → listed.size = ops.size →
    (∀ j, j < t → j < ops.size → listed.getD j false = true) → (∀ j, t ≤ j → j < ops.size → listed.getD j true = false) → l.length ≤ fuel → wpList P ops Q l a w → wpAny P .any ops Q fuel listed a w
  | [], t, fuel, listed, a, w, hl, hmt, hsz, h1, h2, hf, h => by
    have hlen : ops.size ≤ t := by
      have : (ops.toList.drop t).length = 0 := by rw [← hl]; rfl
      simp at this; omega
    have hr : Region.ready .any ops listed = [] := by
      refine List.eq_nil_iff_forall_not_mem.2 fun i hi => ?_
      obtain ⟨g1, o, ho, _⟩ := mem_ready.1 hi
      have hlt := (Array.getElem?_eq_some_iff.1 ho).1
      exact getD_tf g1 (h1 i (by omega) hlt)
    cases fuel with
    | zero => exact ⟨hr, h⟩
    | succ f => exact ⟨fun _ => h, fun i hi => by rw [hr] at hi; cases hi⟩
  | o :: rest, t, fuel, listed, a, w, hl, hmt, hsz, h1, h2, hf, h => by
    have ho : ops[t]? = some o := by
      have : (ops.toList.drop t)[0]? = some o := by rw [← hl]; rfl
      simpa using this
    have hlt := (Array.getElem?_eq_some_iff.1 ho).1
    have hwl : ∀ j p, ops[j]? = some p → ∀ k ∈ waitsFor p, k < j := fun j p hp k hk => by
      by_cases hj : j < m
      · exact hH j p hj hp k hk
      · have := hT j (by omega) (Array.getElem?_eq_some_iff.1 hp).1
        unfold relTail at this
        rw [waitsOf_some hp, Bool.and_eq_true] at this
        simpa using (List.all_eq_true.1 this.1) k hk
    have hL : ∀ j, listed.getD j false = true → j < t := fun j hj => by
      by_cases hjs : j < ops.size
      · by_cases hjt : j < t
        · exact hjt
        · exact absurd hj (getD_tf (h2 j (by omega) hjs))
      · have : listed.getD j false = false := by simp [show ¬ j < listed.size by omega]
        rw [this] at hj; cases hj
    cases fuel with
    | zero => simp at hf
    | succ f =>
      have hone : ∀ i ∈ Region.ready .any ops listed, i = t := fun i hi => by
        obtain ⟨g1, p, hp, g2⟩ := mem_ready.1 hi
        have hip := (Array.getElem?_eq_some_iff.1 hp).1
        by_cases hit : i < t
        · exact absurd (h1 i hit hip) (getD_tf g1)
        · by_cases e : i = t
          · exact e
          · have h3 := hT i (by omega) hip
            unfold relTail at h3
            rw [Bool.and_eq_true] at h3
            have h4 := (List.all_eq_true.1 h3.2) t (List.mem_range.2 (by omega))
            have h5 : listed.getD t false = true := reach_listed (L := fun j => listed.getD j false = true) (fun j hj k hk => by
              have hjt := hL j hj
              have hj' : ops[j]? = some ops[j] := Array.getElem?_eq_getElem (by omega)
              rw [waitsOf_some hj'] at hk
              have := hwl j _ hj' k hk
              exact h1 k (by omega) (by omega)) ops.size i t (fun k hk => by
              rw [waitsOf_some hp] at hk
              obtain ⟨e, he, hb, rfl⟩ := of_waits hk
              exact g2 e he hb) h4
            exact absurd h5 (getD_tf (h2 t (Nat.le_refl _) hlt))
      refine ⟨fun hr => ?_, fun i hi => ?_⟩
      · have : t ∈ Region.ready .any ops listed := mem_ready.2 ⟨h2 t (Nat.le_refl _) hlt, o, ho, fun e he hb => by
          have := hwl t o ho e.on (mem_waits he hb)
          exact h1 _ this (by omega)⟩
        rw [hr] at this; cases this
      · have e := hone i hi
        subst e
        have hstep : wpOp P ops Q i (wpList P ops Q rest) a w := by unfold wpOp; simp only [ho]; exact h
        refine wpOp_mono (fun a' w' h' => tail_any hT hH rest (i + 1) f _ a' w' ?_ (by omega) (by simpa using hsz) (fun j hj hjs => ?_) (fun j hj hjs => ?_) (by simp at hf; omega) h') hstep
        · have : ops.toList.drop (i + 1) = (ops.toList.drop i).drop 1 := by rw [List.drop_drop]
          rw [this, ← hl]; rfl
        · by_cases e : i = j
          · subst e; simp [show i < listed.size by omega]
          · rw [getD_set_ne false e]; exact h1 j (by omega) hjs
        · rw [getD_set_ne true (by omega)]; exact h2 j (by omega) hjs

theorem rel_any {m : Nat} (hm : m ≤ ops.size) (hT : ∀ i, m ≤ i → i < ops.size → relTail ops i = true) (hR : ∀ i, i < m → relHead ops i = true) {Rs : List Rel} (hl : Rs.length = m) {a0 : Act}
    (hw : wpRel P ops C St Q (ops.toList.drop m) (ops.toList.take m) Rs a0 []) : ∀ (fuel : Nat) (listed : Array Bool) (a : Act) (w : World) (vs : Nat → Value), listed.size = ops.size →
    ops.size ≤ (List.range ops.size).countP (fun j => listed.getD j false) + fuel → (∀ j, m ≤ j → j < ops.size → listed.getD j true = false) → (∀ j, listed.getD j false = true → ∀ k ∈ waitsOf ops j, listed.getD k false = true) → C w →
    (∀ j R, listed.getD j false = true → Rs[j]? = some R → R (vs j) w) → a = fillL (ops.toList.take m) (fun j => listed.getD j false) vs a0 → wpAny P .any ops Q fuel listed a w := by
  have htl : (ops.toList.take m).length = m := by simp; omega
  have hH : ∀ i o, i < m → ops[i]? = some o → ∀ j ∈ waitsFor o, j < i := fun i o hi ho => (relHead_spec ho (hR i hi)).2.2.1
  have htk : ∀ i o, i < m → ops[i]? = some o → (ops.toList.take m)[i]? = some o := fun i o hi ho => by
    rw [List.getElem?_take]; simp [hi, ho]
  have hkt : ∀ (i : Nat) (o : Oper), (ops.toList.take m)[i]? = some o → ops[i]? = some o := fun i o h => by
    rw [List.getElem?_take] at h
    split at h
    · simpa using h
    · cases h
  intro fuel
  induction fuel with
  | zero =>
    intro listed a w vs hsz hcnt htail hcl hC hf ha
    have h1 := List.countP_le_length (p := fun j => listed.getD j false) (l := List.range ops.size)
    rw [List.length_range] at h1
    have hall := List.countP_eq_length.1 (show (List.range ops.size).countP (fun j => listed.getD j false) = (List.range ops.size).length by rw [List.length_range]; omega)
    have hmn : m = ops.size := by
      by_cases e : m = ops.size
      · exact e
      · have h2 := hall m (List.mem_range.2 (by omega))
        exact absurd h2 (getD_tf (htail m (Nat.le_refl _) (by omega)))
    refine tail_any hT hH _ m 0 listed a w rfl (Nat.le_refl _) hsz (fun j hj hjs => hall j (List.mem_range.2 hjs)) htail (by simp; omega) ?_
    have h3 := wpRel_end _ Rs a0 [] (by rw [htl, hl]) hw vs w hC (fun j e he => by
      simp only [List.nil_append] at he
      obtain ⟨h4, R, h5, rfl⟩ := envL_get _ _ _ _ _ he
      rw [htl] at h4
      exact hf j R (hall j (List.mem_range.2 (by omega))) h5)
    rw [actsL_fill, htl] at h3
    rw [ha, fillL_congr _ _ (fun j => decide (j < m)) _ _ (fun j hj => by
      rw [htl] at hj
      rw [hall j (List.mem_range.2 (by omega))]; simp [hj])]
    exact h3
  | succ fuel ih =>
    intro listed a w vs hsz hcnt htail hcl hC hf ha
    by_cases hall : ∀ j, j < m → listed.getD j false = true
    · have hc1 : (List.range ops.size).countP (fun j => listed.getD j false) ≤ m := by
        refine Nat.le_trans (List.countP_mono_left fun j hj hjl => ?_) (countP_lt m ops.size).1
        simp only [decide_eq_true_eq]
        by_cases e : j < m
        · exact e
        · exact absurd hjl (getD_tf (htail j (by omega) (List.mem_range.1 hj)))
      refine tail_any hT hH _ m _ listed a w rfl (Nat.le_refl _) hsz (fun j hj hjs => hall j hj) htail (by simp; omega) ?_
      have h3 := wpRel_end _ Rs a0 [] (by rw [htl, hl]) hw vs w hC (fun j e he => by
        simp only [List.nil_append] at he
        obtain ⟨h4, R, h5, rfl⟩ := envL_get _ _ _ _ _ he
        rw [htl] at h4
        exact hf j R (hall j h4) h5)
      rw [actsL_fill, htl] at h3
      rw [ha, fillL_congr _ _ (fun j => decide (j < m)) _ _ (fun j hj => by
        rw [htl] at hj
        rw [hall j hj]; simp [hj])]
      exact h3
    · refine ⟨fun hr => ?_, fun i hi => ?_⟩
      · refine absurd (fun j => ?_) hall
        induction j using Nat.strongRecOn with
        | ind j ihj =>
          intro hj
          refine Classical.byContradiction fun hn => ?_
          have hjo : ops[j]? = some ops[j] := Array.getElem?_eq_getElem (by omega)
          have : j ∈ Region.ready .any ops listed := mem_ready.2 ⟨getD_ff (by omega) hn, _, hjo, fun e he hb => by
            have h1 := hH j _ hj hjo e.on (mem_waits he hb)
            exact ihj _ h1 (by omega)⟩
          rw [hr] at this; cases this
      · obtain ⟨g1, o, ho, g2⟩ := mem_ready.1 hi
        have hin := (Array.getElem?_eq_some_iff.1 ho).1
        have hwl : ∀ k ∈ waitsFor o, listed.getD k false = true := fun k hk => by
          obtain ⟨e, he, hb, rfl⟩ := of_waits hk
          exact g2 e he hb
        by_cases him : i < m
        · obtain ⟨hg, hns, hwi, hds⟩ := relHead_spec ho (hR i him)
          have hRi : Rs[i]? = some (Rs[i]'(by omega)) := List.getElem?_eq_getElem (by omega)
          obtain ⟨R, hRe⟩ : ∃ R, Rs[i]'(by omega) = R := ⟨_, rfl⟩
          rw [hRe] at hRi
          obtain ⟨_, hob⟩ := wpRel_at _ Rs a0 [] (by rw [htl, hl]) hw vs i o R (htk i o him ho) hRi
          have h1 := hob w hC (fun j hj e he => by
            simp only [List.nil_append] at he
            obtain ⟨_, R', h5, rfl⟩ := envL_get _ _ _ _ _ he
            exact hf j R' (hwl j (by simpa using hj)) h5)
          have hev : execOp a.eval o = execOp (actsL (ops.toList.take m) vs i a0).eval o := execOp_congr o (noSel_ne hns) fun x hx => by
            rw [ha, actsL_fill]
            refine fillL_eval x _ _ _ _ _ _ rfl rfl fun j p d hp hd hxd => ?_
            have hw' := (hds j p d (hkt _ _ hp) hd).2 (by
              subst hxd
              exact List.mem_append_left _ (List.mem_filterMap.2 ⟨.tmp d, by simpa using hx, rfl⟩))
            rw [hwl j hw']; simp [hwi j hw']
          have hsz2 : a.tmps.size = (actsL (ops.toList.take m) vs i a0).tmps.size := by rw [ha, actsL_fill, fillL_size, fillL_size]
          have h2 : o.wp P a w (fun a' w' => ∃ v, a' = a.put o.dst v ∧ (C w' ∧ St w w' ∧ R v w')) Q := oper_other hev hsz2 h1
          unfold wpOp
          simp only [ho]
          rw [if_pos (by simp [Region.wanted, hg])]
          refine .inl (Oper.wp_mono (fun a' w' h' => ?_) h2)
          obtain ⟨v, rfl, hC', hSt, hRv⟩ := h'
          refine ih _ _ w' (fun t => if t = i then v else vs t) (by simpa using hsz) ?_ (fun j hj hjs => ?_) (fun j hj k hk => ?_) hC' (fun j R' hj hRj => ?_) ?_
          · have := countP_upd (p := fun j => listed.getD j false) (q := fun j => (listed.setIfInBounds i true).getD j false) (i := i) (by
                have := getD_tf g1; simpa using this) (by simp [show i < listed.size by omega]) (fun j hj => getD_set_ne false (Ne.symm hj)) (List.range ops.size) List.nodup_range (List.mem_range.2 hin)
            omega
          · rw [getD_set_ne true (by omega)]; exact htail j hj hjs
          · refine getD_set_true ?_
            by_cases e : i = j
            · subst e; rw [waitsOf_some ho] at hk; exact hwl k hk
            · rw [getD_set_ne false e] at hj; exact hcl j hj k hk
          · by_cases e : j = i
            · subst e
              rw [hRi] at hRj
              cases hRj
              simpa using hRv
            · rw [getD_set_ne false (Ne.symm e)] at hj
              simp only [e, if_false]
              have hjm : j < m := by
                by_cases h : j < m
                · exact h
                · have : Rs[j]? = none := List.getElem?_eq_none (by omega)
                  rw [this] at hRj; cases hRj
              have hjo : ops[j]? = some ops[j] := Array.getElem?_eq_getElem (by omega)
              obtain ⟨hst, _⟩ := wpRel_at _ Rs a0 [] (by rw [htl, hl]) hw vs j _ R' (htk j _ hjm hjo) hRj
              exact hst _ _ _ hC hSt (hf j R' hj hRj)
          · rw [ha]
            refine (fillL_set _ (fun j => listed.getD j false) _ vs a0 i o v (htk i o him ho) (by have := getD_tf g1; simpa using this) (by simp [show i < listed.size by omega]) (fun j hj => getD_set_ne false (Ne.symm hj)) (fun j p t hp hj ht => ?_)).symm
            exact (hds j p t (hkt _ _ hp) ht).1 (Ne.symm hj)
        · refine absurd (fun j hj => ?_) hall
          have h3 := hT i (by omega) hin
          unfold relTail at h3
          rw [Bool.and_eq_true] at h3
          exact reach_listed (L := fun j => listed.getD j false = true) hcl ops.size i j (fun k hk => by rw [waitsOf_some ho] at hk; exact hwl k hk) ((List.all_eq_true.1 h3.2) j (List.mem_range.2 (by omega)))

/-- **One walk, whatever the order.** -/
theorem wp_region_rel (m : Nat) (Rs : List Rel) {id : Nat} {a : Act} {w : World} (hm : P.follows .mixedOrders = true) (hB : relOK ops m = true) (hl : Rs.length = m) (hC : C w.drew)
    (h : wpRel P ops C St Q (ops.toList.drop m) (ops.toList.take m) Rs a []) : (Code.region id ops true).wp P Q a w := by
  unfold relOK at hB
  rw [Bool.and_eq_true] at hB
  have hm1 : m ≤ ops.size := by simpa using hB.1
  have hall := List.all_eq_true.1 hB.2
  refine wp_region_any hm (rel_any (C := C) (St := St) hm1 (fun i h1 h2 => ?_) (fun i hi => ?_) hl h ops.size _ a _ (fun _ => undef) (by simp) (by omega) (fun j hj hjs => by simp [hjs]) (fun j hj => ?_) hC (fun j R hj => ?_) ?_)
  · have := hall i (List.mem_range.2 h2)
    rwa [if_neg (by omega)] at this
  · have := hall i (List.mem_range.2 (by omega))
    rwa [if_pos hi] at this
  · by_cases hjs : j < ops.size
    · simp [hjs] at hj
    · simp [hjs] at hj
  · by_cases hjs : j < ops.size
    · simp [hjs] at hj
    · simp [hjs] at hj
  · rw [fillL_congr _ _ (fun _ => false) _ _ (fun j hj => by
      by_cases hjs : j < ops.size
      · simp [hjs]
      · simp [hjs]), fillL_none]
theorem wpRel_cons {tail : List Oper} {o : Oper} {os : List Oper} {R : Rel} {Rs : List Rel} {a : Act} {E : List (World → Prop)} (h1 : ∀ v w w', C w → St w w' → R v w → R v w') (h2 : ∀ w, C w → (∀ j, (waitsFor o).contains j = true → ∀ e, E[j]? = some e → e w) → relObl P C St R o a w)
    (h3 : ∀ v, wpRel P ops C St Q tail os Rs (a.put o.dst v) (E ++ [R v])) : wpRel P ops C St Q tail (o :: os) (R :: Rs) a E := ⟨h1, h2, h3⟩
theorem wpRel_nil {tail : List Oper} {a : Act} {E : List (World → Prop)} (h : ∀ w, C w → (∀ (j : Nat) (e : World → Prop), E[j]? = some e → e w) → wpList P ops Q tail a w) : wpRel P ops C St Q tail [] [] a E := by
  unfold wpRel; exact h
theorem wp_region_relL (C : World → Prop) (St : World → World → Prop) (m : Nat) (Rs : List Rel) {l : List Oper} {id : Nat} {a : Act} {w : World} (hm : P.follows .mixedOrders = true) (hB : relOK l.toArray m = true) (hl : Rs.length = m) (hC : C w.drew)
    (h : wpRel P l.toArray C St Q (l.drop m) (l.take m) Rs a []) : (Code.region id l.toArray true).wp P Q a w := wp_region_rel m Rs hm hB hl hC h
end
end Go.Proofs.YtbclmafplaipaaaDoor
