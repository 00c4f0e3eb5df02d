/-
  The same law inside a fence: a region that draws its order, in one walk, whatever the order; also in a round of a range over a function.
-/
import Derived.OrdersIn
import Derived.TacticsIn
import Derived.Test.YtbclmafplaipaaaDoorRel
namespace Go.Proofs.YtbclmafplaipaaaDoor
open Go
set_option linter.unusedVariables false

def noDef (o : Oper) : Bool := match o.op with
  | .defer _ => false
  | _ => true
theorem noDef_ne {o : Oper} (h : noDef o = true) : ∀ c, o.op ≠ .defer c := by
  intro c hc
  unfold noDef at h
  rw [hc] at h
  exact absurd h (by simp)
theorem semAt_noDef {o : Oper} (h : noDef o = true) (r : Option Nat) (ρ : Operand → Value) : o.semAt r ρ = execOp ρ o := by
  cases r with
  | none => exact Oper.semAt_none _ _
  | some l => exact Oper.semAt_some l ρ o (noDef_ne h)
def relDef (ops : Array Oper) : Bool := ops.toList.all noDef
theorem relDef_at {ops : Array Oper} (h : relDef ops = true) {i : Nat} {o : Oper} (ho : ops[i]? = some o) : noDef o = true :=
  List.all_eq_true.1 h o (Array.mem_toList_iff.2 (Array.mem_of_getElem? ho))

section
variable {F : Fence} {n : Nat} {P : Program} {ops : Array Oper} {C : World → Prop} {St : World → World → Prop} {Q : Exit → Act → World → Prop}

/-- What an operation owes. -/
def relOblI (F : Fence) (n : Nat) (P : Program) (C : World → Prop) (St : World → World → Prop) (R : Rel) (o : Oper) (a : Act) (w : World) : Prop :=
  o.wpIn F n P a w (fun a' w' => ∃ v, a' = a.put o.dst v ∧ C w' ∧ St w w' ∧ R v w') (fun _ _ _ => False)
theorem relOblI_intro {R : Rel} {o : Oper} {a : Act} {w : World} (h : ∀ K : Act → World → Prop, (∀ a' w', (∃ v, a' = a.put o.dst v ∧ C w' ∧ St w w' ∧ R v w') → K a' w') → o.wpIn F n P a w K (fun _ _ _ => False)) : relOblI F n P C St R o a w := h _ (fun _ _ h => h)

/-- The walk in the order of the text. -/
def wpRelI (F : Fence) (n : Nat) (P : Program) (ops : Array Oper) (C : World → Prop) (St : World → World → Prop) (Q : Exit → Act → World → Prop) (tail : List Oper) : List Oper → List Rel → Act → List (World → Prop) → Prop
  | o :: os, R :: Rs, a, E => (∀ v w w', C w → St w w' → R v w → R v w') ∧ (∀ w, C w → (∀ j, (waitsFor o).contains j = true → ∀ e, E[j]? = some e → e w) → relOblI F n P C St R o a w) ∧ ∀ v, wpRelI F n P ops C St Q tail os Rs (a.put o.dst v) (E ++ [R v])
  | _, _, a, E => ∀ w, C w → (∀ (j : Nat) (e : World → Prop), E[j]? = some e → e w) → wpListIn F n P ops Q tail a w

theorem wpRelI_at {tail : List Oper} : ∀ (os : List Oper) (Rs : List Rel) (a : Act) (E : List (World → Prop)), Rs.length = os.length → wpRelI F n P ops C St Q tail os Rs a E → ∀ (vs : Nat → Value) (i : Nat) (o : Oper) (R : Rel), os[i]? = some o → Rs[i]? = some R →
    (∀ v w w', C w → St w w' → R v w → R v w') ∧ ∀ w, C w → (∀ j, (waitsFor o).contains j = true → ∀ e, (E ++ envL Rs vs i)[j]? = some e → e w) → relOblI F n P C St R o (actsL os vs i a) w
  | [], _, _, _, _, _, _, i, _, _, h, _ => by simp at h
  | o :: os, [], _, _, hl, _, _, _, _, _, _, _ => by simp at hl
  | o :: os, R :: Rs, a, E, hl, h, vs, 0, o', R', ho, hR => by
    simp only [List.getElem?_cons_zero, Option.some.injEq] at ho hR
    subst ho; subst hR
    refine ⟨h.1, fun w hw hd => ?_⟩
    simp only [envL, List.append_nil] at hd
    exact h.2.1 w hw hd
  | o :: os, R :: Rs, a, E, hl, h, vs, i + 1, o', R', ho, hR => by
    have h2 := wpRelI_at os Rs (a.put o.dst (vs 0)) (E ++ [R (vs 0)]) (by simpa using hl) (h.2.2 (vs 0)) (fun t => vs (t + 1)) i o' R' (by simpa using ho) (by simpa using hR)
    refine ⟨h2.1, fun w hw hd => ?_⟩
    refine h2.2 w hw fun j hj e he => hd j hj e ?_
    rw [List.append_assoc] at he
    exact he
theorem wpRelI_end {tail : List Oper} : ∀ (os : List Oper) (Rs : List Rel) (a : Act) (E : List (World → Prop)), Rs.length = os.length → wpRelI F n P ops C St Q tail os Rs a E → ∀ (vs : Nat → Value) (w : World), C w → (∀ (j : Nat) (e : World → Prop), (E ++ envL Rs vs os.length)[j]? = some e → e w) → wpListIn F n P ops Q tail (actsL os vs os.length a) w
  | [], _, a, E, hl, h, vs, w, hw, he => by
    unfold wpRelI at h
    exact h w hw fun j e h' => he j e (by simpa [envL] using h')
  | o :: os, [], _, _, hl, _, _, _, _, _ => by simp at hl
  | o :: os, R :: Rs, a, E, hl, h, vs, w, hw, he => by
    refine wpRelI_end os Rs (a.put o.dst (vs 0)) (E ++ [R (vs 0)]) (by simpa using hl) (h.2.2 (vs 0)) (fun t => vs (t + 1)) w hw fun j e h' => he j e ?_
    rw [List.append_assoc] at h'
    exact h'

/-- What an operation owes at one frame it pays at another one that reads the same. -/
theorem oper_otherI {R : Value → World → Prop} {o : Oper} {a b : Act} {w : World} (hnd : noDef o = true) (hab : o.about P w a.eval = o.about P w b.eval) (he : execOp a.eval o = execOp b.eval o) (hs : a.tmps.size = b.tmps.size)
    (h : o.wpIn F n P b w (fun b' w' => ∃ v, b' = b.put o.dst v ∧ R v w') (fun _ _ _ => False)) : o.wpIn F n P a w (fun a' w' => ∃ v, a' = a.put o.dst v ∧ R v w') Q := by
  unfold Oper.wpIn at *
  refine ⟨by rw [hab]; exact h.1, ?_⟩
  have h := h.2
  rw [semAt_noDef hnd] at h ⊢
  rw [he]
  generalize (execOp b.eval o).run P w = r at *
  cases r with
  | ok m w' =>
    cases m <;> simp only [Oper.uponIn] at h ⊢
    case value v => obtain ⟨u, e, hr⟩ := h; exact ⟨u, put_same hs e, hr⟩
    case skip => obtain ⟨u, e, hr⟩ := h; exact ⟨u, put_same hs e, hr⟩
    case defer d =>
      obtain ⟨u, e, _⟩ := h
      generalize o.dst = dd at e
      have e2 := congrArg Act.defers e
      cases dd <;> simp [Act.put] at e2
    case enter f args =>
      refine ⟨h.1, CallsIn.mono h.2 fun e w'' he => ?_⟩
      cases e with
      | returned v => obtain ⟨u, e, hr⟩ := he; exact ⟨u, put_same hs e, hr⟩
      | panicked c => exact he.elim
      | outgrown => unfold LetsOut at *; exact absurd he (by simp)
    case row row args =>
      exact ⟨h.1, RowsIn.mono h.2 fun v w'' he => by obtain ⟨u, e, hr⟩ := he; exact ⟨u, put_same hs e, hr⟩⟩
    case round l f tmps asg bd =>
      refine ⟨h.1, RoundIn.mono h.2 fun e w'' he => ?_⟩
      cases e with
      | returned v => obtain ⟨u, e, hr⟩ := he; exact ⟨u, put_same hs e, hr⟩
      | panicked c => exact he.elim
      | outgrown => unfold LetsOut at *; exact absurd he (by simp)
  | halt x w' => cases x <;> simp only [Oper.uponIn] at h

theorem tail_anyI {m : Nat} (hT : ∀ i, m ≤ i → i < ops.size → relTail ops i = true) (hH : ∀ i o, i < m → ops[i]? = some o → ∀ j ∈ waitsFor o, j < i) : ∀ (l : List Oper) (t fuel : Nat) (listed : Array Bool) (a : Act) (w : World), l = ops.toList.drop t → m ≤ t → listed.size = ops.size →
    (∀ j, j < t → j < ops.size → listed.getD j false = true) → (∀ j, t ≤ j → j < ops.size → listed.getD j true = false) → l.length ≤ fuel → wpListIn F n P ops Q l a w → wpAnyIn F n P .any ops Q fuel listed a w
  | [], t, fuel, listed, a, w, hl, hmt, hsz, h1, h2, hf, h => by
    have hlen : ops.size ≤ t := by
      have : (ops.toList.drop t).length = 0 := by rw [← hl]; rfl
      simp at this; omega
    have hr : Region.ready .any ops listed = [] := by
      refine List.eq_nil_iff_forall_not_mem.2 fun i hi => ?_
      obtain ⟨g1, o, ho, _⟩ := mem_ready.1 hi
      have hlt := (Array.getElem?_eq_some_iff.1 ho).1
      exact getD_tf g1 (h1 i (by omega) hlt)
    cases fuel with
    | zero => exact ⟨hr, h⟩
    | succ f => exact ⟨fun _ => h, fun i hi => by rw [hr] at hi; cases hi⟩
  | o :: rest, t, fuel, listed, a, w, hl, hmt, hsz, h1, h2, hf, h => by
    have ho : ops[t]? = some o := by
      have : (ops.toList.drop t)[0]? = some o := by rw [← hl]; rfl
      simpa using this
    have hlt := (Array.getElem?_eq_some_iff.1 ho).1
    have hwl : ∀ j p, ops[j]? = some p → ∀ k ∈ waitsFor p, k < j := fun j p hp k hk => by
      by_cases hj : j < m
      · exact hH j p hj hp k hk
      · have := hT j (by omega) (Array.getElem?_eq_some_iff.1 hp).1
        unfold relTail at this
        rw [waitsOf_some hp, Bool.and_eq_true] at this
        simpa using (List.all_eq_true.1 this.1) k hk
    have hL : ∀ j, listed.getD j false = true → j < t := fun j hj => by
      by_cases hjs : j < ops.size
      · by_cases hjt : j < t
        · exact hjt
        · exact absurd hj (getD_tf (h2 j (by omega) hjs))
      · have : listed.getD j false = false := by simp [show ¬ j < listed.size by omega]
        rw [this] at hj; cases hj
    cases fuel with
    | zero => simp at hf
    | succ f =>
      have hone : ∀ i ∈ Region.ready .any ops listed, i = t := fun i hi => by
        obtain ⟨g1, p, hp, g2⟩ := mem_ready.1 hi
        have hip := (Array.getElem?_eq_some_iff.1 hp).1
        by_cases hit : i < t
        · exact absurd (h1 i hit hip) (getD_tf g1)
        · by_cases e : i = t
          · exact e
          · have h3 := hT i (by omega) hip
            unfold relTail at h3
            rw [Bool.and_eq_true] at h3
            have h4 := (List.all_eq_true.1 h3.2) t (List.mem_range.2 (by omega))
            have h5 : listed.getD t false = true := reach_listed (L := fun j => listed.getD j false = true) (fun j hj k hk => by
              have hjt := hL j hj
              have hj' : ops[j]? = some ops[j] := Array.getElem?_eq_getElem (by omega)
              rw [waitsOf_some hj'] at hk
              have := hwl j _ hj' k hk
              exact h1 k (by omega) (by omega)) ops.size i t (fun k hk => by
              rw [waitsOf_some hp] at hk
              obtain ⟨e, he, hb, rfl⟩ := of_waits hk
              exact g2 e he hb) h4
            exact absurd h5 (getD_tf (h2 t (Nat.le_refl _) hlt))
      refine ⟨fun hr => ?_, fun i hi => ?_⟩
      · have : t ∈ Region.ready .any ops listed := mem_ready.2 ⟨h2 t (Nat.le_refl _) hlt, o, ho, fun e he hb => by
          have := hwl t o ho e.on (mem_waits he hb)
          exact h1 _ this (by omega)⟩
        rw [hr] at this; cases this
      · have e := hone i hi
        subst e
        have hstep : wpOpIn F n P ops Q i (wpListIn F n P ops Q rest) a w := by unfold wpOpIn; simp only [ho]; exact h
        refine wpOpIn_mono (fun a' w' h' => tail_anyI hT hH rest (i + 1) f _ a' w' ?_ (by omega) (by simpa using hsz) (fun j hj hjs => ?_) (fun j hj hjs => ?_) (by simp at hf; omega) h') hstep
        · have : ops.toList.drop (i + 1) = (ops.toList.drop i).drop 1 := by rw [List.drop_drop]
          rw [this, ← hl]; rfl
        · by_cases e : i = j
          · subst e; simp [show i < listed.size by omega]
          · rw [getD_set_ne false e]; exact h1 j (by omega) hjs
        · rw [getD_set_ne true (by omega)]; exact h2 j (by omega) hjs

theorem rel_anyI {m : Nat} (hnd : relDef ops = true) (hm : m ≤ ops.size) (hT : ∀ i, m ≤ i → i < ops.size → relTail ops i = true) (hR : ∀ i, i < m → relHead ops i = true) {Rs : List Rel} (hl : Rs.length = m) {a0 : Act}
    (hw : wpRelI F n P ops C St Q (ops.toList.drop m) (ops.toList.take m) Rs a0 []) : ∀ (fuel : Nat) (listed : Array Bool) (a : Act) (w : World) (vs : Nat → Value), listed.size = ops.size →
    ops.size ≤ (List.range ops.size).countP (fun j => listed.getD j false) + fuel → (∀ j, m ≤ j → j < ops.size → listed.getD j true = false) → (∀ j, listed.getD j false = true → ∀ k ∈ waitsOf ops j, listed.getD k false = true) → C w →
    (∀ j R, listed.getD j false = true → Rs[j]? = some R → R (vs j) w) → a = fillL (ops.toList.take m) (fun j => listed.getD j false) vs a0 → wpAnyIn F n P .any ops Q fuel listed a w := by
  have htl : (ops.toList.take m).length = m := by simp; omega
  have hH : ∀ i o, i < m → ops[i]? = some o → ∀ j ∈ waitsFor o, j < i := fun i o hi ho => (relHead_spec ho (hR i hi)).2.2.1
  have htk : ∀ i o, i < m → ops[i]? = some o → (ops.toList.take m)[i]? = some o := fun i o hi ho => by
    rw [List.getElem?_take]; simp [hi, ho]
  have hkt : ∀ (i : Nat) (o : Oper), (ops.toList.take m)[i]? = some o → ops[i]? = some o := fun i o h => by
    rw [List.getElem?_take] at h
    split at h
    · simpa using h
    · cases h
  intro fuel
  induction fuel with
  | zero =>
    intro listed a w vs hsz hcnt htail hcl hC hf ha
    have h1 := List.countP_le_length (p := fun j => listed.getD j false) (l := List.range ops.size)
    rw [List.length_range] at h1
    have hall := List.countP_eq_length.1 (show (List.range ops.size).countP (fun j => listed.getD j false) = (List.range ops.size).length by rw [List.length_range]; omega)
    have hmn : m = ops.size := by
      by_cases e : m = ops.size
      · exact e
      · have h2 := hall m (List.mem_range.2 (by omega))
        exact absurd h2 (getD_tf (htail m (Nat.le_refl _) (by omega)))
    refine tail_anyI hT hH _ m 0 listed a w rfl (Nat.le_refl _) hsz (fun j hj hjs => hall j (List.mem_range.2 hjs)) htail (by simp; omega) ?_
    have h3 := wpRelI_end _ Rs a0 [] (by rw [htl, hl]) hw vs w hC (fun j e he => by
      simp only [List.nil_append] at he
      obtain ⟨h4, R, h5, rfl⟩ := envL_get _ _ _ _ _ he
      rw [htl] at h4
      exact hf j R (hall j (List.mem_range.2 (by omega))) h5)
    rw [actsL_fill, htl] at h3
    rw [ha, fillL_congr _ _ (fun j => decide (j < m)) _ _ (fun j hj => by
      rw [htl] at hj
      rw [hall j (List.mem_range.2 (by omega))]; simp [hj])]
    exact h3
  | succ fuel ih =>
    intro listed a w vs hsz hcnt htail hcl hC hf ha
    by_cases hall : ∀ j, j < m → listed.getD j false = true
    · have hc1 : (List.range ops.size).countP (fun j => listed.getD j false) ≤ m := by
        refine Nat.le_trans (List.countP_mono_left fun j hj hjl => ?_) (countP_lt m ops.size).1
        simp only [decide_eq_true_eq]
        by_cases e : j < m
        · exact e
        · exact absurd hjl (getD_tf (htail j (by omega) (List.mem_range.1 hj)))
      refine tail_anyI hT hH _ m _ listed a w rfl (Nat.le_refl _) hsz (fun j hj hjs => hall j hj) htail (by simp; omega) ?_
      have h3 := wpRelI_end _ Rs a0 [] (by rw [htl, hl]) hw vs w hC (fun j e he => by
        simp only [List.nil_append] at he
        obtain ⟨h4, R, h5, rfl⟩ := envL_get _ _ _ _ _ he
        rw [htl] at h4
        exact hf j R (hall j h4) h5)
      rw [actsL_fill, htl] at h3
      rw [ha, fillL_congr _ _ (fun j => decide (j < m)) _ _ (fun j hj => by
        rw [htl] at hj
        rw [hall j hj]; simp [hj])]
      exact h3
    · refine ⟨fun hr => ?_, fun i hi => ?_⟩
      · refine absurd (fun j => ?_) hall
        induction j using Nat.strongRecOn with
        | ind j ihj =>
          intro hj
          refine Classical.byContradiction fun hn => ?_
          have hjo : ops[j]? = some ops[j] := Array.getElem?_eq_getElem (by omega)
          have : j ∈ Region.ready .any ops listed := mem_ready.2 ⟨getD_ff (by omega) hn, _, hjo, fun e he hb => by
            have h1 := hH j _ hj hjo e.on (mem_waits he hb)
            exact ihj _ h1 (by omega)⟩
          rw [hr] at this; cases this
      · obtain ⟨g1, o, ho, g2⟩ := mem_ready.1 hi
        have hin := (Array.getElem?_eq_some_iff.1 ho).1
        have hwl : ∀ k ∈ waitsFor o, listed.getD k false = true := fun k hk => by
          obtain ⟨e, he, hb, rfl⟩ := of_waits hk
          exact g2 e he hb
        by_cases him : i < m
        · obtain ⟨hg, hns, hwi, hds⟩ := relHead_spec ho (hR i him)
          have hRi : Rs[i]? = some (Rs[i]'(by omega)) := List.getElem?_eq_getElem (by omega)
          obtain ⟨R, hRe⟩ : ∃ R, Rs[i]'(by omega) = R := ⟨_, rfl⟩
          rw [hRe] at hRi
          obtain ⟨_, hob⟩ := wpRelI_at _ Rs a0 [] (by rw [htl, hl]) hw vs i o R (htk i o him ho) hRi
          have h1 := hob w hC (fun j hj e he => by
            simp only [List.nil_append] at he
            obtain ⟨_, R', h5, rfl⟩ := envL_get _ _ _ _ _ he
            exact hf j R' (hwl j (by simpa using hj)) h5)
          have hxe : ∀ x ∈ o.op.operands, a.eval x = (actsL (ops.toList.take m) vs i a0).eval x := fun x hx => by
            rw [ha, actsL_fill]
            refine fillL_eval x _ _ _ _ _ _ rfl rfl fun j p d hp hd hxd => ?_
            have hw' := (hds j p d (hkt _ _ hp) hd).2 (by
              subst hxd
              exact List.mem_append_left _ (List.mem_filterMap.2 ⟨.tmp d, by simpa using hx, rfl⟩))
            rw [hwl j hw']; simp [hwi j hw']
          have hev : execOp a.eval o = execOp (actsL (ops.toList.take m) vs i a0).eval o := execOp_congr o (noSel_ne hns) hxe
          have hsz2 : a.tmps.size = (actsL (ops.toList.take m) vs i a0).tmps.size := by rw [ha, actsL_fill, fillL_size, fillL_size]
          have h2 : o.wpIn F n P a w (fun a' w' => ∃ v, a' = a.put o.dst v ∧ (C w' ∧ St w w' ∧ R v w')) Q := oper_otherI (relDef_at hnd ho) (about_congr o w hxe) hev hsz2 h1
          unfold wpOpIn
          simp only [ho]
          rw [if_pos (by simp [Region.wanted, hg])]
          refine Oper.wpIn_mono (fun a' w' h' => ?_) h2
          obtain ⟨v, rfl, hC', hSt, hRv⟩ := h'
          refine ih _ _ w' (fun t => if t = i then v else vs t) (by simpa using hsz) ?_ (fun j hj hjs => ?_) (fun j hj k hk => ?_) hC' (fun j R' hj hRj => ?_) ?_
          · have := countP_upd (p := fun j => listed.getD j false) (q := fun j => (listed.setIfInBounds i true).getD j false) (i := i) (by
                have := getD_tf g1; simpa using this) (by simp [show i < listed.size by omega]) (fun j hj => getD_set_ne false (Ne.symm hj)) (List.range ops.size) List.nodup_range (List.mem_range.2 hin)
            omega
          · rw [getD_set_ne true (by omega)]; exact htail j hj hjs
          · refine getD_set_true ?_
            by_cases e : i = j
            · subst e; rw [waitsOf_some ho] at hk; exact hwl k hk
            · rw [getD_set_ne false e] at hj; exact hcl j hj k hk
          · by_cases e : j = i
            · subst e
              rw [hRi] at hRj
              cases hRj
              simpa using hRv
            · rw [getD_set_ne false (Ne.symm e)] at hj
              simp only [e, if_false]
              have hjm : j < m := by
                by_cases h : j < m
                · exact h
                · have : Rs[j]? = none := List.getElem?_eq_none (by omega)
                  rw [this] at hRj; cases hRj
              have hjo : ops[j]? = some ops[j] := Array.getElem?_eq_getElem (by omega)
              obtain ⟨hst, _⟩ := wpRelI_at _ Rs a0 [] (by rw [htl, hl]) hw vs j _ R' (htk j _ hjm hjo) hRj
              exact hst _ _ _ hC hSt (hf j R' hj hRj)
          · rw [ha]
            refine (fillL_set _ (fun j => listed.getD j false) _ vs a0 i o v (htk i o him ho) (by have := getD_tf g1; simpa using this) (by simp [show i < listed.size by omega]) (fun j hj => getD_set_ne false (Ne.symm hj)) (fun j p t hp hj ht => ?_)).symm
            exact (hds j p t (hkt _ _ hp) ht).1 (Ne.symm hj)
        · refine absurd (fun j hj => ?_) hall
          have h3 := hT i (by omega) hin
          unfold relTail at h3
          rw [Bool.and_eq_true] at h3
          exact reach_listed (L := fun j => listed.getD j false = true) hcl ops.size i j (fun k hk => by rw [waitsOf_some ho] at hk; exact hwl k hk) ((List.all_eq_true.1 h3.2) j (List.mem_range.2 (by omega)))

/-- **One walk, whatever the order.** -/
theorem wpIn_region_rel (m : Nat) (Rs : List Rel) {id : Nat} {a : Act} {w : World} (hm : P.follows .mixedOrders = true) (hB : relOK ops m = true) (hnd : relDef ops = true) (hl : Rs.length = m) (hC : C w.drew)
    (h : wpRelI F n P ops C St Q (ops.toList.drop m) (ops.toList.take m) Rs a []) : (Code.region id ops true).wpIn F n P Q a w := by
  unfold relOK at hB
  rw [Bool.and_eq_true] at hB
  have hm1 : m ≤ ops.size := by simpa using hB.1
  have hall := List.all_eq_true.1 hB.2
  refine wpIn_region_any hm (rel_anyI (C := C) (St := St) hnd hm1 (fun i h1 h2 => ?_) (fun i hi => ?_) hl h ops.size _ a _ (fun _ => undef) (by simp) (by omega) (fun j hj hjs => by simp [hjs]) (fun j hj => ?_) hC (fun j R hj => ?_) ?_)
  · have := hall i (List.mem_range.2 h2)
    rwa [if_neg (by omega)] at this
  · have := hall i (List.mem_range.2 (by omega))
    rwa [if_pos hi] at this
  · by_cases hjs : j < ops.size
    · simp [hjs] at hj
    · simp [hjs] at hj
  · by_cases hjs : j < ops.size
    · simp [hjs] at hj
    · simp [hjs] at hj
  · rw [fillL_congr _ _ (fun _ => false) _ _ (fun j hj => by
      by_cases hjs : j < ops.size
      · simp [hjs]
      · simp [hjs]), fillL_none]
theorem wpRelI_cons {tail : List Oper} {o : Oper} {os : List Oper} {R : Rel} {Rs : List Rel} {a : Act} {E : List (World → Prop)} (h1 : ∀ v w w', C w → St w w' → R v w → R v w') (h2 : ∀ w, C w → (∀ j, (waitsFor o).contains j = true → ∀ e, E[j]? = some e → e w) → relOblI F n P C St R o a w)
    (h3 : ∀ v, wpRelI F n P ops C St Q tail os Rs (a.put o.dst v) (E ++ [R v])) : wpRelI F n P ops C St Q tail (o :: os) (R :: Rs) a E := ⟨h1, h2, h3⟩
theorem wpRelI_nil {tail : List Oper} {a : Act} {E : List (World → Prop)} (h : ∀ w, C w → (∀ (j : Nat) (e : World → Prop), E[j]? = some e → e w) → wpListIn F n P ops Q tail a w) : wpRelI F n P ops C St Q tail [] [] a E := by
  unfold wpRelI; exact h
theorem wpIn_region_relL (C : World → Prop) (St : World → World → Prop) (m : Nat) (Rs : List Rel) {l : List Oper} {id : Nat} {a : Act} {w : World} (hm : P.follows .mixedOrders = true) (hB : relOK l.toArray m = true) (hnd : relDef l.toArray = true) (hl : Rs.length = m) (hC : C w.drew)
    (h : wpRelI F n P l.toArray C St Q (l.drop m) (l.take m) Rs a []) : (Code.region id l.toArray true).wpIn F n P Q a w := wpIn_region_rel m Rs hm hB hnd hl hC h
end
end Go.Proofs.YtbclmafplaipaaaDoor
