/-
  Arrivals lane by lane: what comes up round by round, when it ends, what it is then (plain); whether times are equal.
-/
import Derived.Test.YtlempmahkeilpaaArQ
import Derived.Test.YtlempmahkeilpaaArC
namespace Go.Proofs.Ytlempmahkeilpaa
open Go Go.RowKit
set_option linter.unusedVariables false

theorem times_ext {T U : List Nat} (hT : TOk T) (hU : TOk U) (h : ∀ s, s < 8 → T.getD s 0 = U.getD s 0) : T = U := by
  refine List.ext_getElem (by rw [hT.len, hU.len]) fun i h1 h2 => ?_
  have := h i (by rw [← hT.len]; exact h1)
  simpa [List.getD, h1, h2] using this
theorem orT_comm {T U : List Nat} (hT : TOk T) (hU : TOk U) : orT T U = orT U T := times_ext (orT_ok hT hU) (orT_ok hU hT) fun s hs => by
  rw [orT_get hT s hs, orT_get hU s hs, Nat.or_comm]
/-- The arrivals by k + 1 lanes, and those that have been seen before. -/
def atK (st : List Nat → List Nat) (A : List Nat) : Nat → List Nat
  | 0 => A
  | k + 1 => st (atK st A k)
def seenK (st : List Nat → List Nat) (A : List Nat) : Nat → List Nat
  | 0 => t0
  | k + 1 => orT (seenK st A k) (atK st A k)
theorem atK_ok {st : List Nat → List Nat} {A : List Nat} (hs : ∀ T, TOk T → TOk (st T)) (hA : TOk A) (k : Nat) : TOk (atK st A k) := by
  induction k with
  | zero => exact hA
  | succ k ih => exact hs _ ih
theorem seenK_ok {st : List Nat → List Nat} {A : List Nat} (hs : ∀ T, TOk T → TOk (st T)) (hA : TOk A) (k : Nat) : TOk (seenK st A k) := by
  induction k with
  | zero => exact t0_ok
  | succ k ih => exact orT_ok ih (atK_ok hs hA k)
def sumT (T : List Nat) : Nat := T.getD 0 0 + T.getD 1 0 + T.getD 2 0 + T.getD 3 0 + T.getD 4 0 + T.getD 5 0 + T.getD 6 0 + T.getD 7 0
theorem sumT_lt {T : List Nat} (h : TOk T) : sumT T < 8 * 2 ^ room := by
  have h0 := h.lt 0; have h1 := h.lt 1; have h2 := h.lt 2; have h3 := h.lt 3; have h4 := h.lt 4; have h5 := h.lt 5; have h6 := h.lt 6; have h7 := h.lt 7
  unfold sumT
  omega
theorem sumT_grows {T U : List Nat} (hT : TOk T) (hU : TOk U) (hne : orT T U ≠ T) : sumT T < sumT (orT T U) := by
  have g : ∀ s, s < 8 → T.getD s 0 ≤ (orT T U).getD s 0 := fun s hs => by rw [orT_get hT s hs]; exact Nat.left_le_or
  refine Classical.byContradiction fun h => hne (times_ext (orT_ok hT hU) hT fun s hs => ?_)
  have h0 := g 0 (by omega); have h1 := g 1 (by omega); have h2 := g 2 (by omega); have h3 := g 3 (by omega); have h4 := g 4 (by omega); have h5 := g 5 (by omega); have h6 := g 6 (by omega); have h7 := g 7 (by omega)
  unfold sumT at h
  rcases s with _ | _ | _ | _ | _ | _ | _ | _ | s <;> (try simp only [Nat.zero_add, Nat.reduceAdd]) <;> omega
theorem seenK_grows {st : List Nat → List Nat} {A : List Nat} (hs : ∀ T, TOk T → TOk (st T)) (hA : TOk A) {k : Nat} (hne : orT (atK st A k) (seenK st A k) ≠ seenK st A k) : sumT (seenK st A k) < sumT (seenK st A (k + 1)) := by
  rw [orT_comm (atK_ok hs hA k) (seenK_ok hs hA k)] at hne
  exact sumT_grows (seenK_ok hs hA k) (atK_ok hs hA k) hne
theorem tw_inj {T U : List Nat} (hT : TOk T) (hU : TOk U) (h : tw T = tw U) : T = U := times_ext hT hU fun s hs => by
  refine wd_ext (hT.lt s) (hU.lt s) fun i hi => ?_
  have e1 := flatH_get T s i (by rw [hT.len]; exact hs) hi
  have e2 := flatH_get U s i (by rw [hU.len]; exact hs) hi
  have h' : flatH T = flatH U := by unfold tw at h; simpa using h
  rw [h', e2] at e1
  simp only [Option.some.injEq, Value.int.injEq, true_and] at e1
  omega
open Classical in
/-- How much times in a block come to. -/
noncomputable def rankT' (w : World) (B : Nat) : Nat := if h : ∃ T, TOk T ∧ BlkT w B T then sumT (Classical.choose h) else 0
theorem rankT'_of {w : World} {B : Nat} {T : List Nat} (hT : TOk T) (hb : BlkT w B T) : rankT' w B = sumT T := by
  unfold rankT'
  have h : ∃ T, TOk T ∧ BlkT w B T := ⟨T, hT, hb⟩
  rw [dif_pos h]
  have hc := Classical.choose_spec h
  have e : tw (Classical.choose h) = tw T := by
    have h1 : w.heap[B]? = some (.cells (tw (Classical.choose h)) 76 (0, 0)) := hc.2
    have h2 : w.heap[B]? = some (.cells (tw T) 76 (0, 0)) := hb
    rw [h1] at h2
    simpa using h2
  rw [tw_inj hc.1 hT e]

/-- Which arrivals there are. -/
def bitT (T : List Nat) (s h : Nat) : Bool := (T.getD s 0).testBit h
theorem bitT_or {T U : List Nat} (hT : TOk T) (s h : Nat) (hs : s < 8) : bitT (orT T U) s h = (bitT T s h || bitT U s h) := by
  unfold bitT; rw [orT_get hT s hs, Nat.testBit_or]
theorem bitT_t0 (s h : Nat) : bitT t0 s h = false := by unfold bitT; rw [t0_get]; exact Nat.zero_testBit h
theorem bitT_tOf {s0 h0 : Nat} (hs0 : s0 < 8) (s h : Nat) : bitT (tOf s0 h0) s h = true ↔ s = s0 ∧ h = h0 := by
  unfold bitT tOf
  by_cases e : s = s0
  · subst e
    have : (t0.set s (2 ^ h0)).getD s 0 = 2 ^ h0 := by simp [List.getD, t0, hs0]
    rw [this, Nat.testBit_two_pow]
    simp [eq_comm]
  · have : (t0.set s0 (2 ^ h0)).getD s 0 = t0.getD s 0 := by simp [List.getD, Ne.symm e]
    rw [this, t0_get, Nat.zero_testBit]
    simp [e]
theorem onwK_bit {L : List Lan} {T : List Nat} (hT : TOk T) (hL : OkHops L) (k s h : Nat) (hk : k ≤ L.length) (hs : s < 8) : bitT (onwK L T k) s h = true ↔ ∃ i, i < k ∧ (L.getD i zl).2.1.toNat = s ∧ ∃ d, (L.getD i zl).2.2.1.toNat ≤ d ∧ d ≤ (L.getD i zl).2.2.2.toNat ∧ h < 320 ∧ d ≤ h ∧ bitT T (L.getD i zl).1.toNat (h - d) = true := by
  induction k with
  | zero =>
    rw [show onwK L T 0 = t0 from rfl, bitT_t0]
    constructor
    · intro h1; cases h1
    · rintro ⟨i, hi, _⟩; omega
  | succ k ih =>
    have ih := ih (by omega)
    obtain ⟨f, t, a, b, hq, hf, ht, ha, hb⟩ := hL.nats (k := k) (by omega)
    have hlen := (onwK_ok (L := L) hT k).len
    have hstep : bitT (onwK L T (k + 1)) s h = true ↔ bitT (onwK L T k) s h = true ∨ (s = t ∧ ∃ d, a ≤ d ∧ d ≤ b ∧ h < 320 ∧ d ≤ h ∧ bitT T f (h - d) = true) := by
      rw [onwK, hq]
      simp only [Int.toNat_natCast]
      unfold bitT
      by_cases e : s = t
      · subst e
        have : ((onwK L T k).set s ((onwK L T k).getD s 0 ||| mvK (T.getD f 0) a (b + 1))).getD s 0 = ((onwK L T k).getD s 0 ||| mvK (T.getD f 0) a (b + 1)) := by
          have : s < (onwK L T k).length := by rw [hlen]; exact hs
          simp [List.getD, this]
        rw [this, Nat.testBit_or, Bool.or_eq_true, mvK_bit (hT.lt f)]
        constructor
        · rintro (h1 | ⟨d, h1, h2, h3, h4, h5⟩)
          · exact .inl h1
          · exact .inr ⟨rfl, d, h1, by omega, h3, h4, h5⟩
        · rintro (h1 | ⟨_, d, h1, h2, h3, h4, h5⟩)
          · exact .inl h1
          · exact .inr ⟨d, h1, by omega, h3, h4, h5⟩
      · have : ((onwK L T k).set t ((onwK L T k).getD t 0 ||| mvK (T.getD f 0) a (b + 1))).getD s 0 = (onwK L T k).getD s 0 := by simp [List.getD, Ne.symm e]
        rw [this]
        simp [e]
    rw [hstep, ih]
    constructor
    · rintro (⟨i, hi, h1⟩ | ⟨rfl, h1⟩)
      · exact ⟨i, by omega, h1⟩
      · refine ⟨k, by omega, ?_, ?_⟩
        · rw [show L.getD k zl = _ from hq]; simp
        · rw [show L.getD k zl = _ from hq]; simpa using h1
    · rintro ⟨i, hi, h1, h2⟩
      by_cases e : i = k
      · subst e
        rw [show L.getD i zl = _ from hq] at h1 h2
        simp only [Int.toNat_natCast] at h1 h2
        exact .inr ⟨h1.symm, h2⟩
      · exact .inl ⟨i, by omega, h1, h2⟩
theorem onw_bit {L : List Lan} {T : List Nat} (hT : TOk T) (hL : OkHops L) (s h : Nat) (hs : s < 8) : bitT (onw L T) s h = true ↔ ∃ i, i < L.length ∧ (L.getD i zl).2.1.toNat = s ∧ ∃ d, (L.getD i zl).2.2.1.toNat ≤ d ∧ d ≤ (L.getD i zl).2.2.2.toNat ∧ h < 320 ∧ d ≤ h ∧ bitT T (L.getD i zl).1.toNat (h - d) = true :=
  onwK_bit hT hL _ s h (Nat.le_refl _) hs
theorem seenK_bit {st : List Nat → List Nat} {A : List Nat} (hs : ∀ T, TOk T → TOk (st T)) (hA : TOk A) (k s h : Nat) (h8 : s < 8) : bitT (seenK st A k) s h = true ↔ ∃ j, j < k ∧ bitT (atK st A j) s h = true := by
  induction k with
  | zero =>
    rw [show seenK st A 0 = t0 from rfl, bitT_t0]
    constructor
    · intro h1; cases h1
    · rintro ⟨j, hj, _⟩; omega
  | succ k ih =>
    rw [show seenK st A (k + 1) = orT (seenK st A k) (atK st A k) from rfl, bitT_or (seenK_ok hs hA k) s h h8, Bool.or_eq_true, ih]
    constructor
    · rintro (⟨j, hj, h1⟩ | h1)
      · exact ⟨j, by omega, h1⟩
      · exact ⟨k, by omega, h1⟩
    · rintro ⟨j, hj, h1⟩
      by_cases e : j = k
      · subst e; exact .inr h1
      · exact .inl ⟨j, by omega, h1⟩
/-- Where nothing new comes up, nothing new comes up behind it. -/
theorem closed_bit {L : List Lan} {A : List Nat} (hL : OkHops L) (hA : TOk A) {k : Nat} (hend : orT (atK (onw L) A k) (seenK (onw L) A k) = seenK (onw L) A k) (j s h : Nat) (h8 : s < 8) (hj : bitT (atK (onw L) A j) s h = true) : bitT (seenK (onw L) A k) s h = true := by
  have hs : ∀ T, TOk T → TOk (onw L T) := fun T h => onw_ok h
  have hin : ∀ s h, s < 8 → bitT (atK (onw L) A k) s h = true → bitT (seenK (onw L) A k) s h = true := fun s h h8 hb => by
    rw [← hend, bitT_or (atK_ok hs hA k) s h h8, hb]; rfl
  induction j generalizing s h with
  | zero =>
    by_cases e : 0 < k
    · exact (seenK_bit hs hA k s h h8).2 ⟨0, e, hj⟩
    · have : k = 0 := by omega
      subst this
      exact hin s h h8 hj
  | succ j ih =>
    obtain ⟨i, hi, ht, d, h1, h2, h3, h4, h5⟩ := (onw_bit (atK_ok hs hA j) hL s h h8).1 hj
    obtain ⟨f, t, a, b, hq, hf, _⟩ := hL.nats hi
    have hf8 : (L.getD i zl).1.toNat < 8 := by rw [show L.getD i zl = _ from hq]; simpa using hf
    obtain ⟨j', hj', h6⟩ := (seenK_bit hs hA k _ _ hf8).1 (ih _ _ hf8 h5)
    have h7 : bitT (atK (onw L) A (j' + 1)) s h = true := (onw_bit (atK_ok hs hA j') hL s h h8).2 ⟨i, hi, ht, d, h1, h2, h3, h4, h6⟩
    by_cases e : j' + 1 < k
    · exact (seenK_bit hs hA k s h h8).2 ⟨j' + 1, e, h7⟩
    · have : j' + 1 = k := by omega
      rw [this] at h7
      exact hin s h h8 h7
theorem atK_src {st sy : Nat} {ps : List Lan} (hok : okNet (st : Int) (sy : Int) ps) {s0 h0 : Nat} (hs0 : s0 < 8) (hh0 : h0 ≤ 300) (k s h : Nat) (h8 : s < 8) (hh : h < 320) : bitT (atK (onw (hopsL (sy : Int) ps)) (onw (hopsL (sy : Int) ps) (tOf s0 h0)) k) s h = true ↔ srcK ps (-1) sy s0 h0 (k + 1) s h := by
  have hL := hops_ok hok
  have hs : ∀ T, TOk T → TOk (onw (hopsL (sy : Int) ps) T) := fun T h => onw_ok h
  have hA : TOk (onw (hopsL (sy : Int) ps) (tOf s0 h0)) := onw_ok (tOf_ok s0 h0 hh0)
  have key : ∀ (T : List Nat) (Pr : Nat → Nat → Prop), TOk T → (∀ s h, s < 8 → h < 320 → (bitT T s h = true ↔ Pr s h)) → ∀ s h, s < 8 → h < 320 → (bitT (onw (hopsL (sy : Int) ps) T) s h = true ↔ ∃ i, i < ps.length ∧ pas (-1) (ps.getD i zl) ∧ (ps.getD i zl).2.1.toNat = s ∧ ∃ d, (ps.getD i zl).2.2.1.toNat ≤ d ∧ d ≤ (ps.getD i zl).2.2.2.toNat + sy ∧ d ≤ h ∧ Pr (ps.getD i zl).1.toNat (h - d)) := fun T Pr hT hP s h h8 hh => by
    rw [onw_bit hT hL s h h8, hopsL_len]
    have hlane : ∀ i, i < ps.length → (hopsL (sy : Int) ps).getD i zl = ((ps.getD i zl).1, (ps.getD i zl).2.1, (ps.getD i zl).2.2.1, (ps.getD i zl).2.2.2 + (sy : Int)) := fun i hi => hopsL_get _ _ _ hi
    have hla : ∀ i, i < ps.length → pas (-1) (ps.getD i zl) ∧ (ps.getD i zl).1.toNat < 8 ∧ ((ps.getD i zl).2.2.2 + (sy : Int)).toNat = (ps.getD i zl).2.2.2.toNat + sy := fun i hi => by
      have h2 := hok.2.2.2 i hi
      have h3 := hok.1
      have h1 : okLa _ (ps.getD i zl) := h2
      unfold okLa at h1
      unfold pas
      omega
    constructor
    · rintro ⟨i, hi, ht, d, h1, h2, _, h4, h5⟩
      rw [hlane i hi] at ht h1 h2 h5
      obtain ⟨hp, hf, hm⟩ := hla i hi
      simp only at ht h1 h2 h5
      rw [hm] at h2
      exact ⟨i, hi, hp, ht, d, h1, h2, h4, (hP _ _ hf (by omega)).1 h5⟩
    · rintro ⟨i, hi, hp, ht, d, h1, h2, h4, h5⟩
      obtain ⟨_, hf, hm⟩ := hla i hi
      refine ⟨i, hi, ?_⟩
      rw [hlane i hi]
      simp only
      rw [hm]
      exact ⟨ht, d, h1, h2, hh, h4, (hP _ _ hf (by omega)).2 h5⟩
  induction k generalizing s h with
  | zero => exact key (tOf s0 h0) (srcK ps (-1) sy s0 h0 0) (tOf_ok s0 h0 hh0) (fun s h _ _ => bitT_tOf hs0 s h) s h h8 hh
  | succ k ih => exact key _ (srcK ps (-1) sy s0 h0 (k + 1)) (atK_ok hs hA k) (fun s h h8 hh => ih s h h8 hh) s h h8 hh
/-- What has been seen at the end are the arrivals. -/
theorem seen_arr {st sy : Nat} {ps : List Lan} (hok : okNet (st : Int) (sy : Int) ps) {s0 h0 : Nat} (hs0 : s0 < 8) (hh0 : h0 ≤ 300) {k : Nat}
    (hend : orT (atK (onw (hopsL (sy : Int) ps)) (onw (hopsL (sy : Int) ps) (tOf s0 h0)) k) (seenK (onw (hopsL (sy : Int) ps)) (onw (hopsL (sy : Int) ps) (tOf s0 h0)) k) = seenK (onw (hopsL (sy : Int) ps)) (onw (hopsL (sy : Int) ps) (tOf s0 h0)) k) (s h : Nat) (h8 : s < 8) (hh : h < 320) :
    bitT (seenK (onw (hopsL (sy : Int) ps)) (onw (hopsL (sy : Int) ps) (tOf s0 h0)) k) s h = true ↔ Arr ps (-1) sy s0 h0 s h := by
  have hs : ∀ T, TOk T → TOk (onw (hopsL (sy : Int) ps) T) := fun T h => onw_ok h
  have hA : TOk (onw (hopsL (sy : Int) ps) (tOf s0 h0)) := onw_ok (tOf_ok s0 h0 hh0)
  constructor
  · intro hb
    obtain ⟨j, _, hj⟩ := (seenK_bit hs hA k s h h8).1 hb
    exact ⟨j, (atK_src hok hs0 hh0 j s h h8 hh).1 hj⟩
  · rintro ⟨j, hj⟩
    exact closed_bit (hops_ok hok) hA hend j s h h8 ((atK_src hok hs0 hh0 j s h h8 hh).2 hj)

theorem run_part_tw (T : List Nat) (s : Nat) (hs : s < 8) (h8 : T.length = 8) (w : World) : (part 74 (tw T) (s * 5)).run Try.prog w = .ok (hv (T.getD s 0)) w := by
  have hp := tw_part T s (by omega)
  simp only [part, Try.isAgg74, Try.sizeOf74, if_true, hp, Sem.run_bind, Sem.run_pure, Result.andThen_ok]
  rfl
/-- Whether times are equal. -/
theorem times_eq (T U : List Nat) (hT : TOk T) (hU : TOk U) (w : World) : (Op.equalIn 10000 76 (tv T) (tv U)).run Try.prog w = .ok (decide (T = U)) w := by
  have hu : Try.prog.underlying 76 = some (.array 8 74) := by kernel_rfl
  have hi : (Try.prog.info? 74).isSome = true := by kernel_rfl
  obtain ⟨i, hi⟩ := Option.isSome_iff_exists.1 hi
  have hc : Try.prog.cellsOf 74 = 5 := by kernel_rfl
  show (Op.equalIn (9999 + 1) 76 (.agg (tw T)) (.agg (tw U))).run Try.prog w = _
  have hall : (List.range 8).all (fun s => decide (T.getD s 0 = U.getD s 0)) = decide (T = U) := by
    rw [Bool.eq_iff_iff]
    simp only [List.all_eq_true, List.mem_range, decide_eq_true_eq]
    constructor
    · intro h; exact times_ext hT hU h
    · rintro rfl i hi; rfl
  rw [run_equalIn_array w 9999 _ _ hu hi, hc, eqItems_all 9999 74 5 (tw T) (tw U) w (fun s => decide (T.getD s 0 = U.getD s 0)) (List.range 8) (fun s hs => ⟨hv (T.getD s 0), hv (U.getD s 0), run_part_tw T s (List.mem_range.1 hs) hT.len w, run_part_tw U s (List.mem_range.1 hs) hU.len w, hours_eq 9997 _ _ (hT.lt s) (hU.lt s) w⟩), hall]
theorem guard_times : Try.prog.eqGuardType Try.prog.depth 76 = false := by kernel_rfl
end Go.Proofs.Ytlempmahkeilpaa
