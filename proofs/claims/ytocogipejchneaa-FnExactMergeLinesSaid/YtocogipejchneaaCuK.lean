/-
  The program's sums by kind: what the map holds: plain.
-/
import Derived.Test.YtocogipejchneaaCuC
import Derived.Maps.RangeWalk
import Derived.Maps.OwnSet
import Derived.Maps.Views
import Derived.DeepKeys4
namespace Go.Proofs.Ytocogipejchneaa
open Go Go.RowKit
set_option linter.unusedVariables false

theorem laidOutK : laidOutB Try.prog = true := by kernel_rfl
theorem wideK : (match Try.prog.underlying 54 with | some (.array _ _) | some (.struct _) => true | _ => false) = true := by kernel_rfl
set_option maxRecDepth 100000 in
theorem keyedK : Maps.Keyed Try.prog 54 := Maps.Keyed.of_law (deep_law_laid laidOutK (m := 3) (by omega) (of_decide_eq_true (by kernel_rfl)) (by kernel_rfl) wideK)
/-- A key: a class and its index. -/
def keyV (c : Quad) (j : Nat) : Value := .agg #[.int .i16 c.1, .int .i16 c.2.1, .int .i16 c.2.2.1, .int .i32 c.2.2.2, .int .i8 (j : Int)]
theorem typesK : Try.prog.types.size = 121 := by kernel_rfl
theorem ktK : Try.prog.keyType 54 = true := by kernel_rfl
theorem coK : Try.prog.cellsOf 54 = 5 := by kernel_rfl
theorem coC : Try.prog.cellsOf 46 = 4 := by kernel_rfl
theorem coi8 : Try.prog.cellsOf 41 = 1 := by kernel_rfl
theorem coi16 : Try.prog.cellsOf 42 = 1 := by kernel_rfl
theorem coi32 : Try.prog.cellsOf 21 = 1 := by kernel_rfl
theorem sizeK : ∃ m, Try.prog.types.size = m + 3 := ⟨121 - 3, by rw [typesK]⟩
theorem lit_i16 (d : Nat) {n : Int} (h : (Lit.int .i16 n).wf = true) : Try.prog.keyLits (d + 1) 42 [.int .i16 n] = some [.int .i16 n] := by
  unfold Program.keyLits; simp only [Try.underlying42]; rw [if_pos ⟨trivial, h⟩]
theorem lit_i32 (d : Nat) {n : Int} (h : (Lit.int .i32 n).wf = true) : Try.prog.keyLits (d + 1) 21 [.int .i32 n] = some [.int .i32 n] := by
  unfold Program.keyLits; simp only [Try.underlying21]; rw [if_pos ⟨trivial, h⟩]
theorem lit_i8 (d : Nat) {n : Int} (h : (Lit.int .i8 n).wf = true) : Try.prog.keyLits (d + 1) 41 [.int .i8 n] = some [.int .i8 n] := by
  unfold Program.keyLits; simp only [Try.underlying41]; rw [if_pos ⟨trivial, h⟩]
set_option maxRecDepth 100000 in
theorem lits_class (d : Nat) {a b c e : Int} (h0 : (Lit.int .i16 a).wf = true) (h1 : (Lit.int .i16 b).wf = true) (h2 : (Lit.int .i16 c).wf = true) (h3 : (Lit.int .i32 e).wf = true) :
    Try.prog.keyLits (d + 1 + 1) 46 [.int .i16 a, .int .i16 b, .int .i16 c, .int .i32 e] = some [.int .i16 a, .int .i16 b, .int .i16 c, .int .i32 e] := by
  unfold Program.keyLits
  simp only [Try.underlying46]
  rw [if_pos ⟨by rw [coC]; rfl, by kernel_rfl⟩]
  simp only [List.mapM_cons, List.mapM_nil, coi16, coi32, List.drop_succ_cons, List.drop_zero, List.take_succ_cons, List.take_zero, lit_i16 d h0, lit_i16 d h1, lit_i16 d h2, lit_i32 d h3]
  rfl
set_option maxRecDepth 100000 in
theorem lits_kind (d : Nat) {a b c e f : Int} (h0 : (Lit.int .i16 a).wf = true) (h1 : (Lit.int .i16 b).wf = true) (h2 : (Lit.int .i16 c).wf = true) (h3 : (Lit.int .i32 e).wf = true) (h4 : (Lit.int .i8 f).wf = true) :
    Try.prog.keyLits (d + 1 + 1 + 1) 54 [.int .i16 a, .int .i16 b, .int .i16 c, .int .i32 e, .int .i8 f] = some [.int .i16 a, .int .i16 b, .int .i16 c, .int .i32 e, .int .i8 f] := by
  unfold Program.keyLits
  simp only [Try.underlying54]
  rw [if_pos ⟨by rw [coK]; rfl, by kernel_rfl⟩]
  simp only [List.mapM_cons, List.mapM_nil, coC, coi8, List.drop_succ_cons, List.drop_zero, List.take_succ_cons, List.take_zero, lits_class d h0 h1 h2 h3, lit_i8 (d + 1) h4]
  rfl
set_option maxRecDepth 100000 in
theorem key_some (c : Quad) (j : Nat) (hc : okC c) (hj : j < 8) : ∃ kl, keyOf Try.prog 54 (keyV c j) = some kl := by
  obtain ⟨c0, c1, c2, c3⟩ := c
  unfold okC at hc
  simp only at hc
  have w0 : (Lit.int .i16 c0).wf = true := by simp [Lit.wf, IntKind.min, IntKind.max, IntKind.signed, IntKind.bits]; omega
  have w1 : (Lit.int .i16 c1).wf = true := by simp [Lit.wf, IntKind.min, IntKind.max, IntKind.signed, IntKind.bits]; omega
  have w2 : (Lit.int .i16 c2).wf = true := by simp [Lit.wf, IntKind.min, IntKind.max, IntKind.signed, IntKind.bits]; omega
  have w3 : (Lit.int .i32 c3).wf = true := by simp [Lit.wf, IntKind.min, IntKind.max, IntKind.signed, IntKind.bits]; omega
  have w4 : (Lit.int .i8 (j : Int)).wf = true := by simp [Lit.wf, IntKind.min, IntKind.max, IntKind.signed, IntKind.bits]; omega
  obtain ⟨m, hm⟩ := sizeK
  unfold keyOf keyV
  simp only [Try.underlying54]
  rw [if_pos (by rw [ktK, Value.formed, Try.underlying54, coK]; rfl), hm, show m + 3 + 1 = (m + 2 + 1) + 1 from rfl]
  exact ⟨_, by rw [show (Value.agg #[.int .i16 c0, .int .i16 c1, .int .i16 c2, .int .i32 c3, .int .i8 (j : Int)]).cells.toList = [.int .i16 c0, .int .i16 c1, .int .i16 c2, .int .i32 c3, .int .i8 (j : Int)] from rfl, lits_kind (m + 1) w0 w1 w2 w3 w4]; rfl⟩
theorem keyV_inj {c d : Quad} {i j : Nat} (h : keyV c i = keyV d j) : i = j := by
  unfold keyV at h
  simp at h
  omega
set_option maxRecDepth 100000 in
/-- The keys' names. -/
theorem key_names (cs : List Quad) (h : vldC cs = true) : ∃ L : Nat → Lit, (∀ j, j < cs.length → keyOf Try.prog 54 (keyV (cs.getD j (0, 0, 0, 0)) j) = some (L j)) ∧ (∀ i j, i < cs.length → j < cs.length → L i = L j → i = j) := by
  obtain ⟨⟨_, h8⟩, hoc⟩ := vldC_spec h
  refine ⟨fun j => (keyOf Try.prog 54 (keyV (cs.getD j (0, 0, 0, 0)) j)).getD (.bool false), fun j hj => ?_, fun i j hi hj he => ?_⟩
  · obtain ⟨kl, hk⟩ := key_some _ j (hoc j hj) (by omega)
    show _ = some ((keyOf Try.prog 54 (keyV (cs.getD j (0, 0, 0, 0)) j)).getD (.bool false))
    rw [hk]; rfl
  · obtain ⟨k1, h1⟩ := key_some _ i (hoc i hi) (by omega)
    obtain ⟨k2, h2⟩ := key_some _ j (hoc j hj) (by omega)
    simp only [h1, h2, Option.getD_some] at he
    subst he
    exact keyV_inj (keyedK.inj h1 h2)

/-- How the sums of a kind read. -/
def enc3 (a b c : Int) : DataW Unit := .agg [.lit (.int .i64 a), .lit (.int .i64 b), .lit (.int .i64 c)]
def sumV (a b c : Int) : Value := .agg #[.int .i64 a, .int .i64 b, .int .i64 c]
def R3 (v : Value) : Option (DataW Unit × List MemPlace) :=
  match v with
  | .agg cs => match cs.toList with
    | [.int .i64 a, .int .i64 b, .int .i64 c] => some (enc3 a b c, [])
    | _ => none
  | _ => none
theorem R3_mk (a b c : Int) : R3 (sumV a b c) = some (enc3 a b c, []) := rfl
theorem R3_inv {v : Value} {y : DataW Unit × List MemPlace} (h : R3 v = some y) : ∃ a b c, v = sumV a b c ∧ y = (enc3 a b c, []) := by
  unfold R3 at h
  split at h
  · rename_i cs
    split at h
    · rename_i a b c hl
      refine ⟨a, b, c, ?_, (Option.some.inj h).symm⟩
      unfold sumV
      congr 1
      cases cs
      simp at hl
      rw [hl]
    · cases h
  · cases h
theorem enc3_inj {a b c x y z : Int} (h : enc3 a b c = enc3 x y z) : a = x ∧ b = y ∧ c = z := by
  unfold enc3 at h
  simp at h
  exact h

/-- The map after the first k lines. -/
structure KSums (cs ls : List Quad) (L : Nat → Lit) (k : Nat) (D : DataW Unit) : Prop where
  at_ : ∀ j : Nat, j < cs.length → D.atKey (L j) (enc3 0 0 0) = enc3 (q1 ls j k) (q2 ls j k) (q3 ls j k)
  has_ : ∀ j : Nat, j < cs.length → Maps.has D (L j) = decide (0 < q0 ls j k)
  only : ∀ kl, Maps.has D kl = true → ∃ j : Nat, j < cs.length ∧ kl = L j
theorem KSums.zero (cs ls : List Quad) (L : Nat → Lit) : KSums cs ls L 0 (.map []) :=
  ⟨fun j hj => rfl, fun j hj => rfl, fun kl h => by cases h⟩
theorem KSums.succ {cs ls : List Quad} {L : Nat → Lit} {k i : Nat} {D : DataW Unit} {y z t : Int} (h : KSums cs ls L k D) (hm : Maps.IsMap D) (hk : WideAt.IsKeyLit (L i)) (hinj : ∀ i j, i < cs.length → j < cs.length → L i = L j → i = j)
    (hi : i < cs.length) (hq : ls.getD k (0, 0, 0, 0) = ((i : Int), y, z, t)) (hp : 0 ≤ q0 ls i k) :
    KSums cs ls L (k + 1) (D.put (L i) (enc3 (q1 ls i k + y) (q2 ls i k + z) (q3 ls i k + t))) := by
  obtain ⟨y0, y1, y2, y3⟩ := qs_yes (c := (i : Int)) hq rfl
  have other : ∀ j : Nat, j ≠ i → q0 ls j (k + 1) = q0 ls j k ∧ q1 ls j (k + 1) = q1 ls j k ∧ q2 ls j (k + 1) = q2 ls j k ∧ q3 ls j (k + 1) = q3 ls j k := by
    intro j hj
    have h := qs_no (c := (j : Int)) hq (by omega)
    unfold qs at h
    simp at h
    exact h
  refine ⟨fun j hj => ?_, fun j hj => ?_, fun kl hkl => ?_⟩
  · by_cases e : j = i
    · subst e
      rw [Maps.atKey_put_same hm hk, y1, y2, y3]
    · obtain ⟨_, o1, o2, o3⟩ := other j e
      rw [Maps.atKey_put_other (fun h' => e (hinj _ _ hj hi h')), h.at_ j hj, o1, o2, o3]
  · by_cases e : j = i
    · subst e
      rw [Maps.has_put_same hm hk, y0]
      exact (decide_eq_true (by omega)).symm
    · obtain ⟨o0, _⟩ := other j e
      rw [Maps.has_put_other (fun h' => e (hinj _ _ hj hi h')), h.has_ j hj, o0]
  · by_cases e : kl = L i
    · exact ⟨i, hi, e⟩
    · rw [Maps.has_put_other e] at hkl
      exact h.only kl hkl

/-- The sum of f over the first n numbers of which p holds. -/
def sumP (p : Nat → Bool) (f : Nat → Int) : Nat → Int
  | 0 => 0
  | n + 1 => sumP p f n + (if p n = true then f n else 0)
theorem sumP_same {p q : Nat → Bool} {f : Nat → Int} {n : Nat} (h : ∀ j, j < n → p j = q j) : sumP p f n = sumP q f n := by
  induction n with
  | zero => rfl
  | succ n ih => rw [sumP, sumP, ih (fun j hj => h j (by omega)), h n (by omega)]
theorem sumP_none {p : Nat → Bool} {f : Nat → Int} {n : Nat} (h : ∀ j, j < n → p j = false) : sumP p f n = 0 := by
  induction n with
  | zero => rfl
  | succ n ih => rw [sumP, ih (fun j hj => h j (by omega)), h n (by omega)]; simp
theorem sumP_more {p q : Nat → Bool} {f : Nat → Int} {n i : Nat} (hi : i < n) (hp : p i = false) (hq : q i = true) (h : ∀ j, j < n → j ≠ i → q j = p j) : sumP q f n = sumP p f n + f i := by
  induction n with
  | zero => omega
  | succ n ih =>
    rw [sumP, sumP]
    by_cases e : i = n
    · subst e
      rw [sumP_same (p := q) (q := p) (fun j hj => h j (by omega) (by omega)), hp, hq]
      simp
    · rw [ih (by omega) (fun j hj hne => h j (by omega) hne), h n (by omega) (fun k => e k.symm)]
      omega
/-- All classes that are present: what allTo sums up. -/
theorem sumP_all {cs ls : List Quad} {how : Int} {p : Nat → Bool} (n : Nat) (h : ∀ j, j < n → p j = decide (0 < q0 ls j ls.length)) : sumP p (fun j => chargeR (cs.getD j (0, 0, 0, 0)) (q2 ls j ls.length) (q3 ls j ls.length) how) n = allTo cs ls how n := by
  induction n with
  | zero => rfl
  | succ n ih =>
    rw [sumP, allTo, ih (fun j hj => h j (by omega)), h n (by omega)]
    simp only [decide_eq_true_eq]
end Go.Proofs.Ytocogipejchneaa
