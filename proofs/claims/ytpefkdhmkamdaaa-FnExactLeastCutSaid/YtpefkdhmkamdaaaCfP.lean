/-
  Cuts for boxes: plain: the least cut of a box is that of its sides in order; what the program's map of known cuts holds.
-/
import Derived.Test.YtpefkdhmkamdaaaCfQ
import Derived.Test.YtpefkdhmkamdaaaBxV
import Derived.Maps.RangeWalk
import Derived.Maps.OwnSet
import Derived.Maps.Views
import Derived.DeepKeys4
namespace Go.Proofs.Ytpefkdhmkamdaaa
open Go Go.RowKit
set_option linter.unusedVariables false

/-- The sides of a box, the greatest first. -/
def kindT (p : Tri) : Tri := (hi3 p.1 p.2.1 p.2.2, mi3 p.1 p.2.1 p.2.2, lo3 p.1 p.2.1 p.2.2)
theorem kind_lo (a b c : Int) : lo3 (hi3 a b c) (mi3 a b c) (lo3 a b c) = lo3 a b c := by unfold mi3 lo3 hi3; omega
theorem kind_hi (a b c : Int) : hi3 (hi3 a b c) (mi3 a b c) (lo3 a b c) = hi3 a b c := by unfold mi3 lo3 hi3; omega
theorem kind_mi (a b c : Int) : mi3 (hi3 a b c) (mi3 a b c) (lo3 a b c) = mi3 a b c := by
  have h1 := kind_lo a b c
  have h2 := kind_hi a b c
  show hi3 a b c + mi3 a b c + lo3 a b c - lo3 (hi3 a b c) (mi3 a b c) (lo3 a b c) - hi3 (hi3 a b c) (mi3 a b c) (lo3 a b c) = mi3 a b c
  omega
theorem kind_cut (a b c wide : Int) : cutB (hi3 a b c) (mi3 a b c) (lo3 a b c) wide = cutB a b c wide := by
  unfold cutB; rw [kind_lo, kind_mi, kind_hi]
theorem kind_ok {a b c : Int} (h : okB a b c = true) : okB (hi3 a b c) (mi3 a b c) (lo3 a b c) = true := by
  unfold okB at *; rw [kind_lo, kind_hi]; exact h
theorem cutB_in {a b c wide : Int} (h : okB a b c = true) : -1 ≤ cutB a b c wide ∧ cutB a b c wide ≤ 242 := by
  have hbd := of_decide_eq_true h
  have hord := ord3 a b c
  exact cutOf_okbd (turnsL_ok (by omega) hord.1 hord.2 hbd.2)

/-! ### cuts -/
def cutAt (ps : List Tri) (wide : Int) (i : Nat) : Int := cutB (ps.getD i (0, 0, 0)).1 (ps.getD i (0, 0, 0)).2.1 (ps.getD i (0, 0, 0)).2.2 wide
/-- The first k cuts, and 0 behind them. -/
def rowK (ps : List Tri) (wide : Int) (k : Nat) : List Int := (List.range ps.length).map fun i => if i < k then cutAt ps wide i else 0
theorem rowK_len (ps : List Tri) (wide : Int) (k : Nat) : (rowK ps wide k).length = ps.length := by simp [rowK]
theorem rowK_zero (ps : List Tri) (wide : Int) : rowK ps wide 0 = List.replicate ps.length 0 := by
  refine List.ext_getElem (by simp [rowK]) fun i h1 h2 => ?_
  simp [rowK]
theorem rowK_set (ps : List Tri) (wide : Int) (k : Nat) : (rowK ps wide k).set k (cutAt ps wide k) = rowK ps wide (k + 1) := by
  refine List.ext_getElem (by simp [rowK]) fun i h1 h2 => ?_
  rw [List.getElem_set]
  simp only [rowK, List.getElem_map, List.getElem_range]
  by_cases e : k = i
  · subst e; simp
  · rw [if_neg e]
    by_cases h : i < k
    · rw [if_pos h, if_pos (by omega)]
    · rw [if_neg h, if_neg (by omega)]
/-- All cuts up to k are there. -/
def hasTo (ps : List Tri) (wide : Int) (k : Nat) : Prop := ∀ i, i < k → 0 ≤ cutAt ps wide i
instance (ps : List Tri) (wide : Int) (k : Nat) : Decidable (hasTo ps wide k) := inferInstanceAs (Decidable (∀ i, i < k → _))
theorem hasTo.succ {ps : List Tri} {wide : Int} {k : Nat} (h : hasTo ps wide k) (h1 : 0 ≤ cutAt ps wide k) : hasTo ps wide (k + 1) := fun i hi => by
  by_cases e : i = k
  · subst e; exact h1
  · exact h i (by omega)
def cfC (ps : List Tri) (wide : Int) : Int := if vldX ps = false then 1 else if inB wide 1 400 = false then 2 else if hasTo ps wide ps.length then 0 else 6
def cfR (ps : List Tri) (wide : Int) : List Int := if cfC ps wide = 0 then rowK ps wide ps.length else []
theorem cf_1 {ps : List Tri} {wide : Int} (h : vldX ps = false) : cfC ps wide = 1 ∧ cfR ps wide = [] := by
  have e : cfC ps wide = 1 := if_pos h
  exact ⟨e, if_neg (by rw [e]; decide)⟩
theorem cf_2 {ps : List Tri} {wide : Int} (h : vldX ps = true) (g : inB wide 1 400 = false) : cfC ps wide = 2 ∧ cfR ps wide = [] := by
  have e : cfC ps wide = 2 := by unfold cfC; rw [if_neg (by rw [h]; simp), if_pos g]
  exact ⟨e, if_neg (by rw [e]; decide)⟩
theorem cf_6 {ps : List Tri} {wide : Int} {k : Nat} (h : vldX ps = true) (g : inB wide 1 400 = true) (hk : k < ps.length) (f : cutAt ps wide k < 0) : cfC ps wide = 6 ∧ cfR ps wide = [] := by
  have e : cfC ps wide = 6 := by unfold cfC; rw [if_neg (by rw [h]; simp), if_neg (by rw [g]; simp), if_neg (fun q => by have := q k hk; omega)]
  exact ⟨e, if_neg (by rw [e]; decide)⟩
theorem cf_0 {ps : List Tri} {wide : Int} (h : vldX ps = true) (g : inB wide 1 400 = true) (f : hasTo ps wide ps.length) : cfC ps wide = 0 ∧ cfR ps wide = rowK ps wide ps.length := by
  have e : cfC ps wide = 0 := by unfold cfC; rw [if_neg (by rw [h]; simp), if_neg (by rw [g]; simp), if_pos f]
  exact ⟨e, if_pos e⟩
theorem cfR_len (ps : List Tri) (wide : Int) : (cfR ps wide).length ≤ ps.length := by
  unfold cfR; split
  · rw [rowK_len]; omega
  · simp

/-! ### keys -/
theorem laidOutB3 : laidOutB Try.prog = true := by kernel_rfl
theorem wideB3 : (match Try.prog.underlying 27 with | some (.array _ _) | some (.struct _) => true | _ => false) = true := by kernel_rfl
set_option maxRecDepth 100000 in
theorem keyedB : Maps.Keyed Try.prog 27 := Maps.Keyed.of_law (deep_law_laid laidOutB3 (m := 3) (by omega) (of_decide_eq_true (by kernel_rfl)) (by kernel_rfl) wideB3)
def boxV (t : Tri) : Value := .agg #[.int .i8 t.1, .int .i8 t.2.1, .int .i8 t.2.2]
theorem typesB : Try.prog.types.size = 105 := by kernel_rfl
theorem ktB : Try.prog.keyType 27 = true := by kernel_rfl
theorem coB : Try.prog.cellsOf 27 = 3 := by kernel_rfl
theorem coi8B : Try.prog.cellsOf 22 = 1 := by kernel_rfl
theorem sizeB : ∃ m, Try.prog.types.size = m + 3 := ⟨105 - 3, by rw [typesB]⟩
theorem lit_i8B (d : Nat) {n : Int} (h : (Lit.int .i8 n).wf = true) : Try.prog.keyLits (d + 1) 22 [.int .i8 n] = some [.int .i8 n] := by
  unfold Program.keyLits; simp only [Try.underlying22]; rw [if_pos ⟨trivial, h⟩]
set_option maxRecDepth 100000 in
theorem lits_box (d : Nat) {a b c : Int} (h0 : (Lit.int .i8 a).wf = true) (h1 : (Lit.int .i8 b).wf = true) (h2 : (Lit.int .i8 c).wf = true) :
    Try.prog.keyLits (d + 1 + 1) 27 [.int .i8 a, .int .i8 b, .int .i8 c] = some [.int .i8 a, .int .i8 b, .int .i8 c] := by
  unfold Program.keyLits
  simp only [Try.underlying27]
  rw [if_pos ⟨by rw [coB]; rfl, by kernel_rfl⟩]
  simp only [List.mapM_cons, List.mapM_nil, coi8B, List.drop_succ_cons, List.drop_zero, List.take_succ_cons, List.take_zero, lit_i8B d h0, lit_i8B d h1, lit_i8B d h2]
  rfl
set_option maxRecDepth 100000 in
theorem key_box (t : Tri) (h : okB t.1 t.2.1 t.2.2 = true) : ∃ kl, keyOf Try.prog 27 (boxV t) = some kl := by
  obtain ⟨a, b, c⟩ := t
  have hs := okB_spec h
  simp only at hs
  have w0 : (Lit.int .i8 a).wf = true := by simp [Lit.wf, IntKind.min, IntKind.max, IntKind.signed, IntKind.bits]; omega
  have w1 : (Lit.int .i8 b).wf = true := by simp [Lit.wf, IntKind.min, IntKind.max, IntKind.signed, IntKind.bits]; omega
  have w2 : (Lit.int .i8 c).wf = true := by simp [Lit.wf, IntKind.min, IntKind.max, IntKind.signed, IntKind.bits]; omega
  obtain ⟨m, hm⟩ := sizeB
  unfold keyOf boxV
  simp only [Try.underlying27]
  rw [if_pos (by rw [ktB, Value.formed, Try.underlying27, coB]; rfl), hm, show m + 3 + 1 = (m + 2) + 1 + 1 from rfl]
  exact ⟨_, by rw [show (Value.agg #[.int .i8 a, .int .i8 b, .int .i8 c]).cells.toList = [.int .i8 a, .int .i8 b, .int .i8 c] from rfl, lits_box (m + 2) w0 w1 w2]; rfl⟩
theorem boxV_inj {s t : Tri} (h : boxV s = boxV t) : s = t := by
  obtain ⟨a, b, c⟩ := s
  obtain ⟨x, y, z⟩ := t
  unfold boxV at h
  simp at h
  obtain ⟨rfl, rfl, rfl⟩ := h
  rfl
/-- The keys' names. -/
theorem box_names : ∃ L : Tri → Lit, (∀ t : Tri, okB t.1 t.2.1 t.2.2 = true → keyOf Try.prog 27 (boxV t) = some (L t)) ∧ (∀ s t : Tri, okB s.1 s.2.1 s.2.2 = true → okB t.1 t.2.1 t.2.2 = true → L s = L t → s = t) := by
  refine ⟨fun t => (keyOf Try.prog 27 (boxV t)).getD (.bool false), fun t ht => ?_, fun s t hs ht he => ?_⟩
  · obtain ⟨kl, hk⟩ := key_box t ht
    show _ = some ((keyOf Try.prog 27 (boxV t)).getD (.bool false))
    rw [hk]; rfl
  · obtain ⟨k1, h1⟩ := key_box s hs
    obtain ⟨k2, h2⟩ := key_box t ht
    simp only [h1, h2, Option.getD_some] at he
    subst he
    exact boxV_inj (keyedB.inj h1 h2)
def enc1 (n : Int) : DataW Unit := .lit (.int .i64 n)
def R1 (v : Value) : Option (DataW Unit × List MemPlace) :=
  match v with
  | .int .i64 n => some (enc1 n, [])
  | _ => none
theorem R1_mk (n : Int) : R1 (.int .i64 n) = some (enc1 n, []) := rfl
theorem R1_inv {v : Value} {y : DataW Unit × List MemPlace} (h : R1 v = some y) : ∃ n, v = .int .i64 n ∧ y = (enc1 n, []) := by
  unfold R1 at h
  split at h
  · rename_i n
    exact ⟨n, rfl, (Option.some.inj h).symm⟩
  · cases h
theorem enc1_inj {a b : Int} (h : enc1 a = enc1 b) : a = b := by unfold enc1 at h; simpa using h
/-- What the map of known cuts holds. -/
def KCut (L : Tri → Lit) (wide : Int) (D : DataW Unit) : Prop := ∀ t : Tri, okB t.1 t.2.1 t.2.2 = true → Maps.has D (L t) = true → D.atKey (L t) (enc1 0) = enc1 (cutB t.1 t.2.1 t.2.2 wide) ∧ 0 ≤ cutB t.1 t.2.1 t.2.2 wide
theorem KCut.zero (L : Tri → Lit) (wide : Int) : KCut L wide (.map []) := fun t ht h => by cases h
theorem KCut.put {L : Tri → Lit} {wide : Int} {D : DataW Unit} {t : Tri} (h : KCut L wide D) (hm : Maps.IsMap D) (hk : WideAt.IsKeyLit (L t)) (hinj : ∀ s t : Tri, okB s.1 s.2.1 s.2.2 = true → okB t.1 t.2.1 t.2.2 = true → L s = L t → s = t)
    (ht : okB t.1 t.2.1 t.2.2 = true) (h0 : 0 ≤ cutB t.1 t.2.1 t.2.2 wide) : KCut L wide (D.put (L t) (enc1 (cutB t.1 t.2.1 t.2.2 wide))) := by
  intro s hs hh
  by_cases e : L s = L t
  · obtain rfl := hinj s t hs ht e
    exact ⟨by rw [Maps.atKey_put_same hm hk], h0⟩
  · rw [Maps.has_put_other e] at hh
    rw [Maps.atKey_put_other e]
    exact h s hs hh
end Go.Proofs.Ytpefkdhmkamdaaa
