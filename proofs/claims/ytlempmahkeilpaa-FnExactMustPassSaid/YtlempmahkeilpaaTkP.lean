/-
  The tracker: what its map holds (scans to times): plain.
-/
import Derived.Test.YtlempmahkeilpaaRarr
import Derived.Test.YtlempmahkeilpaaArW
import Derived.Test.YtlempmahkeilpaaScP
import Derived.Maps.OwnSet
import Derived.Maps.Views
import Derived.DeepKeys4
namespace Go.Proofs.Ytlempmahkeilpaa
open Go Go.RowKit
set_option linter.unusedVariables false

theorem laidOutS : laidOutB Try.prog = true := by kernel_rfl
theorem wideS : (match Try.prog.underlying 37 with | some (.array _ _) | some (.struct _) => true | _ => false) = true := by kernel_rfl
set_option maxRecDepth 100000 in
theorem keyedS : Maps.Keyed Try.prog 37 := Maps.Keyed.of_law (deep_law_laid laidOutS (m := 2) (by omega) (of_decide_eq_true (by kernel_rfl)) (by kernel_rfl) wideS)
abbrev scv (s h : Nat) : Value := .agg #[.int .i8 (s : Int), .int .i16 (h : Int)]
theorem typesS : Try.prog.types.size = 203 := by kernel_rfl
theorem ktS : Try.prog.keyType 37 = true := by kernel_rfl
theorem coS : Try.prog.cellsOf 37 = 2 := by kernel_rfl
theorem coS8 : Try.prog.cellsOf 22 = 1 := by kernel_rfl
theorem coS16 : Try.prog.cellsOf 23 = 1 := by kernel_rfl
theorem sizeS : ∃ m, Try.prog.types.size = m + 2 := ⟨203 - 2, by rw [typesS]⟩
theorem litS16 (d : Nat) {n : Int} (h : (Lit.int .i16 n).wf = true) : Try.prog.keyLits (d + 1) 23 [.int .i16 n] = some [.int .i16 n] := by
  unfold Program.keyLits; simp only [Try.underlying23]; rw [if_pos ⟨trivial, h⟩]
theorem litS8 (d : Nat) {n : Int} (h : (Lit.int .i8 n).wf = true) : Try.prog.keyLits (d + 1) 22 [.int .i8 n] = some [.int .i8 n] := by
  unfold Program.keyLits; simp only [Try.underlying22]; rw [if_pos ⟨trivial, h⟩]
set_option maxRecDepth 100000 in
theorem litsSc (d : Nat) {a b : Int} (h0 : (Lit.int .i8 a).wf = true) (h1 : (Lit.int .i16 b).wf = true) :
    Try.prog.keyLits (d + 1 + 1) 37 [.int .i8 a, .int .i16 b] = some [.int .i8 a, .int .i16 b] := by
  unfold Program.keyLits
  simp only [Try.underlying37]
  rw [if_pos ⟨by rw [coS]; rfl, by kernel_rfl⟩]
  simp only [List.mapM_cons, List.mapM_nil, coS8, coS16, List.drop_succ_cons, List.drop_zero, List.take_succ_cons, List.take_zero, litS8 d h0, litS16 d h1]
  rfl
set_option maxRecDepth 100000 in
theorem keyS_some (s h : Nat) (hs : s < 8) (hh : h ≤ 300) : ∃ kl, keyOf Try.prog 37 (scv s h) = some kl := by
  have w0 : (Lit.int .i8 (s : Int)).wf = true := by simp [Lit.wf, IntKind.min, IntKind.max, IntKind.signed, IntKind.bits]; omega
  have w1 : (Lit.int .i16 (h : Int)).wf = true := by simp [Lit.wf, IntKind.min, IntKind.max, IntKind.signed, IntKind.bits]; omega
  obtain ⟨m, hm⟩ := sizeS
  unfold keyOf scv
  simp only [Try.underlying37]
  rw [if_pos (by rw [ktS, Value.formed, Try.underlying37, coS]; rfl), hm, show m + 2 + 1 = (m + 1) + 1 + 1 from rfl]
  exact ⟨_, by rw [show (Value.agg #[.int .i8 (s : Int), .int .i16 (h : Int)]).cells.toList = [.int .i8 (s : Int), .int .i16 (h : Int)] from rfl, litsSc (m + 1) w0 w1]; rfl⟩
/-- The name of a scan's key. -/
noncomputable def klS (s h : Nat) : Lit := (keyOf Try.prog 37 (scv s h)).getD (.bool false)
theorem klS_key {s h : Nat} (hs : s < 8) (hh : h ≤ 300) : keyOf Try.prog 37 (scv s h) = some (klS s h) := by
  obtain ⟨kl, hk⟩ := keyS_some s h hs hh
  unfold klS
  rw [hk]; rfl
attribute [irreducible] klS
theorem klS_inj {s h s' h' : Nat} (hs : s < 8) (hh : h ≤ 300) (hs' : s' < 8) (hh' : h' ≤ 300) (e : klS s h = klS s' h') : s = s' ∧ h = h' := by
  have h1 := klS_key hs hh
  have h2 := klS_key hs' hh'
  rw [e] at h1
  have := keyedS.inj h1 h2
  unfold scv at this
  simp at this
  omega

/-- How times read. -/
noncomputable def encT (T : List Nat) : DataW Unit := .agg (T.map fun (n : Nat) => .lit (.int .u64 (n : Int)))
theorem encT_inj {T U : List Nat} (h : encT T = encT U) : T = U := by
  unfold encT at h
  simp only [DataW.agg.injEq] at h
  refine (List.map_inj_right ?_).1 h
  intro x y hxy
  simp at hxy; omega
open Classical in
noncomputable def RT (v : Value) : Option (DataW Unit × List MemPlace) := if h : ∃ T, TOk T ∧ v = tv T then some (encT (Classical.choose h), []) else none
theorem RT_mk {T : List Nat} (hT : TOk T) : RT (tv T) = some (encT T, []) := by
  unfold RT
  have h : ∃ U, TOk U ∧ tv T = tv U := ⟨T, hT, rfl⟩
  rw [dif_pos h]
  have hc := Classical.choose_spec h
  have e : tw T = tw (Classical.choose h) := by simpa using hc.2
  rw [← tw_inj hT hc.1 e]
theorem RT_inv {v : Value} {y : DataW Unit × List MemPlace} (h : RT v = some y) : ∃ T, TOk T ∧ v = tv T ∧ y = (encT T, []) := by
  unfold RT at h
  split at h
  · rename_i hx
    have hc := Classical.choose_spec hx
    exact ⟨_, hc.1, hc.2, (Option.some.inj h).symm⟩
  · cases h
theorem rarr_ok (yn : Nat) (ps : List Lan) (s h : Nat) (hh : h ≤ 300) (k : Nat) : TOk (rarr yn ps s h k) := seenK_ok (fun T h => onw_ok h) (onw_ok (tOf_ok s h hh)) k
/-- What is kept are arrivals. -/
structure KTr (yn : Nat) (ps : List Lan) (D : DataW Unit) : Prop where
  at_ : ∀ s h : Nat, s < 8 → h ≤ 300 → Maps.has D (klS s h) = true → ∃ k, D.atKey (klS s h) (encT t0) = encT (rarr yn ps s h k) ∧ rend yn ps s h k
theorem KTr.zero (yn : Nat) (ps : List Lan) : KTr yn ps (.map []) := ⟨fun s h _ _ hh => by cases hh⟩
theorem KTr.put {yn : Nat} {ps : List Lan} {D : DataW Unit} (K : KTr yn ps D) (hm : Maps.IsMap D) {s h : Nat} (hs : s < 8) (hh : h ≤ 300) {k : Nat} (he : rend yn ps s h k) : KTr yn ps (D.put (klS s h) (encT (rarr yn ps s h k))) := by
  have hkey := klS_key hs hh
  have hk : WideAt.IsKeyLit (klS s h) := keyedS.key hkey
  have h1 := Maps.atKey_put_same hm hk (encT (rarr yn ps s h k)) (encT t0)
  refine ⟨fun s' h' hs' hh' hx => ?_⟩
  by_cases e : s' = s ∧ h' = h
  · obtain ⟨rfl, rfl⟩ := e
    exact ⟨k, h1, he⟩
  · have hne : klS s' h' ≠ klS s h := fun q => e (klS_inj hs' hh' hs hh q)
    rw [Maps.has_put_other hne] at hx
    rw [Maps.atKey_put_other hne]
    exact K.at_ s' h' hs' hh' hx
theorem ownT_below {w w' : World} {P : Program} {k : TypeId} {R : Value → Option (DataW Unit × List MemPlace)} {b n m : Nat} {D : DataW Unit} (h : w.ownsMap P k R b n D) (hb : Below m w w') (hlt : b < m) : w'.ownsMap P k R b n D := by
  obtain ⟨es, clock, hb', rest⟩ := h
  exact ⟨es, clock, by rw [hb.block b hlt]; exact hb', rest⟩
/-- Nothing that lies before M turns, nor anything that was there but M itself. -/
def KeptBut (M : Nat) (w w' : World) : Prop := Below M w w' ∧ w.heap.size ≤ w'.heap.size ∧ ∀ b, b < w.heap.size → b ≠ M → w'.heap[b]? = w.heap[b]?
theorem KeptBut.refl (M : Nat) (w : World) : KeptBut M w w := ⟨Below.refl _ _, Nat.le_refl _, fun _ _ _ => rfl⟩
theorem KeptBut.trans {M : Nat} {w w' w'' : World} (h : KeptBut M w w') (h' : KeptBut M w' w'') : KeptBut M w w'' :=
  ⟨h.1.trans h'.1, Nat.le_trans h.2.1 h'.2.1, fun b hb hne => (h'.2.2 b (Nat.lt_of_lt_of_le hb h.2.1) hne).trans (h.2.2 b hb hne)⟩
theorem KeptBut.of_below {M : Nat} {w w' : World} (h : Below w.heap.size w w') (hM : M ≤ w.heap.size) : KeptBut M w w' := ⟨h.mono hM, h.size, fun b hb _ => h.block b hb⟩
theorem KeptBut.of_grown {M : Nat} {w w' : World} (h : w.grownBy w' (some M)) (hM : M ≤ w.heap.size) : KeptBut M w w' :=
  ⟨(Below.refl M w).grown h hM (fun i hi => by cases hi; exact Nat.le_refl _), h.size, fun b hb hne => h.block b hb (by simpa using hne)⟩
theorem KeptBut.cell {M : Nat} {w w' : World} (h : KeptBut M w w') {b o : Nat} {v : Value} (hne : b ≠ M) (hc : w.cell? ⟨b, o, none⟩ = some v) : w'.cell? ⟨b, o, none⟩ = some v := by
  have hb : b < w.heap.size := World.block_lt_of_cell? w ⟨b, o, none⟩ hc
  exact (World.cell?_of_block (w := w) (a := ⟨b, o, none⟩) (h.2.2 b hb hne)).trans hc
theorem KeptBut.size {M : Nat} {w w' : World} (h : KeptBut M w w') : w.heap.size ≤ w'.heap.size := h.2.1
theorem zero_times (w : World) : (zeroValue 76).run Try.prog w = .ok (tv t0) w := by kernel_rfl
end Go.Proofs.Ytlempmahkeilpaa
