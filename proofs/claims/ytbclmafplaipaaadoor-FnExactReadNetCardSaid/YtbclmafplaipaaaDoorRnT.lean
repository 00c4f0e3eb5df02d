/-
  Reading the text of a net: the model's ReadNet.
-/
import Derived.Test.YtbclmafplaipaaaDoorRnS
import Derived.Test.YtbclmafplaipaaaDoorNtW
import Derived.Test.YtbclmafplaipaaaDoorTLane
namespace Go.Proofs.YtbclmafplaipaaaDoor
open Go Go.RowKit
set_option linter.unusedVariables false

def rnS (text : List UInt8) : Int := ((netM text).getD (0, 0, [])).1
def rnY (text : List UInt8) : Int := ((netM text).getD (0, 0, [])).2.1
def rnL (text : List UInt8) : List Lan := ((netM text).getD (0, 0, [])).2.2
def rnC (text : List UInt8) : Int := if (netM text).isSome = true then 0 else 5
theorem rn_no {text : List UInt8} (h : netM text = none) : rnS text = 0 ∧ rnY text = 0 ∧ rnL text = [] ∧ rnC text = 5 := by simp [rnS, rnY, rnL, rnC, h]
theorem rn_yes {text : List UInt8} {a b : Int} {L : List Lan} (h : netM text = some (a, b, L)) : rnS text = a ∧ rnY text = b ∧ rnL text = L ∧ rnC text = 0 := by simp [rnS, rnY, rnL, rnC, h]
def RetRn (w : World) (st sy : Int) (L : List Lan) (c : Int) (e : Ending) (w' : World) : Prop := ∃ v, e = .returned (.tuple #[netV st sy v, .int .i64 c]) ∧ OwnLa 149 w.heap.size w' v L ∧ Below w.heap.size w w'
theorem pair40 {m : UInt8} {l : List UInt8} {x y : Int} (h : pairM m ok40 l = some (x, y)) : (0 ≤ x ∧ x ≤ 40) ∧ (0 ≤ y ∧ y ≤ 40) := by
  rw [pairM_two] at h
  unfold twoOf at h
  split at h
  · unfold twoN at h
    split at h
    · split at h
      · rename_i a b _ _ hk
        cases h
        unfold ok40 at hk
        simp at hk
        omega
      · cases h
    · cases h
  · cases h
theorem wr8 (v : Int) : ∃ x, IntKind.i8.wrap v = x ∧ (-128 ≤ x ∧ x ≤ 127) ∧ (0 ≤ v ∧ v ≤ 40 → x = v) := ⟨_, rfl, by simp only [IntKind.wrap, IntKind.bits, IntKind.signed]; simp; omega, fun h => by simp only [IntKind.wrap, IntKind.bits, IntKind.signed]; simp; omega⟩
theorem wr16 (v : Int) : ∃ x, IntKind.i16.wrap v = x ∧ (-32768 ≤ x ∧ x ≤ 32767) ∧ (0 ≤ v ∧ v ≤ 40 → x = v) := ⟨_, rfl, by simp only [IntKind.wrap, IntKind.bits, IntKind.signed]; simp; omega, fun h => by simp only [IntKind.wrap, IntKind.bits, IntKind.signed]; simp; omega⟩
theorem mapO_snocN {α : Type} {f : List UInt8 → Option α} {x : List UInt8} {a : α} (hx : f x = some a) : ∀ {ws : List (List UInt8)} {L : List α}, mapO f ws = some L → mapO f (ws ++ [x]) = some (L ++ [a])
  | [], L, h => by cases h; simp [mapO, hx]
  | w :: ws, L, h => by
    rw [List.cons_append]
    unfold mapO at h ⊢
    cases hw : f w with
    | none => rw [hw] at h; cases h
    | some b =>
      rw [hw] at h
      simp only at h ⊢
      cases hs : mapO f ws with
      | none => rw [hs] at h; cases h
      | some L' =>
        rw [hs] at h
        cases h
        rw [mapO_snocN hx hs]
        rfl
theorem mapO_stopN {α : Type} {f : List UInt8 → Option α} {x : List UInt8} (hx : f x = none) : ∀ {ws : List (List UInt8)}, x ∈ ws → mapO f ws = none
  | w :: ws, h => by
    unfold mapO
    rcases List.mem_cons.1 h with rfl | h
    · rw [hx]
    · cases f w with
      | none => rfl
      | some b => simp only; rw [mapO_stopN hx h]
theorem ones4 {x0 x1 x2 x3 : Int} : ∀ u ∈ ([Value.int .i8 x0, .int .i8 x1, .int .i16 x2, .int .i16 x3] : List Value), u.oneCell' = true := by
  intro u hu
  simp at hu
  rcases hu with rfl | rfl | rfl | rfl <;> rfl
theorem new4 {w : World} {x0 x1 x2 x3 : Value} {T : TypeId} : ∀ j u, ([x0, x1, x2, x3] : List Value)[j]? = some u → (w.alloc (.cells #[x0, x1, x2, x3] T)).cell? (Addr.add ⟨w.heap.size, 0, none⟩ j) = some u := by
  intro j u hj
  have e := cell_of_row (w.alloc (.cells #[x0, x1, x2, x3] T)) w.heap.size j _ T (0, 0) (heap_alloc_new w _)
  rw [show Addr.add ⟨w.heap.size, 0, none⟩ j = ⟨w.heap.size, j, none⟩ by unfold Addr.add; split <;> simp_all, e]
  simpa using hj
/-- A lane of two pairs. -/
theorem laneM_two {x p q : List UInt8} (h : spl 32 x = [p, q]) : laneM x = match pairM 45 ok40 p, pairM 45 ok40 q with
    | some a, some b => some (a.1, a.2, b.1, b.2)
    | _, _ => none := by
  unfold laneM
  rw [h]
  simp only
  cases pairM 45 ok40 p <;> cases pairM 45 ok40 q <;> rfl
theorem laneM_not {x : List UInt8} (h : (spl 32 x).length ≠ 2) : laneM x = none := by
  unfold laneM
  split
  · rename_i p q hs; rw [hs] at h; exact absurd rfl h
  · rfl
theorem netM_head {l : List UInt8} (h : pairM 32 ok40 ((spl 10 l).getD 0 []) = none) : netM l = none := by
  unfold netM
  split
  · rw [h]
  · rfl
theorem netM_lane {l : List UInt8} (h : mapO laneM (((spl 10 l).take (nN l)).drop 1) = none) : netM l = none := by
  unfold netM
  split
  · rw [h]; cases pairM 32 ok40 ((spl 10 l).getD 0 []) <;> rfl
  · rfl
end Go.Proofs.YtbclmafplaipaaaDoor
