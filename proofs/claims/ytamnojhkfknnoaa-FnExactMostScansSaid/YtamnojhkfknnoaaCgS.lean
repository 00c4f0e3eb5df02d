/-
  The model's CanGo.
-/
import Derived.Test.YtamnojhkfknnoaaArG
import Derived.Test.YtamnojhkfknnoaaNtL
namespace Go.Proofs.Ytamnojhkfknnoaa
open Go Go.RowKit
set_option linter.unusedVariables false

open Classical in
/-- Whether a parcel can arrive so; the code. -/
noncomputable def arrB (ps : List Lan) (wo sy x0 x1 y0 y1 : Int) : Bool := decide (Arr ps wo sy.toNat x0.toNat x1.toNat y0.toNat y1.toNat)
open Classical in
theorem arrB_of {ps : List Lan} {wo sy x0 x1 y0 y1 : Int} {r : Bool} (h : r = true ↔ Arr ps wo sy.toNat x0.toNat x1.toNat y0.toNat y1.toNat) : r = arrB ps wo sy x0 x1 y0 y1 := by
  unfold arrB
  rw [Bool.eq_iff_iff, decide_eq_true_eq]; exact h
def cgC (st sy : Int) (ps : List Lan) (x0 x1 y0 y1 : Int) : Int := askC st sy ps (scB st x0 x1 && scB st y0 y1)
noncomputable def cgR (st sy : Int) (ps : List Lan) (x0 x1 y0 y1 : Int) : Bool := if cgC st sy ps x0 x1 y0 y1 = 0 then arrB ps (-1) sy x0 x1 y0 y1 else false
def RetCg (w : World) (r : Bool) (c : Int) (e : Ending) (w' : World) : Prop := e = .returned (.tuple #[.bool r, .int .i64 c]) ∧ Below w.heap.size w w'
theorem ret_bc {r r' : Bool} {c c' : Int} (h : r = r') (g : c = c') : Ending.returned (.tuple #[.bool r, .int .i64 c]) = .returned (.tuple #[.bool r', .int .i64 c']) := by rw [h, g]
theorem scan_nats {st x0 x1 : Int} (hst : st ≤ 8) (h : scB st x0 x1 = true) : ∃ s h : Nat, x0 = (s : Int) ∧ x1 = (h : Int) ∧ s < 8 ∧ h ≤ 300 := by
  have h1 : okSc st (x0, x1) := of_decide_eq_true h
  unfold okSc at h1
  simp only at h1
  exact ⟨x0.toNat, x1.toNat, by omega, by omega, by omega, by omega⟩
theorem net_nat {st sy : Int} {ps : List Lan} (h : okNet st sy ps) : ∃ a b : Nat, st = (a : Int) ∧ sy = (b : Int) := by
  have h1 := h.1
  have h2 := h.2.1
  exact ⟨st.toNat, sy.toNat, by omega, by omega⟩

end Go.Proofs.Ytamnojhkfknnoaa
