/-
  Nets: contracts of the laws' helpers that copy, size, compare and mark them; which nets are valid.
-/
import Derived.Test.YtbclmafplaipaaaDoorTLane
import Derived.Test.YtbclmafplaipaaaDoorELane
import Derived.Test.YtbclmafplaipaaaDoorMLane
import Derived.Test.YtbclmafplaipaaaDoorBlk
import Derived.Test.YtbclmafplaipaaaDoorKeepO
import Derived.Deep.RegionHeld3
namespace Go.Proofs.YtbclmafplaipaaaDoor
open Go Go.RowKit
set_option linter.unusedVariables false

abbrev Lan := Int × Int × Int × Int
abbrev netV (st sy : Int) (u : Value) : Value := .agg #[.int .i8 st, .int .i16 sy, u]
theorem cbl {w z : World} (b : Below w.heap.size w z) {p : Addr} {v : Value} (h : w.cell? p = some v) : z.cell? p = some v := by rw [b.cell (World.block_lt_of_cell? w _ h)]; exact h
theorem BlkA.out {B lo hi : Nat} {w w' : World} {T : TypeId} {vs : Array Value} (h : BlkA w B T vs) (K : KeepsOut lo hi w w') (hd : B < lo ∨ hi ≤ B) : BlkA w' B T vs := by
  have h1 := K.block B h.lt (by omega)
  unfold BlkA; rw [h1]; exact h
theorem row_other {B n m : Nat} {T : TypeId} {w : World} {v : Value} {us : List Value} (h : w.ownsRow B T n v m us) (p : Addr) (u : Value) (hp : p.block < B) : (w.setCell p u).ownsRow B T n v m us := by
  refine ⟨h.1, ?_⟩
  rcases h.2 with hn | ⟨g, cap, cur, rfl, hB, hg, rest⟩
  · exact .inl hn
  · exact .inr ⟨g, cap, cur, rfl, hB, by rw [heap_setCell_other w p g u (by omega)]; exact hg, rest⟩
theorem OwnLa.other {T : TypeId} {B : Nat} {w : World} {v : Value} {ps : List Lan} (h : OwnLa T B w v ps) (p : Addr) (u : Value) (hp : p.block < B) : OwnLa T B (w.setCell p u) v ps := row_other h p u hp
theorem keepsOut_alloc (lo hi : Nat) (w : World) (o : Obj) : KeepsOut lo hi w (w.alloc o) := ⟨rfl, rfl, rfl, by simp, fun k hk _ => (by first | exact heap_alloc_old w o hk | exact heap_alloc_old w o k hk)⟩
/-- The numbers of a net fit, and its lanes are not too many for the laws. -/
structure FitN (st sy : Int) (L : List Lan) : Prop where
  s : -128 ≤ st ∧ st ≤ 127
  y : -32768 ≤ sy ∧ sy ≤ 32767
  l : FitsLa L
  n : L.length ≤ 1048576

set_option maxHeartbeats 4000000 in
set_option maxRecDepth 100000 in
/-- eqNet at the same numbers and lanes. -/
theorem eqNet_eq (st sy : Int) (v u : Value) (ps : List Lan) (w : World) (hv : ReadsLa w v ps) (hu : ReadsLa w u ps) (hx : ps.length ≤ 1048576) :
    Calls Tryd.prog 52 #[netV st sy v, netV st sy u] w fun e w' => e = .returned (.bool true) ∧ Below w.heap.size w w' := by
  have hb : ∀ X Y : Obj, Below w.heap.size w ((w.alloc X).alloc Y) := fun X Y => ((Below.refl _ _).alloc (Nat.le_refl _) X).alloc (by simp) Y
  have HV := Lib.hid hv
  have HU := Lib.hid hu
  have HBB := Lib.hid hb
  clear hv hu hb
  go_enter Tryd.func52, Tryd.ntmps52
  go_wp2_with fail
  refine (eqLaneS_eq v u ps _ (HV.out.below (HBB.out _ _)) (HU.out.below (HBB.out _ _)) hx).mono ?_
  rintro e w2 ⟨rfl, b2⟩
  go_wp2_with fail
  go_ret
  exact ⟨rfl, (HBB.out _ _).trans (b2.mono (by simp; omega))⟩

set_option maxHeartbeats 4000000 in
/-- markNet marks the lanes alone. -/
theorem markNet_any (T : TypeId) (B : Nat) (st sy : Int) (v : Value) (ps : List Lan) (k0 : Int) (w : World) (hown : OwnLa T B w v ps) (h0 : 0 ≤ k0) (h1 : k0 ≤ 16777216) (hx : ps.length ≤ 1048576) :
    Calls Tryd.prog 53 #[netV st sy v, .int .i64 k0] w fun e w' => e = .returned (.int .i64 (k0 + 4 * ps.length)) ∧ OwnLa T B w' v (iotaLa k0 ps.length) ∧ ∀ lo hi, (∀ k, v.ownBlock = some k → lo ≤ k ∧ k < hi) → KeepsOut lo hi w w' := by
  have HO := Lib.hid hown
  clear hown
  go_enter Tryd.func53, Tryd.ntmps53
  go_wp2_with fail
  refine (markLa_any T B v ps k0 _ (HO.out.below ((Below.refl _ _).alloc (Nat.le_refl _) _)) h0 h1 hx).mono ?_
  rintro e w2 ⟨rfl, o2, g2⟩
  go_wp2_with fail
  go_ret
  exact ⟨rfl, o2, fun lo hi h => (keepsOut_alloc _ _ w _).trans (keepsOut_grown g2 h)⟩

/-- A lane leads between two stations, and its hours are in order. -/
def okLa (st : Int) (c : Lan) : Prop := (0 ≤ c.1 ∧ c.1 ≤ st - 1) ∧ (0 ≤ c.2.1 ∧ c.2.1 ≤ st - 1) ∧ c.1 ≠ c.2.1 ∧ 1 ≤ c.2.2.1 ∧ c.2.2.1 ≤ c.2.2.2 ∧ c.2.2.2 ≤ 40
instance (st : Int) (c : Lan) : Decidable (okLa st c) := inferInstanceAs (Decidable (_ ∧ _))
def OkLaTo (st : Int) (cs : List Lan) (k : Nat) : Prop := ∀ i, i < k → okLa st (cs.getD i (0, 0, 0, 0))
theorem OkLaTo.zero (st : Int) (cs : List Lan) : OkLaTo st cs 0 := fun i hi => absurd hi (by omega)
theorem OkLaTo.succ {st : Int} {cs : List Lan} {k : Nat} (h : OkLaTo st cs k) (h1 : okLa st (cs.getD k (0, 0, 0, 0))) : OkLaTo st cs (k + 1) := fun i hi => by
  by_cases e : i = k
  · subst e; exact h1
  · exact h i (by omega)
instance (st : Int) (cs : List Lan) (k : Nat) : Decidable (OkLaTo st cs k) := inferInstanceAs (Decidable (∀ i, i < k → _))
/-- A net is valid. -/
def okNet (st sy : Int) (L : List Lan) : Prop := (1 ≤ st ∧ st ≤ 8) ∧ (0 ≤ sy ∧ sy ≤ 40) ∧ L.length ≤ 20 ∧ OkLaTo st L L.length
instance (st sy : Int) (L : List Lan) : Decidable (okNet st sy L) := inferInstanceAs (Decidable (_ ∧ _))
def vldN (st sy : Int) (L : List Lan) : Bool := decide (okNet st sy L)
theorem vldN_true {st sy : Int} {L : List Lan} (h : okNet st sy L) : vldN st sy L = true := decide_eq_true h
theorem vldN_false {st sy : Int} {L : List Lan} (h : ¬ okNet st sy L) : vldN st sy L = false := decide_eq_false h
theorem vldN_spec {st sy : Int} {L : List Lan} (h : vldN st sy L = true) : okNet st sy L := of_decide_eq_true h
theorem vldN_bad {st sy : Int} {L : List Lan} {k : Nat} (hk : k < L.length) (h : ¬ okLa st (L.getD k (0, 0, 0, 0))) : vldN st sy L = false := decide_eq_false fun q => h (q.2.2.2 k hk)
end Go.Proofs.YtbclmafplaipaaaDoor
