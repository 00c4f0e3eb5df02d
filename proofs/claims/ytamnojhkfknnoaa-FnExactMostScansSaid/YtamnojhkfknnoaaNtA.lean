/-
  Nets: contracts of the laws' helpers that copy, size, compare and mark them; which nets are valid.
-/
import Derived.Test.YtamnojhkfknnoaaTLane
import Derived.Test.YtamnojhkfknnoaaELane
import Derived.Test.YtamnojhkfknnoaaMLane
import Derived.Test.YtamnojhkfknnoaaBlk
import Derived.Test.YtamnojhkfknnoaaKeepO
import Derived.Deep.RegionHeld3
namespace Go.Proofs.Ytamnojhkfknnoaa
open Go Go.RowKit
set_option linter.unusedVariables false

abbrev Lan := Int × Int × Int × Int
abbrev netV (st sy : Int) (u : Value) : Value := .agg #[.int .i8 st, .int .i16 sy, u]
theorem cbl {w z : World} (b : Below w.heap.size w z) {p : Addr} {v : Value} (h : w.cell? p = some v) : z.cell? p = some v := by rw [b.cell (World.block_lt_of_cell? w _ h)]; exact h
theorem BlkA.out {B lo hi : Nat} {w w' : World} {T : TypeId} {vs : Array Value} (h : BlkA w B T vs) (K : KeepsOut lo hi w w') (hd : B < lo ∨ hi ≤ B) : BlkA w' B T vs := by
  have h1 := K.block B h.lt (by omega)
  unfold BlkA; rw [h1]; exact h
theorem row_other {B n m : Nat} {T : TypeId} {w : World} {v : Value} {us : List Value} (h : w.ownsRow B T n v m us) (p : Addr) (u : Value) (hp : p.block < B) : (w.setCell p u).ownsRow B T n v m us := by
  refine ⟨h.1, ?_⟩
  rcases h.2 with hn | ⟨g, cap, cur, rfl, hB, hg, rest⟩
  · exact .inl hn
  · exact .inr ⟨g, cap, cur, rfl, hB, by rw [heap_setCell_other w p g u (by omega)]; exact hg, rest⟩
theorem OwnLa.other {T : TypeId} {B : Nat} {w : World} {v : Value} {ps : List Lan} (h : OwnLa T B w v ps) (p : Addr) (u : Value) (hp : p.block < B) : OwnLa T B (w.setCell p u) v ps := row_other h p u hp
theorem keepsOut_alloc (lo hi : Nat) (w : World) (o : Obj) : KeepsOut lo hi w (w.alloc o) := ⟨rfl, rfl, rfl, by simp, fun k hk _ => (by first | exact heap_alloc_old w o hk | exact heap_alloc_old w o k hk)⟩
/-- The numbers of a net fit, and its lanes are not too many for the laws. -/
structure FitN (st sy : Int) (L : List Lan) : Prop where
  s : -128 ≤ st ∧ st ≤ 127
  y : -32768 ≤ sy ∧ sy ≤ 32767
  l : FitsLa L
  n : L.length ≤ 1048576

set_option maxHeartbeats 1000000 in
theorem szNet_fit (st sy : Int) (a : Option Addr) (len cap : Nat) (l : Int) (h0 : 0 ≤ l - len) (h1 : l ≤ 1048576) (w : World) :
    Calls Try.prog 5 #[netV st sy (.slice a len cap), .int .i64 l] w fun e w' => e = .returned (.int .i64 (l - len)) ∧ Below w.heap.size w w' := by
  have t1 : decide (l - (len : Int) < 0) = false := by simp; omega
  go_enter Try.func5, Try.ntmps5
  go_wp2_with fail
  refine (szLaneS_fit a len cap l h0 h1 _).mono ?_
  rintro e w2 ⟨rfl, rfl⟩
  go_wp2_with fail
  go_ret
  exact ⟨rfl, (Below.refl _ _).alloc (Nat.le_refl _) _⟩
set_option maxHeartbeats 1000000 in
theorem szNet_big (st sy : Int) (a : Option Addr) (len cap : Nat) (l : Int) (hl : 0 ≤ l) (h0 : l - len < 0) (h1 : l ≤ 1048576) (hb : len ≤ 9223372036854775807) (w : World) :
    Calls Try.prog 5 #[netV st sy (.slice a len cap), .int .i64 l] w fun e w' => e = .returned (.int .i64 (-1)) ∧ Below w.heap.size w w' := by
  go_enter Try.func5, Try.ntmps5
  go_wp2_with fail
  refine (szLaneS_big a len cap l hl h0 h1 hb _).mono ?_
  rintro e w2 ⟨rfl, rfl⟩
  go_wp2_with fail
  go_ret
  exact ⟨rfl, (Below.refl _ _).alloc (Nat.le_refl _) _⟩

set_option maxHeartbeats 4000000 in
set_option maxRecDepth 100000 in
/-- toNet: the numbers as they are, the lanes in a new row. -/
theorem toNet_any (st sy : Int) (a : Option Addr) (len cap : Nat) (ps : List Lan) (w : World) (h : IsRowLa w a len cap ps) (hm : len ≤ 1048576) :
    Calls Try.prog 8 #[netV st sy (.slice a len cap)] w fun e w' => ∃ g : Nat, e = .returned (netV st sy (.slice (some ⟨g, 0, none⟩) len len)) ∧ OwnLa 105 w.heap.size w' (.slice (some ⟨g, 0, none⟩) len len) ps ∧ Below w.heap.size w w' := by
  have HH := Lib.hid h
  clear h
  go_enter Try.func8, Try.ntmps8
  go_wp2_with fail
  refine (toLaneS_any a len cap ps _ (HH.out.below (by repeat (first | exact Below.refl _ _ | refine Below.setCell ?_ (by first | (simp; done) | (simp; omega)) _ | refine Below.alloc ?_ (by first | (simp; done) | (simp; omega) | omega) _))) hm).mono ?_
  rintro e w2 ⟨rfl, o1, b1⟩
  have q1 := ((BlkA.new (n := w.heap.size + 1) (by simp) 35 #[.int .i8 0, .int .i16 0, .slice none 0 0]).alloc _).below b1
  have q2 := (BlkA.new (n := w.heap.size + 1 + 1) (by simp) 35 #[.int .i8 st, .int .i16 sy, .slice none 0 0]).below b1
  have c1 : Below w.heap.size w w2 := Below.trans (by repeat (first | exact Below.refl _ _ | refine Below.setCell ?_ (by first | (simp; done) | (simp; omega)) _ | refine Below.alloc ?_ (by first | (simp; done) | (simp; omega) | omega) _)) (b1.mono (by simp; omega))
  have hs2 : w.heap.size + 1 + 1 + 1 ≤ w2.heap.size := by have := b1.size; simp at this; omega
  simp only [World.size_alloc] at o1 ⊢
  have x0 : w2.cell? ⟨w.heap.size + 1 + 1, 0, none⟩ = some (.int .i8 st) := q2.at 0
  have x1 : w2.cell? ⟨w.heap.size + 1 + 1, 1, none⟩ = some (.int .i16 sy) := q2.at 1
  have x2 : w2.cell? ⟨w.heap.size + 1 + 1, 2, none⟩ = some (.slice none 0 0) := q2.at 2
  have f0 := q2.frozen 2
  have y0 : w2.cell? ⟨w.heap.size + 1, 0, none⟩ = some (.int .i8 0) := q1.at 0
  have y1 : w2.cell? ⟨w.heap.size + 1, 1, none⟩ = some (.int .i16 0) := q1.at 1
  have y2 : w2.cell? ⟨w.heap.size + 1, 2, none⟩ = some (.slice none 0 0) := q1.at 2
  have g0 := q1.frozen 0
  have g1 := q1.frozen 1
  have g2 := q1.frozen 2
  have Q1 := Lib.hid q1
  have Q2 := Lib.hid q2
  have O1 := Lib.hid o1
  have C1 := Lib.hid c1
  clear q1 q2 o1 c1 b1
  go_wp2_with fail
  have R1 := (((Q1.out.other ⟨w.heap.size + 1 + 1, 2, none⟩ (.slice (some ⟨w.heap.size + 1 + 1 + 1, 0, none⟩) len len) (by simp)).set 0 (.int .i8 st)).set 1 (.int .i16 sy)).set 2 (.slice (some ⟨w.heap.size + 1 + 1 + 1, 0, none⟩) len len)
  have e0 := R1.at 0
  have e1 := R1.at 1
  have e2 := R1.at 2
  simp at e0 e1 e2
  refine bodyPost_ret (v := netV st sy (.slice (some ⟨w.heap.size + 1 + 1 + 1, 0, none⟩) len len)) (by simp [results, Try.results8, go_sem, e0, e1, e2]) rfl ⟨w.heap.size + 1 + 1 + 1, rfl, ?_, (((C1.out.setCell (by simp; omega) _).setCell (by simp) _).setCell (by simp) _).setCell (by simp) _⟩
  exact ((((O1.out.other _ _ (by simp)).other _ _ (by simp)).other _ _ (by simp)).other _ _ (by simp)).mono (by omega)

set_option maxHeartbeats 4000000 in
set_option maxRecDepth 100000 in
/-- eqNet at the same numbers and lanes. -/
theorem eqNet_eq (st sy : Int) (v u : Value) (ps : List Lan) (w : World) (hv : ReadsLa w v ps) (hu : ReadsLa w u ps) (hx : ps.length ≤ 1048576) :
    Calls Try.prog 12 #[netV st sy v, netV st sy u] w fun e w' => e = .returned (.bool true) ∧ Below w.heap.size w w' := by
  have hb : ∀ X Y : Obj, Below w.heap.size w ((w.alloc X).alloc Y) := fun X Y => ((Below.refl _ _).alloc (Nat.le_refl _) X).alloc (by simp) Y
  have HV := Lib.hid hv
  have HU := Lib.hid hu
  have HBB := Lib.hid hb
  clear hv hu hb
  go_enter Try.func12, Try.ntmps12
  go_wp2_with fail
  refine (eqLaneS_eq v u ps _ (HV.out.below (HBB.out _ _)) (HU.out.below (HBB.out _ _)) hx).mono ?_
  rintro e w2 ⟨rfl, b2⟩
  go_wp2_with fail
  go_ret
  exact ⟨rfl, (HBB.out _ _).trans (b2.mono (by simp; omega))⟩

set_option maxHeartbeats 4000000 in
/-- markNet marks the lanes alone. -/
theorem markNet_any (T : TypeId) (B : Nat) (st sy : Int) (v : Value) (ps : List Lan) (k0 : Int) (w : World) (hown : OwnLa T B w v ps) (h0 : 0 ≤ k0) (h1 : k0 ≤ 16777216) (hx : ps.length ≤ 1048576) :
    Calls Try.prog 14 #[netV st sy v, .int .i64 k0] w fun e w' => e = .returned (.int .i64 (k0 + 4 * ps.length)) ∧ OwnLa T B w' v (iotaLa k0 ps.length) ∧ ∀ lo hi, (∀ k, v.ownBlock = some k → lo ≤ k ∧ k < hi) → KeepsOut lo hi w w' := by
  have HO := Lib.hid hown
  clear hown
  go_enter Try.func14, Try.ntmps14
  go_wp2_with fail
  refine (markLa_any T B v ps k0 _ (HO.out.below ((Below.refl _ _).alloc (Nat.le_refl _) _)) h0 h1 hx).mono ?_
  rintro e w2 ⟨rfl, o2, g2⟩
  go_wp2_with fail
  go_ret
  exact ⟨rfl, o2, fun lo hi h => (keepsOut_alloc _ _ w _).trans (keepsOut_grown g2 h)⟩

/-- A lane leads between two stations, and its hours are in order. -/
def okLa (st : Int) (c : Lan) : Prop := (0 ≤ c.1 ∧ c.1 ≤ st - 1) ∧ (0 ≤ c.2.1 ∧ c.2.1 ≤ st - 1) ∧ c.1 ≠ c.2.1 ∧ 1 ≤ c.2.2.1 ∧ c.2.2.1 ≤ c.2.2.2 ∧ c.2.2.2 ≤ 40
instance (st : Int) (c : Lan) : Decidable (okLa st c) := inferInstanceAs (Decidable (_ ∧ _))
def OkLaTo (st : Int) (cs : List Lan) (k : Nat) : Prop := ∀ i, i < k → okLa st (cs.getD i (0, 0, 0, 0))
theorem OkLaTo.zero (st : Int) (cs : List Lan) : OkLaTo st cs 0 := fun i hi => absurd hi (by omega)
theorem OkLaTo.succ {st : Int} {cs : List Lan} {k : Nat} (h : OkLaTo st cs k) (h1 : okLa st (cs.getD k (0, 0, 0, 0))) : OkLaTo st cs (k + 1) := fun i hi => by
  by_cases e : i = k
  · subst e; exact h1
  · exact h i (by omega)
instance (st : Int) (cs : List Lan) (k : Nat) : Decidable (OkLaTo st cs k) := inferInstanceAs (Decidable (∀ i, i < k → _))
/-- A net is valid. -/
def okNet (st sy : Int) (L : List Lan) : Prop := (1 ≤ st ∧ st ≤ 8) ∧ (0 ≤ sy ∧ sy ≤ 40) ∧ L.length ≤ 20 ∧ OkLaTo st L L.length
instance (st sy : Int) (L : List Lan) : Decidable (okNet st sy L) := inferInstanceAs (Decidable (_ ∧ _))
def vldN (st sy : Int) (L : List Lan) : Bool := decide (okNet st sy L)
theorem vldN_true {st sy : Int} {L : List Lan} (h : okNet st sy L) : vldN st sy L = true := decide_eq_true h
theorem vldN_false {st sy : Int} {L : List Lan} (h : ¬ okNet st sy L) : vldN st sy L = false := decide_eq_false h
theorem vldN_spec {st sy : Int} {L : List Lan} (h : vldN st sy L = true) : okNet st sy L := of_decide_eq_true h
theorem vldN_bad {st sy : Int} {L : List Lan} {k : Nat} (hk : k < L.length) (h : ¬ okLa st (L.getD k (0, 0, 0, 0))) : vldN st sy L = false := decide_eq_false fun q => h (q.2.2.2 k hk)
end Go.Proofs.Ytamnojhkfknnoaa
