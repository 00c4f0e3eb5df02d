/-
  Boxes: their sides in order; contracts of the laws' helpers on boxes, and of the model's sorting and checking.
-/
import Derived.Test.YtbclmafplaipaaaDoorIn
import Derived.StillTailTactics
import Derived.Laws.ResultCell
import Derived.Outline
import Derived.Test.YtbclmafplaipaaaDoorBlock
namespace Go.Proofs.YtbclmafplaipaaaDoor
open Go Go.RowKit
set_option linter.unusedVariables false

def lo3 (a b c : Int) : Int := min a (min b c)
def hi3 (a b c : Int) : Int := max a (max b c)
def mi3 (a b c : Int) : Int := a + b + c - lo3 a b c - hi3 a b c
theorem ord3 (a b c : Int) : lo3 a b c ≤ mi3 a b c ∧ mi3 a b c ≤ hi3 a b c := by unfold mi3 lo3 hi3; omega
/-- The sides in order are x, y, z. -/
def Ord3 (a b c x y z : Int) : Prop := lo3 a b c = x ∧ mi3 a b c = y ∧ hi3 a b c = z
/-- A box is valid. -/
def okB (a b c : Int) : Bool := decide (1 ≤ lo3 a b c ∧ hi3 a b c ≤ 60)
theorem okB_true {a b c : Int} (h : 1 ≤ a ∧ a ≤ 60 ∧ 1 ≤ b ∧ b ≤ 60 ∧ 1 ≤ c ∧ c ≤ 60) : okB a b c = true := decide_eq_true (by unfold lo3 hi3; omega)
theorem okB_false {a b c : Int} (h : ¬ (1 ≤ a ∧ a ≤ 60 ∧ 1 ≤ b ∧ b ≤ 60 ∧ 1 ≤ c ∧ c ≤ 60)) : okB a b c = false := decide_eq_false (by unfold lo3 hi3; omega)
theorem okB_spec {a b c : Int} (h : okB a b c = true) : 1 ≤ a ∧ a ≤ 60 ∧ 1 ≤ b ∧ b ≤ 60 ∧ 1 ≤ c ∧ c ≤ 60 := by
  have := of_decide_eq_true h; unfold lo3 hi3 at this; omega
/-- A side of eight bits. -/
def I8 (a : Int) : Prop := -128 ≤ a ∧ a ≤ 127
def I8s (a b c : Int) : Prop := I8 a ∧ I8 b ∧ I8 c

/-- Three cells of eight bits at the head of block B. -/
def At3 (w : World) (B : Nat) (a b c : Int) : Prop := w.cell? ⟨B, 0, none⟩ = some (.int .i8 a) ∧ w.cell? ⟨B, 1, none⟩ = some (.int .i8 b) ∧ w.cell? ⟨B, 2, none⟩ = some (.int .i8 c)
theorem At3.below {w w' : World} {B : Nat} {a b c : Int} (h : At3 w B a b c) (hb : Below w.heap.size w w') : At3 w' B a b c := by
  obtain ⟨h0, h1, h2⟩ := h
  have hB := World.block_lt_of_cell? w _ h0
  exact ⟨(hb.cell (p := ⟨B, 0, none⟩) hB).trans h0, (hb.cell (p := ⟨B, 1, none⟩) hB).trans h1, (hb.cell (p := ⟨B, 2, none⟩) hB).trans h2⟩
theorem At3.alloc {w : World} {B : Nat} {a b c : Int} (h : At3 w B a b c) (o : Obj) : At3 (w.alloc o) B a b c := h.below ((Below.refl _ _).alloc (Nat.le_refl _) _)
/-- Block B is three cells of eight bits. -/
def Blk3 (w : World) (B : Nat) (T : TypeId) (a b c : Int) : Prop := w.heap[B]? = some (.cells #[.int .i8 a, .int .i8 b, .int .i8 c] T (0, 0))
theorem Blk3.at3 {w : World} {B : Nat} {T : TypeId} {a b c : Int} (h : Blk3 w B T a b c) : At3 w B a b c :=
  ⟨cell_of_row w B 0 _ T (0, 0) h, cell_of_row w B 1 _ T (0, 0) h, cell_of_row w B 2 _ T (0, 0) h⟩
theorem Blk3.frozen {w : World} {B : Nat} {T : TypeId} {a b c : Int} (h : Blk3 w B T a b c) (i : Nat) : w.frozen? ⟨B, i, none⟩ = false := frozen_of_row w B i _ T h
theorem Blk3.new (w : World) (T : TypeId) (a b c : Int) : Blk3 (w.alloc (.cells #[.int .i8 a, .int .i8 b, .int .i8 c] T)) w.heap.size T a b c := heap_alloc_new w _
theorem At3.new (w : World) (T : TypeId) (a b c : Int) : At3 (w.alloc (.cells #[.int .i8 a, .int .i8 b, .int .i8 c] T)) w.heap.size a b c := (Blk3.new w T a b c).at3

set_option maxHeartbeats 1000000 in
theorem eqBox_same (a b c : Int) (w : World) :
    Calls Tryd.prog 66 #[.agg #[.int .i8 a, .int .i8 b, .int .i8 c], .agg #[.int .i8 a, .int .i8 b, .int .i8 c]] w fun e w' => e = .returned (.bool true) ∧ Below w.heap.size w w' := by
  go_enter Tryd.func66, Tryd.ntmps66
  go_wp2
  go_ret
  exact ⟨rfl, by repeat (first | exact Below.refl _ _ | refine Below.drew ?_ | refine Below.alloc ?_ (by first | (simp; done) | (simp; omega)) _)⟩

set_option maxHeartbeats 2000000 in
theorem sok_any (a b c : Int) (w : World) (ha : I8s a b c) :
    Calls Tryd.prog 119 #[.agg #[.int .i8 a, .int .i8 b, .int .i8 c]] w fun e w' => e = .returned (.bool (okB a b c)) ∧ Below w.heap.size w w' := by
  obtain ⟨⟨a1, a2⟩, ⟨b1, b2⟩, ⟨c1, c2⟩⟩ := ha
  by_cases t1 : 1 ≤ a ∧ a ≤ 60
  · have g1 := inB_true t1
    by_cases t2 : 1 ≤ b ∧ b ≤ 60
    · have g2 := inB_true t2
      by_cases t3 : 1 ≤ c ∧ c ≤ 60
      · have g3 := inB_true t3
        have HO := Lib.hid (okB_true (a := a) (b := b) (c := c) ⟨t1.1, t1.2, t2.1, t2.2, t3.1, t3.2⟩)
        clear t1 t2 t3
        go_enter Tryd.func119, Tryd.ntmps119
        go_wp2_with (go_at_call 115; refine (in_any _ _ _ _).mono ?_; rintro e w2 ⟨rfl, hw2⟩; subst hw2)
        go_ret
        exact ⟨(ret_bool HO.out).symm, by repeat (first | exact Below.refl _ _ | refine Below.drew ?_ | refine Below.alloc ?_ (by first | (simp; done) | (simp; omega)) _)⟩
      · have g3 := inB_false t3
        have HO := Lib.hid (okB_false (a := a) (b := b) (c := c) (by omega))
        clear t1 t2 t3
        go_enter Tryd.func119, Tryd.ntmps119
        go_wp2_with (go_at_call 115; refine (in_any _ _ _ _).mono ?_; rintro e w2 ⟨rfl, hw2⟩; subst hw2)
        go_ret
        exact ⟨(ret_bool HO.out).symm, by repeat (first | exact Below.refl _ _ | refine Below.drew ?_ | refine Below.alloc ?_ (by first | (simp; done) | (simp; omega)) _)⟩
    · have g2 := inB_false t2
      have HO := Lib.hid (okB_false (a := a) (b := b) (c := c) (by omega))
      clear t1 t2
      go_enter Tryd.func119, Tryd.ntmps119
      go_wp2_with (go_at_call 115; refine (in_any _ _ _ _).mono ?_; rintro e w2 ⟨rfl, hw2⟩; subst hw2)
      go_ret
      exact ⟨(ret_bool HO.out).symm, by repeat (first | exact Below.refl _ _ | refine Below.drew ?_ | refine Below.alloc ?_ (by first | (simp; done) | (simp; omega)) _)⟩
  · have g1 := inB_false t1
    have HO := Lib.hid (okB_false (a := a) (b := b) (c := c) (by omega))
    clear t1
    go_enter Tryd.func119, Tryd.ntmps119
    go_wp2_with (go_at_call 115; refine (in_any _ _ _ _).mono ?_; rintro e w2 ⟨rfl, hw2⟩; subst hw2)
    go_ret
    exact ⟨(ret_bool HO.out).symm, by repeat (first | exact Below.refl _ _ | refine Below.drew ?_ | refine Below.alloc ?_ (by first | (simp; done) | (simp; omega)) _)⟩

end Go.Proofs.YtbclmafplaipaaaDoor
