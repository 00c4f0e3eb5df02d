/-
  What the walks of laws over tables share: what is known of a table's numbers, and what a drawn region keeps.
-/
import Derived.Test.YtnjhkmoinlikiaaDoorVldI
import Derived.Test.YtnjhkmoinlikiaaDoorTabO
import Derived.Deep.RegionHeld3
namespace Go.Proofs.YtnjhkmoinlikiaaDoor
open Go Go.RowKit
set_option linter.unusedVariables false

theorem ret_eq {a b : Value} (h : b = a) : Ending.returned a = .returned b := by rw [h]
theorem cbelow {w z : World} (b : Below w.heap.size w z) {p : Addr} {v : Value} (h : w.cell? p = some v) : z.cell? p = some v := by rw [b.cell (World.block_lt_of_cell? w _ h)]; exact h
theorem allocB (w : World) (o : Obj) : Below w.heap.size w (w.alloc o) := (Below.refl _ _).alloc (Nat.le_refl _) _
/-- The numbers of a table that is not too long. -/
structure TabOk (S : List Int) (R : List (List Int)) : Prop where
  s16 : All16 S
  r16 : AllR R
  sl : S.length ≤ 1048576
  rl : R.length ≤ 1048576
  rr : ∀ j, j < R.length → (R.getD j []).length ≤ 1048576
theorem IsTab.ok {w : World} {v : Value} {S : List Int} {R : List (List Int)} (h : IsTab w v S R) {l : Int} (hl : l ≤ 1048576) (hs : 0 ≤ szT l S R) : TabOk S R := by
  obtain ⟨l1, l2, l3⟩ := szT_le hs
  exact ⟨h.all16.1, h.all16.2, by omega, by omega, fun j hj => by have := l3 j hj; omega⟩
theorem szT_bound {l : Int} {S : List Int} {R : List (List Int)} (h1 : l ≤ 1048576) : szT l S R ≤ 1048576 := by
  unfold szT
  split
  · unfold szM
    split
    · omega
    · omega
  · omega
theorem toT_ok (v : Value) (S : List Int) (R : List (List Int)) (w : World) (h : IsTab w v S R) (k : TabOk S R) :
    Calls Tryd.prog 14 #[v] w fun e w' => ∃ u, e = .returned u ∧ OwnT w.heap.size w' u S R ∧ Below w.heap.size w w' := toT_any v S R w h k.sl k.rl k.rr
theorem eqT_ok (v u : Value) (S : List Int) (R : List (List Int)) (w : World) (hv : ReadsT w v S R) (hu : ReadsT w u S R) (k : TabOk S R) :
    Calls Tryd.prog 18 #[v, u] w fun e w' => e = .returned (.bool true) ∧ Below w.heap.size w w' := eqT_any v u S R w hv hu k.sl k.rl k.rr
theorem keepT1 {w0 v z : World} {B : Nat} {a0 a1 : Value} (b : Below v.heap.size v z)
    (h : v.cell? ⟨B, 0, none⟩ = some a0 ∧ v.cell? ⟨B, 1, none⟩ = some a1 ∧ Hid (Below w0.heap.size w0 v)) :
    z.cell? ⟨B, 0, none⟩ = some a0 ∧ z.cell? ⟨B, 1, none⟩ = some a1 ∧ Hid (Below w0.heap.size w0 z) := by
  obtain ⟨h0, h1, h4⟩ := h
  exact ⟨by rw [b.cell (World.block_lt_of_cell? v _ h0)]; exact h0, by rw [b.cell (World.block_lt_of_cell? v _ h1)]; exact h1, Lib.hid (blink h4.out b)⟩
theorem kb1 {w0 v : World} {B : Nat} {a0 a1 : Value} (h : v.cell? ⟨B, 0, none⟩ = some a0 ∧ v.cell? ⟨B, 1, none⟩ = some a1 ∧ Hid (Below w0.heap.size w0 v)) : Below w0.heap.size w0 v := h.2.2.out
theorem keepT2 {w0 v z : World} {B X : Nat} {a0 a1 b0 b1 : Value} (b : Below v.heap.size v z)
    (h : v.cell? ⟨B, 0, none⟩ = some a0 ∧ v.cell? ⟨B, 1, none⟩ = some a1 ∧ v.cell? ⟨X, 0, none⟩ = some b0 ∧ v.cell? ⟨X, 1, none⟩ = some b1 ∧ Hid (Below w0.heap.size w0 v)) :
    z.cell? ⟨B, 0, none⟩ = some a0 ∧ z.cell? ⟨B, 1, none⟩ = some a1 ∧ z.cell? ⟨X, 0, none⟩ = some b0 ∧ z.cell? ⟨X, 1, none⟩ = some b1 ∧ Hid (Below w0.heap.size w0 z) := by
  obtain ⟨h0, h1, h2, h3, h4⟩ := h
  exact ⟨by rw [b.cell (World.block_lt_of_cell? v _ h0)]; exact h0, by rw [b.cell (World.block_lt_of_cell? v _ h1)]; exact h1, by rw [b.cell (World.block_lt_of_cell? v _ h2)]; exact h2, by rw [b.cell (World.block_lt_of_cell? v _ h3)]; exact h3, Lib.hid (blink h4.out b)⟩
theorem kb2 {w0 v : World} {B X : Nat} {a0 a1 b0 b1 : Value}
    (h : v.cell? ⟨B, 0, none⟩ = some a0 ∧ v.cell? ⟨B, 1, none⟩ = some a1 ∧ v.cell? ⟨X, 0, none⟩ = some b0 ∧ v.cell? ⟨X, 1, none⟩ = some b1 ∧ Hid (Below w0.heap.size w0 v)) : Below w0.heap.size w0 v := h.2.2.2.2.out
theorem keepT4 {w0 v z : World} {B X C Y : Nat} {a0 a1 b0 b1 c0 c1 d0 d1 : Value} (b : Below v.heap.size v z)
    (h : v.cell? ⟨B, 0, none⟩ = some a0 ∧ v.cell? ⟨B, 1, none⟩ = some a1 ∧ v.cell? ⟨X, 0, none⟩ = some b0 ∧ v.cell? ⟨X, 1, none⟩ = some b1 ∧ v.cell? ⟨C, 0, none⟩ = some c0 ∧ v.cell? ⟨C, 1, none⟩ = some c1 ∧ v.cell? ⟨Y, 0, none⟩ = some d0 ∧ v.cell? ⟨Y, 1, none⟩ = some d1 ∧ Hid (Below w0.heap.size w0 v)) :
    z.cell? ⟨B, 0, none⟩ = some a0 ∧ z.cell? ⟨B, 1, none⟩ = some a1 ∧ z.cell? ⟨X, 0, none⟩ = some b0 ∧ z.cell? ⟨X, 1, none⟩ = some b1 ∧ z.cell? ⟨C, 0, none⟩ = some c0 ∧ z.cell? ⟨C, 1, none⟩ = some c1 ∧ z.cell? ⟨Y, 0, none⟩ = some d0 ∧ z.cell? ⟨Y, 1, none⟩ = some d1 ∧ Hid (Below w0.heap.size w0 z) := by
  obtain ⟨h0, h1, h2, h3, g0, g1, g2, g3, h4⟩ := h
  exact ⟨by rw [b.cell (World.block_lt_of_cell? v _ h0)]; exact h0, by rw [b.cell (World.block_lt_of_cell? v _ h1)]; exact h1, by rw [b.cell (World.block_lt_of_cell? v _ h2)]; exact h2, by rw [b.cell (World.block_lt_of_cell? v _ h3)]; exact h3, by rw [b.cell (World.block_lt_of_cell? v _ g0)]; exact g0, by rw [b.cell (World.block_lt_of_cell? v _ g1)]; exact g1, by rw [b.cell (World.block_lt_of_cell? v _ g2)]; exact g2, by rw [b.cell (World.block_lt_of_cell? v _ g3)]; exact g3, Lib.hid (blink h4.out b)⟩
theorem kb4 {w0 v : World} {B X C Y : Nat} {a0 a1 b0 b1 c0 c1 d0 d1 : Value}
    (h : v.cell? ⟨B, 0, none⟩ = some a0 ∧ v.cell? ⟨B, 1, none⟩ = some a1 ∧ v.cell? ⟨X, 0, none⟩ = some b0 ∧ v.cell? ⟨X, 1, none⟩ = some b1 ∧ v.cell? ⟨C, 0, none⟩ = some c0 ∧ v.cell? ⟨C, 1, none⟩ = some c1 ∧ v.cell? ⟨Y, 0, none⟩ = some d0 ∧ v.cell? ⟨Y, 1, none⟩ = some d1 ∧ Hid (Below w0.heap.size w0 v)) : Below w0.heap.size w0 v := h.2.2.2.2.2.2.2.2.out
/-- Each number fits 64 bits. -/
def All64 (xs : List Int) : Prop := ∀ x ∈ xs, -9223372036854775808 ≤ x ∧ x ≤ 9223372036854775807
theorem All64.get {xs : List Int} (h : All64 xs) (i : Nat) (hi : i < xs.length) : -9223372036854775808 ≤ xs.getD i 0 ∧ xs.getD i 0 ≤ 9223372036854775807 := by
  have := h (xs[i]) (List.getElem_mem _)
  simpa [List.getD, hi] using this
theorem IsRow.all64 {w : World} {a : Option Addr} {len cap : Nat} {z : List Int} (h : IsRow .i64 w a len cap z) : All64 (z.take len) := by
  rcases h with ⟨_, _, _, rfl⟩ | ⟨x, rfl, h1, h2, h3, h4, h5⟩
  · intro x hx; simp at hx
  · intro n hn
    have := h5 n (List.mem_of_mem_take hn)
    simp [Lit.wf, IntKind.min, IntKind.max, IntKind.signed, IntKind.bits] at this
    omega
theorem wf64 {n : Int} (h : (Lit.int .i64 n).wf = true) : -9223372036854775808 ≤ n ∧ n ≤ 9223372036854775807 := by
  simp [Lit.wf, IntKind.min, IntKind.max, IntKind.signed, IntKind.bits] at h
  omega

theorem ivalT_ok (v : Value) (S : List Int) (R : List (List Int)) (w : World) (hv : ReadsT w v S R) (k : TabOk S R) :
    Calls Tryd.prog 15 #[v] w fun e w' => e = .returned (.bool (vldT S R)) ∧ Below w.heap.size w w' := ivalT_any v S R w hv k.sl k.rl k.rr
end Go.Proofs.YtnjhkmoinlikiaaDoor
