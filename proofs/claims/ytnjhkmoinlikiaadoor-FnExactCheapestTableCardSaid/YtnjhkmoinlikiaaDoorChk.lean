/-
  The first checks of every function over a table: on both sides.
-/
import Derived.Test.YtnjhkmoinlikiaaDoorTabK
import Derived.Test.YtnjhkmoinlikiaaDoorErrs
namespace Go.Proofs.YtnjhkmoinlikiaaDoor
open Go Go.RowKit
set_option linter.unusedVariables false

/-- A table lies at block B. -/
def AtT (w : World) (B : Nat) (S : List Int) (R : List (List Int)) : Prop := ∃ T x y, Blk2 w B T x y ∧ ReadsH w x S ∧ ReadsM w y R
theorem AtT.below {w w' : World} {B : Nat} {S : List Int} {R : List (List Int)} (h : AtT w B S R) (hb : Below w.heap.size w w') : AtT w' B S R := by
  obtain ⟨T, x, y, h1, h2, h3⟩ := h
  exact ⟨T, x, y, h1.below hb, h2.below hb, h3.below hb⟩
theorem AtT.lt {w : World} {B : Nat} {S : List Int} {R : List (List Int)} (h : AtT w B S R) : B < w.heap.size := by
  obtain ⟨T, x, y, h1, h2, h3⟩ := h
  exact h1.lt
theorem AtT.box {w : World} {v1 v2 : Value} {T : TypeId} {S : List Int} {R : List (List Int)} (h1 : ReadsH w v1 S) (h2 : ReadsM w v2 R) : AtT (w.alloc (.cells #[v1, v2] T)) w.heap.size S R :=
  ⟨T, v1, v2, Blk2.new rfl _ _ _, h1.below (allocB _ _), h2.below (allocB _ _)⟩
theorem AtT.cells {w : World} {B : Nat} {S : List Int} {R : List (List Int)} (h : AtT w B S R) :
    ∃ a cap b c2, w.cell? ⟨B, 0, none⟩ = some (.slice a S.length cap) ∧ w.cell? ⟨B, 1, none⟩ = some (.slice b R.length c2) ∧ (S ≠ [] → ∃ g, a = some ⟨g, 0, none⟩ ∧ CellsH w g S) ∧
      (R ≠ [] → ∃ g, b = some ⟨g, 0, none⟩ ∧ ∀ j, j < R.length → ∃ u, w.cell? ⟨g, j, none⟩ = some u ∧ ReadsH w u (R.getD j [])) := by
  obtain ⟨T, x, y, h1, ⟨a, cap, rfl, h2⟩, ⟨b, c2, rfl, h3⟩⟩ := h
  exact ⟨a, cap, b, c2, h1.at0, h1.at1, h2, h3⟩
theorem sok_at (B : Nat) (S : List Int) (R : List (List Int)) (w : World) (h : AtT w B S R) (k : TabOk S R) :
    Calls Tryd.prog 10 #[.pointer (some ⟨B, 0, none⟩)] w fun e w' => e = .returned (.bool (vldT S R)) ∧ Below w.heap.size w w' := by
  obtain ⟨T, x, y, h1, h2, h3⟩ := h
  exact sok_any B T x y S R w h1 h2 h3 k.s16 k.r16 k.sl k.rl k.rr

theorem sweight_any (n : Int) (w : World) : Calls Tryd.prog 11 #[.int .i64 n] w fun e w' => e = .returned (.bool (inB n 1 2000)) ∧ w' = w := by
  go_enter Tryd.func11, Tryd.ntmps11
  go_wp2_with fail
  refine (in_any n 1 2000 _).mono ?_
  rintro e w2 ⟨rfl, hw⟩
  subst hw
  go_wp2_with fail
  go_ret
  exact ⟨rfl, rfl⟩

theorem szone_any (B : Nat) (S : List Int) (R : List (List Int)) (z : Int) (w : World) (h : AtT w B S R) (hm : R.length ≤ 1048576) :
    Calls Tryd.prog 12 #[.pointer (some ⟨B, 0, none⟩), .int .i64 z] w fun e w' => e = .returned (.bool (inB z 0 (R.length - 1))) ∧ w' = w := by
  obtain ⟨a, cap, b, c2, c0, c1, _, _⟩ := h.cells
  clear h
  obtain ⟨m, hm'⟩ : ∃ m, R.length = m := ⟨_, rfl⟩
  rw [hm'] at hm c1 ⊢
  clear hm'
  go_enter Tryd.func12, Tryd.ntmps12
  go_wp2_with fail
  refine (in_any z 0 ((m : Int) - 1) _).mono ?_
  rintro e w2 ⟨rfl, hw⟩
  subst hw
  go_wp2_with fail
  go_ret
  exact ⟨rfl, rfl⟩

/-- The code of a table, a zone of it, and whether numbers are as told. -/
def asked (S : List Int) (R : List (List Int)) (z : Int) (fine : Bool) : Int :=
  if vldT S R = false then 1 else if inB z 0 (R.length - 1) = false ∨ fine = false then 2 else 0
theorem asked_1 {S : List Int} {R : List (List Int)} (z : Int) (fine : Bool) (h : vldT S R = false) : asked S R z fine = 1 := if_pos h
theorem asked_2 {S : List Int} {R : List (List Int)} {z : Int} {fine : Bool} (h : vldT S R = true) (h2 : inB z 0 (R.length - 1) = false ∨ fine = false) : asked S R z fine = 2 := by
  unfold asked; rw [if_neg (by rw [h]; simp), if_pos h2]
theorem asked_0 {S : List Int} {R : List (List Int)} {z : Int} {fine : Bool} (h : vldT S R = true) (h2 : inB z 0 (R.length - 1) = true) (h3 : fine = true) : asked S R z fine = 0 := by
  unfold asked; rw [if_neg (by rw [h]; simp), if_neg (by rw [h2, h3]; simp)]

theorem reaches_any (v : Value) (S : List Int) (R : List (List Int)) (z : Int) (w : World) (hv : ReadsT w v S R) (hm : R.length ≤ 1048576) :
    Calls Tryd.prog 16 #[v, .int .i64 z] w fun e w' => e = .returned (.bool (decide (z < R.length))) ∧ Below w.heap.size w w' := by
  obtain ⟨v1, v2, rfl, h1, ⟨b, c2, rfl, h2⟩⟩ := hv
  clear h1 h2
  obtain ⟨m, hm'⟩ : ∃ m, R.length = m := ⟨_, rfl⟩
  rw [hm'] at hm ⊢
  clear hm'
  go_enter Tryd.func16, Tryd.ntmps16
  go_wp2_with fail
  go_ret
  exact ⟨rfl, allocB _ _⟩

/-- The code of a table, a zone of it, and weights in their range and number. -/
def chk (S : List Int) (R : List (List Int)) (z : Int) (ws : List Int) : Int :=
  if vldT S R = false then 1 else if inB z 0 (R.length - 1) = false ∨ betwB ws 1 2000 = false then 2 else if 8 < ws.length then 3 else 0
theorem chk_1 {S : List Int} {R : List (List Int)} (z : Int) (ws : List Int) (h : vldT S R = false) : chk S R z ws = 1 := if_pos h
theorem chk_2 {S : List Int} {R : List (List Int)} {z : Int} {ws : List Int} (h : vldT S R = true) (h2 : inB z 0 (R.length - 1) = false ∨ betwB ws 1 2000 = false) : chk S R z ws = 2 := by
  unfold chk; rw [if_neg (by rw [h]; simp), if_pos h2]
theorem chk_3 {S : List Int} {R : List (List Int)} {z : Int} {ws : List Int} (h : vldT S R = true) (h2 : inB z 0 (R.length - 1) = true) (h3 : betwB ws 1 2000 = true) (h4 : 8 < ws.length) : chk S R z ws = 3 := by
  unfold chk; rw [if_neg (by rw [h]; simp), if_neg (by rw [h2, h3]; simp), if_pos h4]
theorem chk_0 {S : List Int} {R : List (List Int)} {z : Int} {ws : List Int} (h : vldT S R = true) (h2 : inB z 0 (R.length - 1) = true) (h3 : betwB ws 1 2000 = true) (h4 : ¬ 8 < ws.length) : chk S R z ws = 0 := by
  unfold chk; rw [if_neg (by rw [h]; simp), if_neg (by rw [h2, h3]; simp), if_neg h4]
theorem chk_cases (S : List Int) (R : List (List Int)) (z : Int) (ws : List Int) : chk S R z ws = 0 ∨ chk S R z ws = 1 ∨ chk S R z ws = 2 ∨ chk S R z ws = 3 := by
  unfold chk; split
  · simp
  · split
    · simp
    · split <;> simp
theorem chk_spec {S : List Int} {R : List (List Int)} {z : Int} {ws : List Int} (h : chk S R z ws = 0) : vldT S R = true ∧ inB z 0 (R.length - 1) = true ∧ betwB ws 1 2000 = true ∧ ws.length ≤ 8 := by
  unfold chk at h
  split at h
  · simp at h
  · rename_i h1
    split at h
    · simp at h
    · rename_i h2
      split at h
      · simp at h
      · rename_i h3
        simp only [not_or, Bool.not_eq_false] at h1 h2
        exact ⟨h1, h2.1, h2.2, by omega⟩
theorem inB_spec {n lo hi : Int} (h : inB n lo hi = true) : lo ≤ n ∧ n ≤ hi := of_decide_eq_true h
/-- The error of a code. -/
def errOf (a0 a1 a2 : Addr) (c : Int) : Value :=
  if c = 0 then .nilIface else if c = 1 then .iface 61 (.pointer (some a0)) else if c = 2 then .iface 61 (.pointer (some a1)) else .iface 61 (.pointer (some a2))

end Go.Proofs.YtnjhkmoinlikiaaDoor
