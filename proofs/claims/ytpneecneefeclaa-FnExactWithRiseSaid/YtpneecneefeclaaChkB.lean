/-
  The model's first checks of a table (copy of XChk's beginning, without the errors).
-/
import Derived.Test.YtpneecneefeclaaTabK
namespace Go.Proofs.Ytpneecneefeclaa
open Go Go.RowKit
set_option linter.unusedVariables false

/-- A table lies at block B. -/
def AtT (w : World) (B : Nat) (S : List Int) (R : List (List Int)) : Prop := ∃ T x y, Blk2 w B T x y ∧ ReadsH w x S ∧ ReadsM w y R
theorem AtT.below {w w' : World} {B : Nat} {S : List Int} {R : List (List Int)} (h : AtT w B S R) (hb : Below w.heap.size w w') : AtT w' B S R := by
  obtain ⟨T, x, y, h1, h2, h3⟩ := h
  exact ⟨T, x, y, h1.below hb, h2.below hb, h3.below hb⟩
theorem AtT.lt {w : World} {B : Nat} {S : List Int} {R : List (List Int)} (h : AtT w B S R) : B < w.heap.size := by
  obtain ⟨T, x, y, h1, h2, h3⟩ := h
  exact h1.lt
theorem AtT.box {w : World} {v1 v2 : Value} {T : TypeId} {S : List Int} {R : List (List Int)} (h1 : ReadsH w v1 S) (h2 : ReadsM w v2 R) : AtT (w.alloc (.cells #[v1, v2] T)) w.heap.size S R :=
  ⟨T, v1, v2, Blk2.new rfl _ _ _, h1.below (allocB _ _), h2.below (allocB _ _)⟩
theorem AtT.cells {w : World} {B : Nat} {S : List Int} {R : List (List Int)} (h : AtT w B S R) :
    ∃ a cap b c2, w.cell? ⟨B, 0, none⟩ = some (.slice a S.length cap) ∧ w.cell? ⟨B, 1, none⟩ = some (.slice b R.length c2) ∧ (S ≠ [] → ∃ g, a = some ⟨g, 0, none⟩ ∧ CellsH w g S) ∧
      (R ≠ [] → ∃ g, b = some ⟨g, 0, none⟩ ∧ ∀ j, j < R.length → ∃ u, w.cell? ⟨g, j, none⟩ = some u ∧ ReadsH w u (R.getD j [])) := by
  obtain ⟨T, x, y, h1, ⟨a, cap, rfl, h2⟩, ⟨b, c2, rfl, h3⟩⟩ := h
  exact ⟨a, cap, b, c2, h1.at0, h1.at1, h2, h3⟩
theorem sok_at (B : Nat) (S : List Int) (R : List (List Int)) (w : World) (h : AtT w B S R) (k : TabOk S R) :
    Calls Try.prog 25 #[.pointer (some ⟨B, 0, none⟩)] w fun e w' => e = .returned (.bool (vldT S R)) ∧ Below w.heap.size w w' := by
  obtain ⟨T, x, y, h1, h2, h3⟩ := h
  exact sok_any B T x y S R w h1 h2 h3 k.s16 k.r16 k.sl k.rl k.rr

theorem szone_any (B : Nat) (S : List Int) (R : List (List Int)) (z : Int) (w : World) (h : AtT w B S R) (hm : R.length ≤ 1048576) :
    Calls Try.prog 26 #[.pointer (some ⟨B, 0, none⟩), .int .i64 z] w fun e w' => e = .returned (.bool (inB z 0 (R.length - 1))) ∧ w' = w := by
  obtain ⟨a, cap, b, c2, c0, c1, _, _⟩ := h.cells
  clear h
  obtain ⟨m, hm'⟩ : ∃ m, R.length = m := ⟨_, rfl⟩
  rw [hm'] at hm c1 ⊢
  clear hm'
  go_enter Try.func26, Try.ntmps26
  go_wp2_with fail
  refine (in_any z 0 ((m : Int) - 1) _).mono ?_
  rintro e w2 ⟨rfl, hw⟩
  subst hw
  go_wp2_with fail
  go_ret
  exact ⟨rfl, rfl⟩

/-- The code of a table, a zone of it, and whether numbers are as told. -/
def asked (S : List Int) (R : List (List Int)) (z : Int) (fine : Bool) : Int :=
  if vldT S R = false then 1 else if inB z 0 (R.length - 1) = false ∨ fine = false then 2 else 0
theorem asked_1 {S : List Int} {R : List (List Int)} (z : Int) (fine : Bool) (h : vldT S R = false) : asked S R z fine = 1 := if_pos h
theorem asked_2 {S : List Int} {R : List (List Int)} {z : Int} {fine : Bool} (h : vldT S R = true) (h2 : inB z 0 (R.length - 1) = false ∨ fine = false) : asked S R z fine = 2 := by
  unfold asked; rw [if_neg (by rw [h]; simp), if_pos h2]
theorem asked_0 {S : List Int} {R : List (List Int)} {z : Int} {fine : Bool} (h : vldT S R = true) (h2 : inB z 0 (R.length - 1) = true) (h3 : fine = true) : asked S R z fine = 0 := by
  unfold asked; rw [if_neg (by rw [h]; simp), if_neg (by rw [h2, h3]; simp)]

set_option maxHeartbeats 2000000 in
theorem asked_any (B : Nat) (S : List Int) (R : List (List Int)) (z : Int) (fine : Bool) (w : World) (h : AtT w B S R) (k : TabOk S R) :
    Calls Try.prog 13 #[.pointer (some ⟨B, 0, none⟩), .int .i64 z, .bool fine] w fun e w' => e = .returned (.int .i64 (asked S R z fine)) ∧ Below w.heap.size w w' := by
  have H := Lib.hid h
  have K := Lib.hid k
  clear h k
  by_cases hv : vldT S R = true
  · have HV := Lib.hid hv
    clear hv
    by_cases hz : inB z 0 (R.length - 1) = true
    · have HZ := Lib.hid hz
      clear hz
      cases fine
      · have HA : Hid (asked S R z false = 2) := Lib.hid (asked_2 HV.out (.inr rfl))
        go_enter Try.func13, Try.ntmps13
        go_wp2_with fail
        refine (sok_at B S R _ H.out K.out).mono ?_
        rintro e w2 ⟨rfl, b2⟩
        rw [HV.out]
        have B2 := Lib.hid b2
        clear b2
        go_wp2_with fail
        refine (szone_any B S R z _ (H.out.below B2.out) K.out.rl).mono ?_
        rintro e w3 ⟨rfl, hw⟩
        subst hw
        rw [HZ.out]
        go_wp2_with fail
        go_ret
        exact ⟨ret_int HA.out.symm, B2.out⟩
      · have HA : Hid (asked S R z true = 0) := Lib.hid (asked_0 HV.out HZ.out rfl)
        go_enter Try.func13, Try.ntmps13
        go_wp2_with fail
        refine (sok_at B S R _ H.out K.out).mono ?_
        rintro e w2 ⟨rfl, b2⟩
        rw [HV.out]
        have B2 := Lib.hid b2
        clear b2
        go_wp2_with fail
        refine (szone_any B S R z _ (H.out.below B2.out) K.out.rl).mono ?_
        rintro e w3 ⟨rfl, hw⟩
        subst hw
        rw [HZ.out]
        go_wp2_with fail
        go_ret
        exact ⟨ret_int HA.out.symm, B2.out⟩
    · have HZ : Hid (inB z 0 (R.length - 1) = false) := Lib.hid (by simpa using hz)
      clear hz
      have HA : Hid (asked S R z fine = 2) := Lib.hid (asked_2 HV.out (.inl HZ.out))
      go_enter Try.func13, Try.ntmps13
      go_wp2_with fail
      refine (sok_at B S R _ H.out K.out).mono ?_
      rintro e w2 ⟨rfl, b2⟩
      rw [HV.out]
      have B2 := Lib.hid b2
      clear b2
      go_wp2_with fail
      refine (szone_any B S R z _ (H.out.below B2.out) K.out.rl).mono ?_
      rintro e w3 ⟨rfl, hw⟩
      subst hw
      rw [HZ.out]
      go_wp2_with fail
      go_ret
      exact ⟨ret_int HA.out.symm, B2.out⟩
  · have HV : Hid (vldT S R = false) := Lib.hid (by simpa using hv)
    clear hv
    have HA : Hid (asked S R z fine = 1) := Lib.hid (asked_1 z fine HV.out)
    go_enter Try.func13, Try.ntmps13
    go_wp2_with fail
    refine (sok_at B S R _ H.out K.out).mono ?_
    rintro e w2 ⟨rfl, b2⟩
    rw [HV.out]
    have B2 := Lib.hid b2
    clear b2
    go_wp2_with fail
    go_ret
    exact ⟨ret_int HA.out.symm, B2.out⟩

end Go.Proofs.Ytpneecneefeclaa
