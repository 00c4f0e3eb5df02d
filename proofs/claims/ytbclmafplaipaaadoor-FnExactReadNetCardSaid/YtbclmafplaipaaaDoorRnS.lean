/-
  Reading the text of a net: the model's pairs of numbers.
-/
import Derived.Test.YtbclmafplaipaaaDoorRnP
import Derived.Test.YtbclmafplaipaaaDoorRdS
namespace Go.Proofs.YtbclmafplaipaaaDoor
open Go Go.RowKit
set_option linter.unusedVariables false

/-- Two numbers read, and whether there are two. -/
def RetTwo (w : World) (r : Option (Int × Int)) (e : Ending) (w' : World) : Prop := ∃ x y b, e = .returned (.tuple #[.int .i64 x, .int .i64 y, .bool b]) ∧ (0 ≤ x ∧ x < 1000000000) ∧ (0 ≤ y ∧ y < 1000000000) ∧ ((b = true ∧ r = some (x, y)) ∨ (b = false ∧ r = none)) ∧ Below w.heap.size w w'
theorem num_lt9 (l : List UInt8) : ((num l).getD 0) < 1000000000 := by
  cases h : num l with
  | none => decide
  | some n => exact (num_spec h).2
theorem ownW_cells {w : World} {B n : Nat} {a : Option Addr} {c : Nat} {ws : List (List UInt8)} (h : OwnW B w (.slice a n c) ws) (hn : 0 < n) : ∃ g, a = some ⟨g, 0, none⟩ ∧ ws.length = n ∧ ∀ j, j < n → w.cell? ⟨g, j, none⟩ = some (.string (str (ws.getD j []))) := by
  obtain ⟨a', c', e⟩ := own_is h
  injection e with e1 e2 e3
  rcases h.2 with ⟨e', _⟩ | ⟨g, cap, cur, e', _⟩
  · injection e' with _ e' _; omega
  · injection e' with e4 e5 e6
    subst e4
    refine ⟨g, rfl, e2.symm, fun j hj => ?_⟩
    have h' : w.ownsRow B 9 1 (.slice (some ⟨g, 0, none⟩) n c) n (ws.map vS) := by have := h; unfold OwnW at this; rw [← e2] at this; exact this
    exact OwnW.cell h' j hj
theorem spl_lenN {b : UInt8} : ∀ {l : List UInt8} {w : List UInt8}, w ∈ spl b l → w.length ≤ l.length
  | [], w, h => by simp [spl] at h; simp [h]
  | c :: r, w, h => by
    by_cases e : c = b
    · subst e
      rw [spl_cons_eq] at h
      rcases List.mem_cons.1 h with rfl | h
      · simp
      · have := spl_lenN h; simp only [List.length_cons]; omega
    · rw [spl_cons_ne e] at h
      obtain ⟨x, xs, hx⟩ : ∃ x xs, spl b r = x :: xs := by
        cases h : spl b r with
        | nil => exact absurd h (spl_ne b r)
        | cons x xs => exact ⟨x, xs, rfl⟩
      rw [hx] at h
      rcases List.mem_cons.1 h with rfl | h
      · have := spl_lenN (b := b) (l := r) (w := x) (by rw [hx]; simp)
        simp only [List.headD_cons, List.length_cons]; omega
      · have := spl_lenN (b := b) (l := r) (w := w) (by rw [hx]; exact List.mem_cons_of_mem _ h)
        simp only [List.length_cons]; omega

def twoN (rx ry : Option Nat) : Option (Int × Int) := match rx, ry with
  | some a, some b => if ok40 a b = true then some ((a : Int), (b : Int)) else none
  | _, _ => none
def twoOf : List (List UInt8) → Option (Int × Int)
  | [x, y] => twoN (num x) (num y)
  | _ => none
theorem pairM_two (m : UInt8) (l : List UInt8) : pairM m ok40 l = twoOf (spl m l) := by
  unfold pairM
  match h : spl m l with
  | [] => simp [twoOf]
  | [_] => simp [twoOf]
  | [x, y] =>
    simp only [twoOf]
    unfold twoN
    cases num x <;> cases num y <;> rfl
  | _ :: _ :: _ :: _ => simp [twoOf]
set_option maxHeartbeats 1600000 in
set_option maxRecDepth 100000 in
theorem stwo_any (l : List UInt8) (m : UInt8) (hl : l.length ≤ 1048576) (w : World) :
    Calls Tryd.prog 106 #[.string (str l), .int .u8 (m.toNat : Int)] w (RetTwo w (pairM m ok40 l)) := by
  have HSP := Lib.hid (ssplit_any l m hl w)
  obtain ⟨rr, hrr⟩ : ∃ r, pairM m ok40 l = r := ⟨_, rfl⟩
  rw [hrr]
  obtain ⟨ws, hws⟩ : ∃ ws, spl m l = ws := ⟨_, rfl⟩
  have HPM : Hid (rr = twoOf ws) := Lib.hid (by rw [← hrr, ← hws]; exact pairM_two m l)
  rw [hws] at HSP
  have HWL : Hid (∀ x ∈ ws, x.length ≤ 1048576) := Lib.hid (fun x hx => by rw [← hws] at hx; have := spl_lenN hx; omega)
  have hwn : ws.length ≤ 1048577 := by rw [← hws]; have := spl_count m l; omega
  have hm256 : m.toNat < 256 := m.toNat_lt
  clear hws hrr hl
  go_enter Tryd.func106, Tryd.ntmps106
  go_wp2_with fail
  refine HSP.out.mono ?_
  rintro e w2 ⟨sv, rfl, ows, b2⟩
  obtain ⟨sa, sc, hsv⟩ := own_is ows
  obtain ⟨nw, hnw⟩ : ∃ n, ws.length = n := ⟨_, rfl⟩
  have HNW := Lib.hid hnw
  rw [hnw] at hsv hwn
  subst hsv
  have HB2 := Lib.hid b2
  have HOW := Lib.hid ows
  clear ows b2 hnw HSP
  by_cases h2 : nw = 2
  rotate_left
  · have t2 : ((nw : Int) != 2) = true := by simp; omega
    have E1 : Hid (rr = none) := Lib.hid (by
      rw [HPM.out]
      have h := HNW.out
      match ws, h with
      | [], _ => rfl
      | [_], _ => rfl
      | [_, _], h => exact absurd h.symm (fun e => h2 (by rw [e]; rfl))
      | _ :: _ :: _ :: _, _ => rfl)
    clear h2
    go_wp2_with fail
    go_ret3
    exact ⟨0, 0, false, rfl, by omega, by omega, .inr ⟨rfl, E1.out⟩, HB2.out⟩
  subst h2
  obtain ⟨x, y, hxy⟩ : ∃ p q, ws = [p, q] := by
    have h := HNW.out
    match ws, h with
    | [p, q], _ => exact ⟨p, q, rfl⟩
  subst hxy
  obtain ⟨g, rfl, _, hcell⟩ := ownW_cells HOW.out (by omega)
  have cp : w2.cell? ⟨g, 0, none⟩ = some (.string (str x)) := hcell 0 (by omega)
  have cq : w2.cell? ⟨g, 1, none⟩ = some (.string (str y)) := hcell 1 (by omega)
  have t2 : ((2 : Int) != 2) = false := by decide
  have HNx := Lib.hid (snum_any x (HWL.out x (by simp)) w2)
  have HNy := Lib.hid (snum_any y (HWL.out y (by simp)) w2)
  have hx9 := num_lt9 x
  have hy9 := num_lt9 y
  obtain ⟨rx, hrx⟩ : ∃ r, num x = r := ⟨_, rfl⟩
  obtain ⟨ry, hry⟩ : ∃ r, num y = r := ⟨_, rfl⟩
  have HPM2 : Hid (rr = twoN rx ry) := Lib.hid (by rw [HPM.out, ← hrx, ← hry]; rfl)
  rw [hrx] at HNx hx9
  rw [hry] at HNy hy9
  clear hcell hrx hry HPM HWL
  go_wp2_with fail
  refine HNx.out.mono ?_
  rintro e _ ⟨rfl, rfl⟩
  go_wp2_with fail
  refine HNy.out.mono ?_
  rintro e _ ⟨rfl, rfl⟩
  clear HNx HNy cp cq
  cases rx with
  | none =>
    have E1 : Hid (rr = none) := Lib.hid (by rw [HPM2.out]; rfl)
    simp only [Option.getD_none, Option.isSome_none] at hx9 ⊢
    obtain ⟨b, hb⟩ : ∃ b, ry.getD 0 = b := ⟨_, rfl⟩
    rw [hb] at hy9 ⊢
    obtain ⟨yb, hyb⟩ : ∃ q, ry.isSome = q := ⟨_, rfl⟩
    rw [hyb]
    clear hb hyb HPM2
    go_wp2_with fail
    go_ret3
    exact ⟨0, b, false, rfl, by omega, by omega, .inr ⟨rfl, E1.out⟩, HB2.out⟩
  | some a =>
  cases ry with
  | none =>
    have E1 : Hid (rr = none) := Lib.hid (by rw [HPM2.out]; rfl)
    simp only [Option.getD_none, Option.isSome_none, Option.getD_some, Option.isSome_some] at hx9 hy9 ⊢
    clear HPM2
    go_wp2_with fail
    go_ret3
    exact ⟨a, 0, false, rfl, by omega, by omega, .inr ⟨rfl, E1.out⟩, HB2.out⟩
  | some b =>
  simp only [Option.getD_some, Option.isSome_some] at hx9 hy9 ⊢
  by_cases ha : a ≤ 40
  rotate_left
  · have ta : decide ((a : Int) ≤ 40) = false := decide_eq_false (by omega)
    have E1 : Hid (rr = none) := Lib.hid (by rw [HPM2.out]; unfold twoN; simp only; rw [if_neg]; unfold ok40; simp; omega)
    clear ha HPM2
    go_wp2_with fail
    go_ret3
    exact ⟨a, b, false, rfl, by omega, by omega, .inr ⟨rfl, E1.out⟩, HB2.out⟩
  have ta : decide ((a : Int) ≤ 40) = true := decide_eq_true (by omega)
  by_cases hb : b ≤ 40
  rotate_left
  · have tb : decide ((b : Int) ≤ 40) = false := decide_eq_false (by omega)
    have E1 : Hid (rr = none) := Lib.hid (by rw [HPM2.out]; unfold twoN; simp only; rw [if_neg]; unfold ok40; simp; omega)
    clear ha hb HPM2
    go_wp2_with fail
    go_ret3
    exact ⟨a, b, false, rfl, by omega, by omega, .inr ⟨rfl, E1.out⟩, HB2.out⟩
  have tb : decide ((b : Int) ≤ 40) = true := decide_eq_true (by omega)
  have E1 : Hid (rr = some ((a : Int), (b : Int))) := Lib.hid (by rw [HPM2.out]; unfold twoN; simp only; rw [if_pos (ok40_yes ha hb)])
  clear ha hb HPM2
  go_wp2_with fail
  go_ret3
  exact ⟨a, b, true, rfl, by omega, by omega, .inl ⟨rfl, E1.out⟩, HB2.out⟩
end Go.Proofs.YtbclmafplaipaaaDoor
