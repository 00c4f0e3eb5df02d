/-
  Reading the text of Boxes: plain: the model's way and the program's way are the same.
-/
import Derived.Test.YtbclmafplaipaaaDoorRdP
import Derived.Test.YtbclmafplaipaaaDoorWdBoxesP
import Derived.Test.YtbclmafplaipaaaDoorBxV
namespace Go.Proofs.YtbclmafplaipaaaDoor
open Go Go.RowKit
set_option linter.unusedVariables false

def tri3 (x y z : Option Nat) : Option (Int × Int × Int) := match x, y, z with
  | some a, some b, some c => if (decide (a ≤ 60) && (decide (b ≤ 60) && decide (c ≤ 60))) = true then some ((a : Int), (b : Int), (c : Int)) else none
  | _, _, _ => none
theorem tri3_n1 (y z : Option Nat) : tri3 none y z = none := rfl
theorem tri3_n2 (x z : Option Nat) : tri3 x none z = none := by cases x <;> rfl
theorem tri3_n3 (x y : Option Nat) : tri3 x y none = none := by cases x <;> cases y <;> rfl
theorem tri3_a {a : Nat} (h : 60 < a) (y z : Option Nat) : tri3 (some a) y z = none := by
  cases y with
  | none => rfl
  | some b => cases z with
    | none => rfl
    | some c => exact if_neg (by simp; omega)
theorem tri3_b {b : Nat} (h : 60 < b) (x z : Option Nat) : tri3 x (some b) z = none := by
  cases x with
  | none => rfl
  | some a => cases z with
    | none => rfl
    | some c => exact if_neg (by simp; omega)
theorem tri3_c {c : Nat} (h : 60 < c) (x y : Option Nat) : tri3 x y (some c) = none := by
  cases x with
  | none => rfl
  | some a => cases y with
    | none => rfl
    | some b => exact if_neg (by simp; omega)
theorem tri3_y {a b c : Nat} (ha : a ≤ 60) (hb : b ≤ 60) (hc : c ≤ 60) : tri3 (some a) (some b) (some c) = some ((a : Int), (b : Int), (c : Int)) := if_pos (by simp; omega)
def triM (w : List UInt8) : Option (Int × Int × Int) := match spl 120 w with
  | [p, q, r] => tri3 (num p) (num q) (num r)
  | _ => none
def triI (w : List UInt8) : Option (Int × Int × Int) := match spl 120 w with
  | [p, q, r] => match okI (Lib.parseIntB 8 p), okI (Lib.parseIntB 8 q), okI (Lib.parseIntB 8 r) with
    | some a, some b, some c => some (a, b, c)
    | _, _, _ => none
  | _ => none
theorem triM_of {w : List UInt8} {q : Int × Int × Int} (h : triM w = some q) : w = wordBoxes q := by
  unfold triM at h
  have hj := spl_join 120 w
  split at h
  · rename_i x y z hs
    rw [hs] at hj
    unfold tri3 at h
    split at h
    · rename_i a b c ha hb hc
      split at h
      · cases h
        obtain ⟨rfl, _⟩ := num_spec ha
        obtain ⟨rfl, _⟩ := num_spec hb
        obtain ⟨rfl, _⟩ := num_spec hc
        rw [← hj, Lib.join_cons]
        simp [wordBoxes, Lib.joinTail]
      · cases h
    · cases h
  · cases h
theorem wordBoxes_spl (a b c : Nat) : spl 120 (wordBoxes ((a : Int), (b : Int), (c : Int))) = [dec a, dec b, dec c] := by
  unfold wordBoxes
  simp only [Int.toNat_natCast]
  rw [List.append_assoc, List.append_assoc, List.append_assoc, List.singleton_append, spl_app _ (dec_free (by decide)), List.singleton_append, spl_app _ (dec_free (by decide)), spl_free (dec_free (by decide))]
theorem triM_at {a b c : Nat} (ha : a ≤ 60) (hb : b ≤ 60) (hc : c ≤ 60) : triM (wordBoxes ((a : Int), (b : Int), (c : Int))) = some ((a : Int), (b : Int), (c : Int)) := by
  unfold triM
  rw [wordBoxes_spl]
  simp only [num_dec (show a < 1000000000 by omega), num_dec (show b < 1000000000 by omega), num_dec (show c < 1000000000 by omega)]
  exact tri3_y ha hb hc
theorem triI_at {a b c : Nat} (ha : a ≤ 60) (hb : b ≤ 60) (hc : c ≤ 60) : triI (wordBoxes ((a : Int), (b : Int), (c : Int))) = some ((a : Int), (b : Int), (c : Int)) := by
  unfold triI
  rw [wordBoxes_spl]
  simp only [parse_dec (B := 8) (n := a) (by omega) (by omega), parse_dec (B := 8) (n := b) (by omega) (by omega), parse_dec (B := 8) (n := c) (by omega) (by omega), okI]
def rdBoxes (text : List UInt8) : Option (List (Int × Int × Int)) := rdM triM vldX text
def rdRBoxes (text : List UInt8) : List (Int × Int × Int) := (rdBoxes text).getD []
def rdCBoxes (text : List UInt8) : Int := if (rdBoxes text).isSome = true then 0 else 5
theorem rdBoxes_same (text : List UInt8) : rdBoxes text = rdI triI textBoxes text := by
  unfold rdBoxes
  refine rd_same (g := wordBoxes) (fun w q h => triM_of h) (fun L hv q hq => ?_) (fun L hv => ?_) (fun L hv => textBoxes_no hv) text
  · obtain ⟨k, hk, e⟩ := List.getElem_of_mem hq
    obtain ⟨n0, n1, n2, he, h0, h1, h2⟩ := natsBoxes hv hk
    have hqe : q = ((n0 : Int), (n1 : Int), (n2 : Int)) := by rw [← he, ← e]; simp [List.getD, hk]
    subst hqe
    refine ⟨triM_at h0 h1 h2, triI_at h0 h1 h2, ?_⟩
    unfold wordBoxes
    simp only [List.mem_append, List.mem_singleton, not_or]
    exact ⟨⟨⟨⟨dec_free (by decide), by decide⟩, dec_free (by decide)⟩, by decide⟩, dec_free (by decide)⟩
  · rw [textBoxes_ok hv]
    have := wJ_all (wordsBoxes L)
    rw [wordsBoxes_len] at this
    exact this
theorem rdRBoxes_len (text : List UInt8) : (rdRBoxes text).length ≤ 1048575 := by
  unfold rdRBoxes rdBoxes rdM
  split
  · simp
  · split
    · simp
    · split
      · rename_i L _ hv
        have := capBoxes hv
        simp only [Option.getD_some]
        omega
      · simp
theorem triM_three {w p q r : List UInt8} (h : spl 120 w = [p, q, r]) : triM w = tri3 (num p) (num q) (num r) := by
  unfold triM
  rw [h]
theorem triM_nil : triM [] = none := rfl
theorem triI_nil : triI [] = none := rfl
end Go.Proofs.YtbclmafplaipaaaDoor
