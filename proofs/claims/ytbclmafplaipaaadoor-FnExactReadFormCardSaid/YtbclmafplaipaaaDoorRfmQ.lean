/-
  Numbers with marks between, read in one walk (plain).
-/
import Derived.Test.YtbclmafplaipaaaDoorRfmP
namespace Go.Proofs.YtbclmafplaipaaaDoor
open Go Go.RowKit
set_option linter.unusedVariables false

def mks : List UInt8 := [58, 120, 47]
def preG (ns : List Nat) (o : Option (List Nat)) : Option (List Nat) := match o with
  | some r => some (ns ++ r)
  | none => none
structure NumSt (l : List UInt8) (rr : Option (List Nat)) (i bg a : Nat) (ns : List Nat) : Prop where
  le : bg ≤ i
  li : i ≤ l.length
  ln : ns.length = a
  la : a ≤ 3
  dg : ((l.drop bg).take (i - bg)).all isDg = true
  rr : rr = preG ns (numG (mks.drop a) (l.drop bg))
  lt : ∀ n ∈ ns, n < 1000000000
theorem NumSt.zero (l : List UInt8) : NumSt l (numG [58, 120, 47] l) 0 0 0 [] :=
  ⟨Nat.le_refl _, Nat.zero_le _, rfl, by omega, by simp, by show numG mks l = preG [] (numG mks l); unfold preG; cases numG mks l <;> rfl, by simp⟩
theorem NumSt.digit {l : List UInt8} {rr : Option (List Nat)} {i bg a : Nat} {ns : List Nat} (h : NumSt l rr i bg a ns) (hi : i < l.length) (hd : isDg (l.getD i 0) = true) : NumSt l rr (i + 1) bg a ns := by
  refine ⟨by have := h.le; omega, hi, h.ln, h.la, ?_, h.rr, h.lt⟩
  have hle := h.le
  rw [show i + 1 - bg = (i - bg) + 1 by omega, List.take_succ_eq_append_getElem (by rw [List.length_drop]; omega), List.all_append, h.dg]
  have e : (l.drop bg)[i - bg]'(by rw [List.length_drop]; omega) = l.getD i 0 := by rw [List.getElem_drop]; simp [List.getD, show bg + (i - bg) = i by omega, hi]
  rw [e]
  show (true && (isDg (l.getD i 0) && true)) = true
  rw [hd]
  rfl
theorem NumSt.word {l : List UInt8} {rr : Option (List Nat)} {i bg a : Nat} {ns : List Nat} (h : NumSt l rr i bg a ns) (hd : i < l.length → isDg (l.getD i 0) = false) :
    (l.drop bg).takeWhile isDg = (l.drop bg).take (i - bg) ∧ (l.drop bg).dropWhile isDg = l.drop i := by
  have hle := h.le
  have e : l.drop bg = (l.drop bg).take (i - bg) ++ l.drop i := by
    conv => lhs; rw [← List.take_append_drop (i - bg) (l.drop bg)]
    rw [List.drop_drop, show bg + (i - bg) = i by omega]
  have ha := List.all_eq_true.1 h.dg
  have h1 : (l.drop i).takeWhile isDg = [] ∧ (l.drop i).dropWhile isDg = l.drop i := by
    by_cases hi : i < l.length
    · have hd := hd hi
      rw [List.drop_eq_getElem_cons hi, List.takeWhile_cons, List.dropWhile_cons]
      have : isDg l[i] = false := by have := hd; simpa [List.getD, hi] using this
      rw [this]; simp
    · rw [List.drop_eq_nil_of_le (by omega)]; simp
  have ht : ((l.drop bg).take (i - bg) ++ l.drop i).takeWhile isDg = (l.drop bg).take (i - bg) := by rw [List.takeWhile_append_of_pos ha, h1.1, List.append_nil]
  have hw : ((l.drop bg).take (i - bg) ++ l.drop i).dropWhile isDg = l.drop i := by rw [List.dropWhile_append_of_pos ha, h1.2]
  rw [← e] at ht hw
  exact ⟨ht, hw⟩
theorem numG_no {ms l : List UInt8} (h : num (l.takeWhile isDg) = none) : numG ms l = none := by
  cases ms <;> unfold numG <;> rw [h]
theorem NumSt.bad {l : List UInt8} {rr : Option (List Nat)} {i bg a : Nat} {ns : List Nat} (h : NumSt l rr i bg a ns) (hd : i < l.length → isDg (l.getD i 0) = false) (hn : num ((l.drop bg).take (i - bg)) = none) : rr = none := by
  rw [h.rr, numG_no (by rw [(h.word hd).1]; exact hn)]; rfl
theorem mks_drop {a : Nat} (h : a < 3) : mks.drop a = mks.getD a 0 :: mks.drop (a + 1) := by
  match a, h with
  | 0, _ => rfl
  | 1, _ => rfl
  | 2, _ => rfl
theorem mks_three : mks.drop 3 = [] := rfl
theorem NumSt.short {l : List UInt8} {rr : Option (List Nat)} {i bg a : Nat} {ns : List Nat} (h : NumSt l rr i bg a ns) (ha : a < 3) (hi : i = l.length) : rr = none := by
  have w := h.word (fun hl => by omega)
  rw [h.rr, mks_drop ha]
  unfold numG
  rw [w.2, hi, List.drop_length]
  cases num ((l.drop bg).takeWhile isDg) <;> rfl
theorem NumSt.wrong {l : List UInt8} {rr : Option (List Nat)} {i bg a : Nat} {ns : List Nat} (h : NumSt l rr i bg a ns) (ha : a < 3) (hi : i < l.length) (hd : isDg (l.getD i 0) = false) (hm : l.getD i 0 ≠ mks.getD a 0) : rr = none := by
  have w := h.word (fun _ => hd)
  rw [h.rr, mks_drop ha]
  unfold numG
  rw [w.2, List.drop_eq_getElem_cons hi]
  have e : l[i] = l.getD i 0 := by simp [List.getD, hi]
  rw [e]
  cases num ((l.drop bg).takeWhile isDg) with
  | none => rfl
  | some n => simp only; rw [if_neg hm]; rfl
theorem NumSt.next {l : List UInt8} {rr : Option (List Nat)} {i bg a n : Nat} {ns : List Nat} (h : NumSt l rr i bg a ns) (ha : a < 3) (hi : i < l.length) (hd : isDg (l.getD i 0) = false) (hm : l.getD i 0 = mks.getD a 0) (hn : num ((l.drop bg).take (i - bg)) = some n) : NumSt l rr (i + 1) (i + 1) (a + 1) (ns ++ [n]) := by
  have w := h.word (fun _ => hd)
  refine ⟨Nat.le_refl _, hi, by rw [List.length_append, h.ln]; rfl, by omega, by simp, ?_, fun q hq => ?_⟩
  · have hr := h.rr
    rw [mks_drop ha] at hr
    unfold numG at hr
    rw [w.1, w.2, List.drop_eq_getElem_cons hi, hn] at hr
    have e : l[i] = l.getD i 0 := by simp [List.getD, hi]
    rw [e] at hr
    simp only at hr
    rw [if_pos hm] at hr
    rw [hr]
    cases numG (mks.drop (a + 1)) (l.drop (i + 1)) with
    | none => rfl
    | some r => simp [preG]
  · rcases List.mem_append.1 hq with hq | hq
    · exact h.lt q hq
    · have : q = n := by simpa using hq
      rw [this]; exact (num_spec hn).2
theorem NumSt.more {l : List UInt8} {rr : Option (List Nat)} {i bg : Nat} {ns : List Nat} (h : NumSt l rr i bg 3 ns) (hi : i < l.length) (hd : isDg (l.getD i 0) = false) : rr = none := by
  have w := h.word (fun _ => hd)
  rw [h.rr, mks_three]
  unfold numG
  rw [w.2, List.drop_eq_getElem_cons hi]
  cases num ((l.drop bg).takeWhile isDg) <;> rfl
theorem NumSt.done {l : List UInt8} {rr : Option (List Nat)} {i bg n : Nat} {ns : List Nat} (h : NumSt l rr i bg 3 ns) (hi : i = l.length) (hn : num ((l.drop bg).take (i - bg)) = some n) : rr = some (ns ++ [n]) := by
  have w := h.word (fun hl => by omega)
  rw [h.rr, mks_three]
  unfold numG
  rw [w.1, w.2, hn, hi, List.drop_length]
  rfl
end Go.Proofs.YtbclmafplaipaaaDoor
