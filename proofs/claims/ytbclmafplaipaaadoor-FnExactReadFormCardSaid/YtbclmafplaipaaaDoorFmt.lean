/-
  strconv.FormatInt at base 10 and the program's word of two numbers, where the library's table of powers lies as it is told.
-/
import Derived.Test.YtbclmafplaipaaaDoorItoa
import Derived.Test.YtbclmafplaipaaaDoorLayFmt
import Derived.Shelf.Strconv.Itoa4
namespace Go.Proofs.YtbclmafplaipaaaDoor
open Go Go.RowKit
set_option linter.unusedVariables false

theorem ifmt_any (n : Nat) (hn : n ≤ 1000000000) (w : World) (ht : PowTab w) :
    Calls Tryd.prog 139 #[.int .i64 (n : Int), .int .i64 10] w fun e w' => e = .returned (.string (str (dec n))) ∧ Below w.heap.size w w' := by
  have h := Go.Proofs.Any.strconv_FormatInt_10 layFmt (n : Int) (by omega) (by omega) w ht
  refine Calls.mono (f := 139) h ?_
  rintro e w' ⟨he, k, os, hw⟩
  refine ⟨?_, ?_⟩
  · rw [he, dec_itoa]; rfl
  · rw [hw]; exact Lib.below_grow _ w (Nat.le_refl _) k os

set_option maxHeartbeats 1000000 in
theorem ipair_any (a b : Nat) (m : UInt8) (ha : a ≤ 1000000) (hb : b ≤ 1000000) (w : World) (ht : PowTab w) :
    Calls Tryd.prog 117 #[.int .i64 (a : Int), .string ⟨#[m]⟩, .int .i64 (b : Int)] w fun e w' => e = .returned (.string (str ((dec a ++ [m]) ++ dec b))) ∧ Below w.heap.size w w' := by
  have HPT := Lib.hid ht
  have la := dec_len a
  have lb := dec_len b
  obtain ⟨p1, hp1⟩ : ∃ s, dec a ++ [m] = s := ⟨_, rfl⟩
  have lp1 : p1.length ≤ a + 2 := by have e := congrArg List.length hp1; simp only [List.length_append, List.length_cons, List.length_nil] at e; omega
  have ap1 : ∀ W, (Op.stringOp .add (str (dec a)) ⟨#[m]⟩).run Tryd.prog W = .ok (.string (str p1)) W := fun W => by have h := add_str (P := Tryd.prog) (dec a) [m] W (by simp only [List.length_cons, List.length_nil]; omega); rw [hp1] at h; exact h
  obtain ⟨p2, hp2⟩ : ∃ s, p1 ++ dec b = s := ⟨_, rfl⟩
  have ap2 : ∀ W, (Op.stringOp .add (str p1) (str (dec b))).run Tryd.prog W = .ok (.string (str p2)) W := fun W => by have h := add_str (P := Tryd.prog) p1 (dec b) W (by omega); rw [hp2] at h; exact h
  have HE : Hid ((dec a ++ [m]) ++ dec b = p2) := Lib.hid (by rw [hp1, hp2])
  rw [HE.out]
  clear ht hp1 hp2 la lb
  go_enter Tryd.func117, Tryd.ntmps117
  go_wp2_with fail
  refine (ifmt_any a (by omega) _ HPT.out).mono ?_
  rintro e w1 ⟨rfl, b1⟩
  go_wp2_with fail
  refine (ifmt_any b (by omega) _ (HPT.out.below b1)).mono ?_
  rintro e w2 ⟨rfl, b2⟩
  go_wp2_with fail
  go_ret
  exact ⟨rfl, blink b1 b2⟩
end Go.Proofs.YtbclmafplaipaaaDoor
