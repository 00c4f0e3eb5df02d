/-
  Shares, rounded: the program's ways of rounding behind an interface, and the model's.
-/
import Derived.Test.YtlgimedadjpdiaaCuP
import Derived.Test.YtlgimedadjpdiaaWi
import Derived.Test.YtlgimedadjpdiaaIn
import Derived.BigRegion
import Derived.Laws.ResultCell
import Derived.Outline
import Derived.Deep.RegionHeld3
namespace Go.Proofs.Ytlgimedadjpdiaa
open Go Go.RowKit
set_option linter.unusedVariables false

theorem ret2 {a b a' b' : Value} (h : a' = a ∧ b' = b) : Ending.returned (.tuple #[a, b]) = .returned (.tuple #[a', b']) := by rw [h.1, h.2]

/-- The way of rounding with a number, as a value. -/
def wayV (how : Int) : Value :=
  if how = 0 then .iface 95 (.agg #[]) else if how = 1 then .iface 96 (.agg #[])
  else if how = 2 then .iface 97 (.agg #[]) else if how = 3 then .iface 98 (.agg #[]) else .nilIface
theorem wayV_not {how : Int} (h : isHow how = false) : wayV how = .nilIface := by
  have h' : ¬ (0 ≤ how ∧ how ≤ 3) := of_decide_eq_false h
  unfold wayV
  rw [if_neg (by omega), if_neg (by omega), if_neg (by omega), if_neg (by omega)]

theorem iway_any (how : Int) (w : World) :
    Calls Try.prog 43 #[.int .i64 how] w fun e w' => e = .returned (.tuple #[wayV how, .bool (isHow how)]) ∧ w = w' := by
  by_cases h : 0 ≤ how ∧ how ≤ 3
  · have h4 : how = 0 ∨ how = 1 ∨ how = 2 ∨ how = 3 := by omega
    rcases h4 with rfl | rfl | rfl | rfl
    all_goals
      go_enter Try.func43, Try.ntmps43
      go_wp2
      go_ret2
      exact ⟨ret2 ⟨rfl, congrArg Value.bool (isHow_true (by omega))⟩, rfl⟩
  · have d0 : (how == 0) = false := by simp; omega
    have d1 : (how == 1) = false := by simp; omega
    have d2 : (how == 2) = false := by simp; omega
    have d3 : (how == 3) = false := by simp; omega
    have H := Lib.hid h
    clear h
    go_enter Try.func43, Try.ntmps43
    go_wp2
    go_ret2
    exact ⟨ret2 ⟨wayV_not (isHow_false H.out), congrArg Value.bool (isHow_false H.out)⟩, rfl⟩

theorem iraise_down (n : Int) (w : World) : Calls Try.prog 92 #[.agg #[], .int .i64 n] w fun e w' => e = .returned (.int .i64 0) ∧ Below w.heap.size w w' := by
  go_enter Try.func92, Try.ntmps92
  go_wp2
  go_ret
  exact ⟨rfl, by repeat (first | exact Below.refl _ _ | refine Below.drew ?_ | refine Below.alloc ?_ (by first | (simp; done) | (simp; omega)) _)⟩

theorem iraise_up (n : Int) (w : World) : Calls Try.prog 93 #[.agg #[], .int .i64 n] w fun e w' => e = .returned (.int .i64 1) ∧ Below w.heap.size w w' := by
  go_enter Try.func93, Try.ntmps93
  go_wp2
  go_ret
  exact ⟨rfl, by repeat (first | exact Below.refl _ _ | refine Below.drew ?_ | refine Below.alloc ?_ (by first | (simp; done) | (simp; omega)) _)⟩

theorem iraise_near (n : Int) (w : World) : Calls Try.prog 94 #[.agg #[], .int .i64 n] w fun e w' => e = .returned (.int .i64 1) ∧ Below w.heap.size w w' := by
  go_enter Try.func94, Try.ntmps94
  go_wp2
  go_ret
  exact ⟨rfl, by repeat (first | exact Below.refl _ _ | refine Below.drew ?_ | refine Below.alloc ?_ (by first | (simp; done) | (simp; omega)) _)⟩

theorem iraise_even (n : Int) (h0 : 0 ≤ n) (h1 : n ≤ 1000000000000) (w : World) : Calls Try.prog 95 #[.agg #[], .int .i64 n] w fun e w' => e = .returned (.int .i64 (n % 2)) ∧ Below w.heap.size w w' := by
  go_enter Try.func95, Try.ntmps95
  go_wp2
  go_ret
  exact ⟨rfl, by repeat (first | exact Below.refl _ _ | refine Below.drew ?_ | refine Below.alloc ?_ (by first | (simp; done) | (simp; omega)) _)⟩

set_option maxHeartbeats 4000000 in
theorem irounded_down (q r d : Int) (hq0 : 0 ≤ q) (hq1 : q ≤ 1000000000000) (hr0 : 0 ≤ r) (hr1 : r < d) (hd1 : 1 ≤ d) (hd2 : d ≤ 1000) (w : World) :
    Calls Try.prog 47 #[.agg #[.int .i64 q, .int .i64 r, .int .i64 d], .iface 95 (.agg #[])] w fun e w' => e = .returned (.int .i64 (roundQ q r d 0)) ∧ Below w.heap.size w w' := by
  have ta : ∀ w, (Instr.typeAssert (.iface 95 (.agg #[])) 54 97 true).run Try.prog w = .ok (.tuple #[.agg #[], .bool false]) w := fun _ => by kernel_rfl
  have tb : ∀ w, (Instr.typeAssert (.iface 95 (.agg #[])) 54 98 true).run Try.prog w = .ok (.tuple #[.agg #[], .bool false]) w := fun _ => by kernel_rfl
  have na : ∀ w, (nilAhead 240 95 (.agg #[]) "loop.example/g01366/impl.raise").run Try.prog w = .ok (some false) w := fun _ => by kernel_rfl
  have me : ∀ w, (Go.method 240 95 (.agg #[]) "loop.example/g01366/impl.raise").run Try.prog w = .ok (92, .agg #[]) w := fun _ => by kernel_rfl
  have B1 : BlkA (w.alloc (.cells #[.int .i64 q, .int .i64 r, .int .i64 d] 82)) w.heap.size 82 #[.int .i64 q, .int .i64 r, .int .i64 d] := BlkA.new rfl _ _
  have K1 : Below w.heap.size w (w.alloc (.cells #[.int .i64 q, .int .i64 r, .int .i64 d] 82)) := (Below.refl _ _).alloc (Nat.le_refl _) _
  by_cases h1 : 0 < r
  · have e1 : decide (0 < r) = true := decide_eq_true h1
    have H1 := Lib.hid h1
    have SD : (w.alloc (.cells #[.int .i64 q, .int .i64 r, .int .i64 d] 82)).drew.cell? ⟨w.heap.size, 0, none⟩ = some (.int .i64 q) := B1.drew.at 0
    have KD : Below w.heap.size w (w.alloc (.cells #[.int .i64 q, .int .i64 r, .int .i64 d] 82)).drew := K1.drew
    go_enter Try.func47, Try.ntmps47
    go_wp2_with fail
    go_region_held3 (fun v => v.cell? ⟨w.heap.size, 0, none⟩ = some (.int .i64 q)) (first | exact zS | exact SD) (first | (go_at_call 92; refine (iraise_down q _).mono ?_; rintro e w2 ⟨rfl, b2⟩; have zS : w2.cell? ⟨w.heap.size, 0, none⟩ = some (.int .i64 q) := (B1.drew.below b2).at 0; have KE : Below w.heap.size w w2 := blink KD b2))
    all_goals
      go_wp2_with fail
      go_ret
      exact ⟨ret_int (by first | (simp [roundQ]; done) | (rw [IntWalk.i64_in _ (by omega)]; simp [roundQ]; done) | (simp [roundQ]; rw [IntWalk.i64_in _ (by omega)])), KE⟩
  · have e1 : decide (0 < r) = false := decide_eq_false h1
    have H1 := Lib.hid h1
    clear h1
    go_enter Try.func47, Try.ntmps47
    go_wp2_with fail
    go_ret
    exact ⟨ret_int (by simp [roundQ]), K1⟩

set_option maxHeartbeats 4000000 in
theorem irounded_up (q r d : Int) (hq0 : 0 ≤ q) (hq1 : q ≤ 1000000000000) (hr0 : 0 ≤ r) (hr1 : r < d) (hd1 : 1 ≤ d) (hd2 : d ≤ 1000) (w : World) :
    Calls Try.prog 47 #[.agg #[.int .i64 q, .int .i64 r, .int .i64 d], .iface 96 (.agg #[])] w fun e w' => e = .returned (.int .i64 (roundQ q r d 1)) ∧ Below w.heap.size w w' := by
  have ta : ∀ w, (Instr.typeAssert (.iface 96 (.agg #[])) 54 97 true).run Try.prog w = .ok (.tuple #[.agg #[], .bool false]) w := fun _ => by kernel_rfl
  have tb : ∀ w, (Instr.typeAssert (.iface 96 (.agg #[])) 54 98 true).run Try.prog w = .ok (.tuple #[.agg #[], .bool false]) w := fun _ => by kernel_rfl
  have na : ∀ w, (nilAhead 240 96 (.agg #[]) "loop.example/g01366/impl.raise").run Try.prog w = .ok (some false) w := fun _ => by kernel_rfl
  have me : ∀ w, (Go.method 240 96 (.agg #[]) "loop.example/g01366/impl.raise").run Try.prog w = .ok (93, .agg #[]) w := fun _ => by kernel_rfl
  have B1 : BlkA (w.alloc (.cells #[.int .i64 q, .int .i64 r, .int .i64 d] 82)) w.heap.size 82 #[.int .i64 q, .int .i64 r, .int .i64 d] := BlkA.new rfl _ _
  have K1 : Below w.heap.size w (w.alloc (.cells #[.int .i64 q, .int .i64 r, .int .i64 d] 82)) := (Below.refl _ _).alloc (Nat.le_refl _) _
  by_cases h1 : 0 < r
  · have e1 : decide (0 < r) = true := decide_eq_true h1
    have H1 := Lib.hid h1
    have SD : (w.alloc (.cells #[.int .i64 q, .int .i64 r, .int .i64 d] 82)).drew.cell? ⟨w.heap.size, 0, none⟩ = some (.int .i64 q) := B1.drew.at 0
    have KD : Below w.heap.size w (w.alloc (.cells #[.int .i64 q, .int .i64 r, .int .i64 d] 82)).drew := K1.drew
    go_enter Try.func47, Try.ntmps47
    go_wp2_with fail
    go_region_held3 (fun v => v.cell? ⟨w.heap.size, 0, none⟩ = some (.int .i64 q)) (first | exact zS | exact SD) (first | (go_at_call 93; refine (iraise_up q _).mono ?_; rintro e w2 ⟨rfl, b2⟩; have zS : w2.cell? ⟨w.heap.size, 0, none⟩ = some (.int .i64 q) := (B1.drew.below b2).at 0; have KE : Below w.heap.size w w2 := blink KD b2))
    all_goals
      go_wp2_with fail
      go_ret
      exact ⟨ret_int (by simp only [roundQ, H1.out]; simp; rw [IntWalk.i64_in _ (by omega)]), KE⟩
  · have e1 : decide (0 < r) = false := decide_eq_false h1
    have H1 := Lib.hid h1
    clear h1
    go_enter Try.func47, Try.ntmps47
    go_wp2_with fail
    go_ret
    exact ⟨ret_int (by have := H1.out; unfold roundQ; simp; omega), K1⟩

set_option maxHeartbeats 4000000 in
theorem irounded_near (q r d : Int) (hq0 : 0 ≤ q) (hq1 : q ≤ 1000000000000) (hr0 : 0 ≤ r) (hr1 : r < d) (hd1 : 1 ≤ d) (hd2 : d ≤ 1000) (w : World) :
    Calls Try.prog 47 #[.agg #[.int .i64 q, .int .i64 r, .int .i64 d], .iface 97 (.agg #[])] w fun e w' => e = .returned (.int .i64 (roundQ q r d 2)) ∧ Below w.heap.size w w' := by
  have ta : ∀ w, (Instr.typeAssert (.iface 97 (.agg #[])) 54 97 true).run Try.prog w = .ok (.tuple #[.agg #[], .bool true]) w := fun _ => by kernel_rfl
  have tb : ∀ w, (Instr.typeAssert (.iface 97 (.agg #[])) 54 98 true).run Try.prog w = .ok (.tuple #[.agg #[], .bool false]) w := fun _ => by kernel_rfl
  have na : ∀ w, (nilAhead 240 97 (.agg #[]) "loop.example/g01366/impl.raise").run Try.prog w = .ok (some false) w := fun _ => by kernel_rfl
  have me : ∀ w, (Go.method 240 97 (.agg #[]) "loop.example/g01366/impl.raise").run Try.prog w = .ok (94, .agg #[]) w := fun _ => by kernel_rfl
  have B1 : BlkA (w.alloc (.cells #[.int .i64 q, .int .i64 r, .int .i64 d] 82)) w.heap.size 82 #[.int .i64 q, .int .i64 r, .int .i64 d] := BlkA.new rfl _ _
  have K1 : Below w.heap.size w (w.alloc (.cells #[.int .i64 q, .int .i64 r, .int .i64 d] 82)) := (Below.refl _ _).alloc (Nat.le_refl _) _
  have e0 : ∃ b, decide (0 < r) = b := ⟨_, rfl⟩
  obtain ⟨b0, e0⟩ := e0
  by_cases h1 : d < 2 * r
  · have e1 : decide (d < 2 * r) = true := decide_eq_true h1
    have H1 := Lib.hid h1
    go_enter Try.func47, Try.ntmps47
    go_wp2_with fail
    go_ret
    exact ⟨ret_int (by have := H1.out; unfold roundQ; simp; omega), K1⟩
  have e1 : decide (d < 2 * r) = false := decide_eq_false h1
  have H1 := Lib.hid h1
  clear h1
  by_cases h2 : 2 * r = d
  · have e2 : (2 * r == d) = true := by simpa using h2
    have H2 := Lib.hid h2
    clear h2
    have SD : (w.alloc (.cells #[.int .i64 q, .int .i64 r, .int .i64 d] 82)).drew.cell? ⟨w.heap.size, 0, none⟩ = some (.int .i64 q) := B1.drew.at 0
    have KD : Below w.heap.size w (w.alloc (.cells #[.int .i64 q, .int .i64 r, .int .i64 d] 82)).drew := K1.drew
    go_enter Try.func47, Try.ntmps47
    go_wp2_with fail
    go_region_held3 (fun v => v.cell? ⟨w.heap.size, 0, none⟩ = some (.int .i64 q)) (first | exact zS | exact SD) (first | (go_at_call 94; refine (iraise_near q _).mono ?_; rintro e w2 ⟨rfl, b2⟩; have zS : w2.cell? ⟨w.heap.size, 0, none⟩ = some (.int .i64 q) := (B1.drew.below b2).at 0; have KE : Below w.heap.size w w2 := blink KD b2))
    all_goals
      go_wp2_with fail
      go_ret
      exact ⟨ret_int (by have := H1.out; have := H2.out; rw [IntWalk.i64_in _ (by omega)]; unfold roundQ; simp; omega), KE⟩
  · have e2 : (2 * r == d) = false := by simpa using h2
    have H2 := Lib.hid h2
    clear h2
    go_enter Try.func47, Try.ntmps47
    go_wp2_with fail
    go_ret
    exact ⟨ret_int (by have := H1.out; have := H2.out; unfold roundQ; simp; omega), K1⟩

set_option maxHeartbeats 4000000 in
theorem irounded_even (q r d : Int) (hq0 : 0 ≤ q) (hq1 : q ≤ 1000000000000) (hr0 : 0 ≤ r) (hr1 : r < d) (hd1 : 1 ≤ d) (hd2 : d ≤ 1000) (w : World) :
    Calls Try.prog 47 #[.agg #[.int .i64 q, .int .i64 r, .int .i64 d], .iface 98 (.agg #[])] w fun e w' => e = .returned (.int .i64 (roundQ q r d 3)) ∧ Below w.heap.size w w' := by
  have ta : ∀ w, (Instr.typeAssert (.iface 98 (.agg #[])) 54 97 true).run Try.prog w = .ok (.tuple #[.agg #[], .bool false]) w := fun _ => by kernel_rfl
  have tb : ∀ w, (Instr.typeAssert (.iface 98 (.agg #[])) 54 98 true).run Try.prog w = .ok (.tuple #[.agg #[], .bool true]) w := fun _ => by kernel_rfl
  have na : ∀ w, (nilAhead 240 98 (.agg #[]) "loop.example/g01366/impl.raise").run Try.prog w = .ok (some false) w := fun _ => by kernel_rfl
  have me : ∀ w, (Go.method 240 98 (.agg #[]) "loop.example/g01366/impl.raise").run Try.prog w = .ok (95, .agg #[]) w := fun _ => by kernel_rfl
  have B1 : BlkA (w.alloc (.cells #[.int .i64 q, .int .i64 r, .int .i64 d] 82)) w.heap.size 82 #[.int .i64 q, .int .i64 r, .int .i64 d] := BlkA.new rfl _ _
  have K1 : Below w.heap.size w (w.alloc (.cells #[.int .i64 q, .int .i64 r, .int .i64 d] 82)) := (Below.refl _ _).alloc (Nat.le_refl _) _
  have e0 : ∃ b, decide (0 < r) = b := ⟨_, rfl⟩
  obtain ⟨b0, e0⟩ := e0
  by_cases h1 : d < 2 * r
  · have e1 : decide (d < 2 * r) = true := decide_eq_true h1
    have H1 := Lib.hid h1
    go_enter Try.func47, Try.ntmps47
    go_wp2_with fail
    go_ret
    exact ⟨ret_int (by have := H1.out; unfold roundQ; simp; omega), K1⟩
  have e1 : decide (d < 2 * r) = false := decide_eq_false h1
  have H1 := Lib.hid h1
  clear h1
  by_cases h2 : 2 * r = d
  · have e2 : (2 * r == d) = true := by simpa using h2
    have H2 := Lib.hid h2
    clear h2
    have SD : (w.alloc (.cells #[.int .i64 q, .int .i64 r, .int .i64 d] 82)).drew.cell? ⟨w.heap.size, 0, none⟩ = some (.int .i64 q) := B1.drew.at 0
    have KD : Below w.heap.size w (w.alloc (.cells #[.int .i64 q, .int .i64 r, .int .i64 d] 82)).drew := K1.drew
    go_enter Try.func47, Try.ntmps47
    go_wp2_with fail
    go_region_held3 (fun v => v.cell? ⟨w.heap.size, 0, none⟩ = some (.int .i64 q)) (first | exact zS | exact SD) (first | (go_at_call 95; refine (iraise_even q (by omega) (by omega) _).mono ?_; rintro e w2 ⟨rfl, b2⟩; have zS : w2.cell? ⟨w.heap.size, 0, none⟩ = some (.int .i64 q) := (B1.drew.below b2).at 0; have KE : Below w.heap.size w w2 := blink KD b2))
    all_goals
      go_wp2_with fail
      go_ret
      exact ⟨ret_int (by have := H1.out; have := H2.out; rw [IntWalk.i64_in _ (by omega)]; unfold roundQ; simp; omega), KE⟩
  · have e2 : (2 * r == d) = false := by simpa using h2
    have H2 := Lib.hid h2
    clear h2
    go_enter Try.func47, Try.ntmps47
    go_wp2_with fail
    go_ret
    exact ⟨ret_int (by have := H1.out; have := H2.out; unfold roundQ; simp; omega), K1⟩

end Go.Proofs.Ytlgimedadjpdiaa
