/-
  The walk of FnExactCheapestTable: program and model answer the same at every argument, and neither writes into its arguments.
-/
import Derived.Test.YtnjhkmoinlikiaaDoorCtI
import Derived.Test.YtnjhkmoinlikiaaDoorCtM
namespace Go.Proofs.YtnjhkmoinlikiaaDoor.fnExactCheapestTable
open Go Go.RowKit
set_option linter.unusedVariables false

set_option maxHeartbeats 4000000 in
set_option maxRecDepth 100000 in
theorem walk (aa : Option Addr) (len cap : Nat) (ts : List Tb) (n1 n2 : Int) (w : World) (a0 : Addr) (h : IsTabs w aa len cap ts) (wn1 : (Lit.int .i64 n1).wf = true) (wn2 : (Lit.int .i64 n2).wf = true)
    (hE : w.cell? ⟨0, 0, none⟩ = some (.iface 61 (.pointer (some a0)))) :
    Calls Tryd.prog 3 #[.slice aa len cap, .int .i64 n1, .int .i64 n2] w fun e w' => e = .returned (.bool true) ∧ Below w.heap.size w w' := by
  have HT := Lib.hid h
  have HE := Lib.hid hE
  have HSZ := Lib.hid (fun W (hb : Below w.heap.size w W) => szA_any aa len cap ts 1048576 (by omega) (by omega) W (h.below hb))
  have HOK := Lib.hid (szA_ok h (l := 1048576) (by omega))
  clear h hE wn1 wn2
  obtain ⟨l, hl⟩ : ∃ l, szA 1048576 ts = l := ⟨_, rfl⟩
  rw [hl] at HSZ HOK
  clear hl
  by_cases hs : 0 ≤ l
  · obtain ⟨hok, hx⟩ := HOK.out hs
    have HTO := Lib.hid (fun W (hb : Below w.heap.size w W) => toTs_any aa len cap ts W (HT.out.below hb) hx hok)
    have HEQ := Lib.hid (fun v u W h1 h2 => eqTs_any v u ts W h1 h2 hx hok)
    have HSP : Hid (∀ v W, ReadsTs W v ts → Calls Tryd.prog 5 #[v, .int .i64 n1, .int .i64 n2] W fun e w' => e = .returned (.tuple #[.int .i64 (ctB n1 n2 ts), .int .i64 (ctL n1 n2 ts), .int .i64 (ctC n1 n2 ts)]) ∧ Below W.heap.size W w') := Lib.hid (fun v W hv => sct_any v ts n1 n2 W hv hx hok)
    have HIM : Hid (∀ v W, Below w.heap.size w W → ReadsTs W v ts → Calls Tryd.prog 7 #[v, .int .i64 n1, .int .i64 n2] W fun e w' => e = .returned (.tuple #[.int .i64 (ctB n1 n2 ts), .int .i64 (ctL n1 n2 ts), .int .i64 (ctC n1 n2 ts)]) ∧ Below W.heap.size W w') := Lib.hid (fun v W hb hv => ict_any v ts n1 n2 W hv hx hok a0 (cbelow hb HE.out))
    obtain ⟨B, hB⟩ : ∃ x, ctB n1 n2 ts = x := ⟨_, rfl⟩
    obtain ⟨L, hL⟩ : ∃ x, ctL n1 n2 ts = x := ⟨_, rfl⟩
    obtain ⟨C, hC⟩ : ∃ x, ctC n1 n2 ts = x := ⟨_, rfl⟩
    rw [hB, hL, hC] at HSP HIM
    have t0 : decide (l < 0) = false := by simp; omega
    clear hs hB hL hC hok hx
    go_enter Tryd.func3, Tryd.ntmps3
    go_wp2_with fail
    refine (HSZ.out _ (Below.refl _ _)).mono ?_
    rintro e z1 ⟨rfl, b1⟩
    have C1 := Lib.hid b1
    clear b1
    go_wp2_with fail
    refine (HTO.out _ C1.out).mono ?_
    rintro e z2 ⟨u1, rfl, o1, b1⟩
    have O1 := Lib.hid o1
    have C2 := Lib.hid (blink C1.out b1)
    clear b1 o1
    go_wp2_with fail
    refine (HSP.out _ _ O1.out).mono ?_
    rintro e z3 ⟨rfl, b1⟩
    have C3 := Lib.hid (blink C2.out b1)
    clear b1
    go_wp2_with fail
    refine (HTO.out _ C3.out).mono ?_
    rintro e z4 ⟨u2, rfl, o1, b1⟩
    have O2 := Lib.hid o1
    have C4 := Lib.hid (blink C3.out b1)
    clear b1 o1
    go_wp2_with fail
    refine (HIM.out _ _ C4.out O2.out).mono ?_
    rintro e z5 ⟨rfl, b1⟩
    have O5 := Lib.hid (O2.out.below b1)
    have C5 := Lib.hid (blink C4.out b1)
    clear b1
    go_wp2_with fail
    refine (HTO.out _ C5.out).mono ?_
    rintro e z6 ⟨u3, rfl, o1, b1⟩
    have O6 := Lib.hid (O5.out.below b1)
    have O3 := Lib.hid o1
    have C6 := Lib.hid (blink C5.out b1)
    clear b1 o1
    go_wp2_with fail
    refine (HEQ.out _ _ _ O6.out O3.out).mono ?_
    rintro e z7 ⟨rfl, b1⟩
    have C7 := Lib.hid (blink C6.out b1)
    clear b1
    go_wp2_with fail
    go_ret
    exact ⟨rfl, C7.out⟩
  · have t0 : decide (l < 0) = true := by simp; omega
    clear hs
    go_enter Tryd.func3, Tryd.ntmps3
    go_wp2_with fail
    refine (HSZ.out _ (Below.refl _ _)).mono ?_
    rintro e z1 ⟨rfl, b1⟩
    have C1 := Lib.hid b1
    clear b1
    go_wp2_with fail
    go_ret
    exact ⟨rfl, C1.out⟩
end Go.Proofs.YtnjhkmoinlikiaaDoor.fnExactCheapestTable
