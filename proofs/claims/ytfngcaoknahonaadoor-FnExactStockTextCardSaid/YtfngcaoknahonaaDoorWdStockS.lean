/-
  The model's text of a list of Stamp.
-/
import Derived.Test.YtfngcaoknahonaaDoorWdStockP
import Derived.Test.YtfngcaoknahonaaDoorDecS
import Derived.Test.YtfngcaoknahonaaDoorBlk
import Derived.Test.YtfngcaoknahonaaDoorStock
import Derived.Deep.RegionHeld3
namespace Go.Proofs.YtfngcaoknahonaaDoor
open Go Go.RowKit
set_option linter.unusedVariables false

theorem keepCStock {m : Nat} {z W : World} {b o : Nat} {b0 b1 : Value} (hb : Below m z W) (h0 : b < m) (h : z.cell? ⟨b, o, none⟩ = some b0 ∧ z.cell? ⟨b, o + 1, none⟩ = some b1) : W.cell? ⟨b, o, none⟩ = some b0 ∧ W.cell? ⟨b, o + 1, none⟩ = some b1 := by
  obtain ⟨y0, y1⟩ := h
  exact ⟨(hb.cell (p := ⟨b, o, none⟩) h0).trans y0, (hb.cell (p := ⟨b, o + 1, none⟩) h0).trans y1⟩

set_option maxHeartbeats 2000000 in
set_option maxRecDepth 100000 in
theorem swStock_row (b len cap : Nat) (ps : List (Int × Int)) (hl : ps.length = len) (hvf : vldS ps = true) (w : World) (hc : CellsP w b ps) :
    Calls Tryd.prog 35 #[.slice (some ⟨b, 0, none⟩) len cap] w fun e w' => e = .returned (.string (str (wJ (wordsStock ps) len))) ∧ Below w.heap.size w w' := by
  have h10 := capStock hvf
  have HV := Lib.hid hvf
  have HL := Lib.hid hl
  have HC := Lib.hid hc
  rw [hl] at h10
  obtain ⟨ws, hws⟩ : ∃ ws, wordsStock ps = ws := ⟨_, rfl⟩
  have HWS := Lib.hid hws
  rw [hws]
  clear hl hvf hc hws
  go_enter Tryd.func35, Tryd.ntmps35
  go_wp2_with fail
  go_loopw [3, 4] (fun t i wr => ∃ k : Nat, k ≤ len ∧ i = .int .i64 k ∧ t = .string (str (wJ ws k)) ∧ Below w.heap.size w wr) (fun _ i _ => len - (intOf i).toNat)
  case atStart => exact ⟨0, Nat.zero_le _, rfl, rfl, Below.refl _ _⟩
  case round =>
    obtain ⟨k, hk, rfl, rfl, hnx⟩ := hrel
    have HB := Lib.hid hnx
    have hwr : w.heap.size ≤ wr.heap.size := hnx.size
    by_cases hlt : k < len
    · obtain ⟨c0, c1⟩ := HC.out.below hnx k (by have := HL.out; omega)
      obtain ⟨n0, n1, hq, h0, h1⟩ := natsStock HV.out (k := k) (by have := HL.out; omega)
      rw [hq] at c0 c1
      simp only at c0 c1
      have hlen := wlenStock HV.out k (by have := HL.out; omega)
      rw [HWS.out] at hlen
      have HWK : Hid (ws.getD k [] = wordStock ((n0 : Int), (n1 : Int))) := Lib.hid (by rw [← HWS.out, wordsStock_get ps k (by have := HL.out; omega), hq])
      have HS : Hid (wJ ws (k + 1) = (wJ ws k ++ if 0 < k then [32] else []) ++ ws.getD k []) := Lib.hid rfl
      have hkl : (k : Int) < (len : Int) := by omega
      have hkn : (0 : Int) ≤ (k : Int) := by omega
      obtain ⟨t, htq⟩ : ∃ t, wJ ws k = t := ⟨_, rfl⟩
      rw [htq] at HS hlen ⊢
      obtain ⟨s, hs⟩ : ∃ s, (t ++ if 0 < k then [32] else []) = s := ⟨_, rfl⟩
      have HST := Lib.hid hs
      rw [hs] at HS
      have hsl : s.length ≤ t.length + 1 := by
        rw [← hs, List.length_append]
        have h3 : (if 0 < k then [32] else [] : List UInt8).length ≤ 1 := by split <;> simp
        omega
      obtain ⟨p1, hp1⟩ : ∃ s, dec n0 ++ [120] = s := ⟨_, rfl⟩
      have lp1 : p1.length ≤ 1006 := by have e := congrArg List.length hp1; simp only [List.length_append, List.length_cons, List.length_nil] at e; have := dec_len n0; have := dec_len n1; omega
      have ap1 : ∀ W, (Op.stringOp .add (str (dec n0)) ⟨#[120]⟩).run Tryd.prog W = .ok (.string (str p1)) W := fun W => by have h := add_str (P := Tryd.prog) (dec n0) ([120]) W (by have := dec_len n0; have := dec_len n1; first | (simp only [List.length_cons, List.length_nil]; omega) | omega); rw [hp1] at h; exact h
      obtain ⟨p2, hp2⟩ : ∃ s, p1 ++ dec n1 = s := ⟨_, rfl⟩
      have lp2 : p2.length ≤ 1509 := by have e := congrArg List.length hp2; simp only [List.length_append] at e; have := dec_len n0; have := dec_len n1; omega
      have ap2 : ∀ W, (Op.stringOp .add (str (p1)) (str (dec n1))).run Tryd.prog W = .ok (.string (str p2)) W := fun W => by have h := add_str (P := Tryd.prog) (p1) (dec n1) W (by have := dec_len n0; have := dec_len n1; first | (simp only [List.length_cons, List.length_nil]; omega) | omega); rw [hp2] at h; exact h
      have HLT : Hid (p2 = wordStock ((n0 : Int), (n1 : Int))) := Lib.hid (by rw [← hp2, ← hp1]; rfl)
      clear hp1 hp2
      have HN0 : Hid (∀ W, Calls Tryd.prog 52 #[.int .i64 (IntKind.i64.wrap (n0 : Int))] W fun e w' => e = .returned (.string (str (dec n0))) ∧ Below W.heap.size W w') := Lib.hid (fun W => by rw [IntWalk.i64_in (n0 : Int) (by omega)]; exact sdec_any n0 (by omega) W)
      have HN1 : Hid (∀ W, Calls Tryd.prog 52 #[.int .i64 (IntKind.i64.wrap (n1 : Int))] W fun e w' => e = .returned (.string (str (dec n1))) ∧ Below W.heap.size W w') := Lib.hid (fun W => by rw [IntWalk.i64_in (n1 : Int) (by omega)]; exact sdec_any n1 (by omega) W)
      obtain ⟨z, hzq⟩ : ∃ z, s ++ p2 = z := ⟨_, rfl⟩
      have az : ∀ W, (Op.stringOp .add (str s) (str p2)).run Tryd.prog W = .ok (.string (str z)) W := fun W => by rw [add_str _ _ W (by omega), hzq]
      have HSS : Hid (wJ ws (k + 1) = z) := Lib.hid (by rw [HS.out, HWK.out, ← HLT.out, hzq])
      have hbl : b < wr.heap.size := World.block_lt_of_cell? wr _ c0
      have K0 : Below wr.heap.size wr wr.drew := (Below.refl _ _).drew
      have SD : wr.drew.cell? ⟨b, k * 2, none⟩ = some (.int .i16 (n0 : Int)) ∧ wr.drew.cell? ⟨b, k * 2 + 1, none⟩ = some (.int .i16 (n1 : Int)) := ⟨c0, c1⟩
      clear hq hnx htq hs hzq
      rcases Decidable.em (0 < k) with hk0 | hk0
      · have hd : decide ((0 : Int) < (k : Int)) = true := decide_eq_true (by omega)
        have hadd : (Op.stringOp .add (str t) ⟨#[32]⟩).run Tryd.prog wr = .ok (.string (str s)) wr := by
          have h := add_str (P := Tryd.prog) t [32] wr (by simp only [List.length_cons, List.length_nil]; omega)
          rw [show t ++ [32] = s from by rw [← HST.out, if_pos hk0]] at h
          exact h
        go_wp2_with fail
        clear hadd
        go_region_held3 (fun u => u.cell? ⟨b, k * 2, none⟩ = some (.int .i16 (n0 : Int)) ∧ u.cell? ⟨b, k * 2 + 1, none⟩ = some (.int .i16 (n1 : Int))) (first | (with_reducible exact SD) | (with_reducible exact zS2) | (with_reducible exact zS1)) (first | (go_at_call 52; (with_reducible refine (HN0.out _).mono ?_); rintro e v1 ⟨rfl, d1⟩; have zS1 : v1.cell? ⟨b, k * 2, none⟩ = some (.int .i16 (n0 : Int)) ∧ v1.cell? ⟨b, k * 2 + 1, none⟩ = some (.int .i16 (n1 : Int)) := keepCStock d1 (Nat.lt_of_lt_of_le hbl K0.size) SD; have K1 := blink K0 d1) | (go_at_call 52; (with_reducible refine (HN1.out _).mono ?_); rintro e v2 ⟨rfl, d2⟩; have zS2 : v2.cell? ⟨b, k * 2, none⟩ = some (.int .i16 (n0 : Int)) ∧ v2.cell? ⟨b, k * 2 + 1, none⟩ = some (.int .i16 (n1 : Int)) := keepCStock d2 (Nat.lt_of_lt_of_le hbl K1.size) zS1; have K2 := blink K1 d2))
        go_wp2_with fail
        go_roundw
        case rel => exact ⟨k + 1, by omega, by go_num, by rw [HSS.out], HB.out.trans (K2.mono hwr)⟩
        case measure => simp [intOf]; omega
      · have hd : decide ((0 : Int) < (k : Int)) = false := decide_eq_false (by omega)
        have hts : t = s := by rw [← HST.out, if_neg hk0, List.append_nil]
        subst hts
        go_wp2_with fail
        go_region_held3 (fun u => u.cell? ⟨b, k * 2, none⟩ = some (.int .i16 (n0 : Int)) ∧ u.cell? ⟨b, k * 2 + 1, none⟩ = some (.int .i16 (n1 : Int))) (first | (with_reducible exact SD) | (with_reducible exact zS2) | (with_reducible exact zS1)) (first | (go_at_call 52; (with_reducible refine (HN0.out _).mono ?_); rintro e v1 ⟨rfl, d1⟩; have zS1 : v1.cell? ⟨b, k * 2, none⟩ = some (.int .i16 (n0 : Int)) ∧ v1.cell? ⟨b, k * 2 + 1, none⟩ = some (.int .i16 (n1 : Int)) := keepCStock d1 (Nat.lt_of_lt_of_le hbl K0.size) SD; have K1 := blink K0 d1) | (go_at_call 52; (with_reducible refine (HN1.out _).mono ?_); rintro e v2 ⟨rfl, d2⟩; have zS2 : v2.cell? ⟨b, k * 2, none⟩ = some (.int .i16 (n0 : Int)) ∧ v2.cell? ⟨b, k * 2 + 1, none⟩ = some (.int .i16 (n1 : Int)) := keepCStock d2 (Nat.lt_of_lt_of_le hbl K1.size) zS1; have K2 := blink K1 d2))
        go_wp2_with fail
        go_roundw
        case rel => exact ⟨k + 1, by omega, by go_num, by rw [HSS.out], HB.out.trans (K2.mono hwr)⟩
        case measure => simp [intOf]; omega
    · have hk' : k = len := by omega
      have HE : Hid (wJ ws k = wJ ws len) := Lib.hid (by rw [hk'])
      clear hk' hnx
      go_wp2_with fail
      go_ret
      exact ⟨by rw [← HE.out]; rfl, HB.out⟩
theorem swStock_zero (a : Option Addr) (cap : Nat) (w : World) :
    Calls Tryd.prog 35 #[.slice a 0 cap] w fun e w' => e = .returned (.string (str [])) ∧ Below w.heap.size w w' := by
  go_enter Tryd.func35, Tryd.ntmps35
  go_wp2_with fail
  refine wp_loop_rounds 1 ?_
  rw [rounds_succ]
  go_wp2_with fail
  go_ret
  exact ⟨rfl, Below.refl _ _⟩
set_option maxHeartbeats 1000000 in
theorem swStock_any (v : Value) (ps : List (Int × Int)) (w : World) (hv : ReadsP w v ps) (hfit : FitsP ps) (hx : ps.length ≤ 1048576) :
    Calls Tryd.prog 13 #[v] w fun e w' => e = .returned (.string (str (textStock ps))) ∧ Below w.heap.size w w' := by
  cases hvf : vldS ps
  · rw [textStock_no hvf]
    have HV := Lib.hid hvf
    clear hvf
    go_enter Tryd.func13, Tryd.ntmps13
    go_wp2_with fail
    refine (sstock_any _ ps _ hv hfit hx).mono ?_
    rintro e w1 ⟨rfl, b1⟩
    rw [HV.out]
    go_wp2_with fail
    go_ret
    exact ⟨rfl, b1⟩
  · rw [textStock_ok hvf]
    have HT : Hid (∀ W, Below w.heap.size w W → Calls Tryd.prog 35 #[v] W fun e w' => e = .returned (.string (str (wJ (wordsStock ps) ps.length))) ∧ Below W.heap.size W w') := Lib.hid (fun W hb => by
      obtain ⟨a, cap, rfl, h⟩ := hv.below hb
      by_cases h0 : ps = []
      · subst h0
        exact swStock_zero a cap W
      · obtain ⟨b, rfl, hcl⟩ := h h0
        exact swStock_row b ps.length cap ps rfl hvf W hcl)
    have HV := Lib.hid hvf
    clear hvf
    go_enter Tryd.func13, Tryd.ntmps13
    go_wp2_with fail
    refine (sstock_any _ ps _ hv hfit hx).mono ?_
    rintro e w1 ⟨rfl, b1⟩
    rw [HV.out]
    go_wp2_with fail
    refine (HT.out _ b1).mono ?_
    rintro e w2 ⟨rfl, b2⟩
    go_wp2_with fail
    go_ret
    exact ⟨rfl, blink b1 b2⟩
end Go.Proofs.YtfngcaoknahonaaDoor
