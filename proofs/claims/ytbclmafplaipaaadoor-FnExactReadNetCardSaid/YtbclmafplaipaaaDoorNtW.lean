/-
  Which nets are valid: the model's check whole, and the program's.
-/
import Derived.Test.YtbclmafplaipaaaDoorNtV
namespace Go.Proofs.YtbclmafplaipaaaDoor
open Go Go.RowKit
set_option linter.unusedVariables false

set_option maxHeartbeats 4000000 in
theorem svldN_head (B : Nat) (st sy : Int) (a : Option Addr) (len cap : Nat) (w : World) (h8 : -128 ≤ st ∧ st ≤ 127) (h16 : -32768 ≤ sy ∧ sy ≤ 32767) (hm : len ≤ 1048576) (h : ¬ (1 ≤ st ∧ st ≤ 8) ∨ ¬ (0 ≤ sy ∧ sy ≤ 40) ∨ ¬ len ≤ 20)
    (hb : BlkA w B 72 (netB st sy (.slice a len cap))) :
    Calls Tryd.prog 107 #[.pointer (some ⟨B, 0, none⟩)] w fun e w' => e = .returned (.bool false) ∧ Below w.heap.size w w' := by
  have c0 : w.cell? ⟨B, 0, none⟩ = some (.int .i8 st) := hb.at 0
  have c1 : w.cell? ⟨B, 1, none⟩ = some (.int .i16 sy) := hb.at 1
  have c2 : w.cell? ⟨B, 2, none⟩ = some (.slice a len cap) := hb.at 2
  clear hb
  by_cases h1 : 1 ≤ st ∧ st ≤ 8
  · have i1 := inB_true h1
    by_cases h2 : 0 ≤ sy ∧ sy ≤ 40
    · have i2 := inB_true h2
      have i3 : decide ((20 : Int) < (len : Int)) = true := decide_eq_true (by omega)
      clear h
      go_enter Tryd.func107, Tryd.ntmps107
      go_wp2_with (go_at_call 115; refine (in_same _ _ _ _).mono ?_; rintro e w2 ⟨rfl, rfl⟩)
      go_ret
      exact ⟨rfl, Below.refl _ _⟩
    · have i2 := inB_false h2
      clear h h2
      go_enter Tryd.func107, Tryd.ntmps107
      go_wp2_with (go_at_call 115; refine (in_same _ _ _ _).mono ?_; rintro e w2 ⟨rfl, rfl⟩)
      go_ret
      exact ⟨rfl, Below.refl _ _⟩
  · have i1 := inB_false h1
    clear h h1
    go_enter Tryd.func107, Tryd.ntmps107
    go_wp2_with (go_at_call 115; refine (in_same _ _ _ _).mono ?_; rintro e w2 ⟨rfl, rfl⟩)
    go_ret
    exact ⟨rfl, Below.refl _ _⟩
set_option maxHeartbeats 4000000 in
theorem svldN_zero (B : Nat) (st sy : Int) (a : Option Addr) (cap : Nat) (w : World) (hs : 1 ≤ st ∧ st ≤ 8) (hy : 0 ≤ sy ∧ sy ≤ 40) (hb : BlkA w B 72 (netB st sy (.slice a 0 cap))) :
    Calls Tryd.prog 107 #[.pointer (some ⟨B, 0, none⟩)] w fun e w' => e = .returned (.bool true) ∧ Below w.heap.size w w' := by
  have c0 : w.cell? ⟨B, 0, none⟩ = some (.int .i8 st) := hb.at 0
  have c1 : w.cell? ⟨B, 1, none⟩ = some (.int .i16 sy) := hb.at 1
  have c2 : w.cell? ⟨B, 2, none⟩ = some (.slice a 0 cap) := hb.at 2
  have i1 := inB_true hs
  have i2 := inB_true hy
  clear hb
  go_enter Tryd.func107, Tryd.ntmps107
  go_wp2_with (go_at_call 115; refine (in_same _ _ _ _).mono ?_; rintro e w2 ⟨rfl, rfl⟩)
  refine wp_loop_rounds 1 ?_
  rw [rounds_succ]
  go_wp2_with fail
  go_ret
  exact ⟨rfl, Below.refl _ _⟩
theorem sok_any (B : Nat) (st sy : Int) (v : Value) (ps : List Lan) (w : World) (hn : FitN st sy ps) (hv : ReadsLa w v ps) (hb : BlkA w B 72 (netB st sy v)) :
    Calls Tryd.prog 107 #[.pointer (some ⟨B, 0, none⟩)] w fun e w' => e = .returned (.bool (vldN st sy ps)) ∧ Below w.heap.size w w' := by
  obtain ⟨a, cap, rfl, h⟩ := hv
  by_cases ht : (1 ≤ st ∧ st ≤ 8) ∧ (0 ≤ sy ∧ sy ≤ 40) ∧ ps.length ≤ 20
  · by_cases h0 : ps = []
    · subst h0
      rw [show vldN st sy [] = true from vldN_true ⟨ht.1, ht.2.1, by simp, OkLaTo.zero _ _⟩]
      exact svldN_zero B st sy a cap w ht.1 ht.2.1 hb
    · obtain ⟨b, rfl, hc⟩ := h h0
      exact svldN_row B st sy b ps.length cap ps rfl ht.2.2 ht.1 ht.2.1 hn.l w hb hc
  · rw [show vldN st sy ps = false from vldN_false (fun k => ht ⟨k.1, k.2.1, k.2.2.1⟩)]
    refine svldN_head B st sy a ps.length cap w hn.s hn.y hn.n ?_ hb
    by_cases h1 : 1 ≤ st ∧ st ≤ 8
    · by_cases h2 : 0 ≤ sy ∧ sy ≤ 40
      · exact .inr (.inr (fun h3 => ht ⟨h1, h2, h3⟩))
      · exact .inr (.inl h2)
    · exact .inl h1
set_option maxHeartbeats 4000000 in
theorem ivldN_head (st sy : Int) (a : Option Addr) (len cap : Nat) (w : World) (h8 : -128 ≤ st ∧ st ≤ 127) (h16 : -32768 ≤ sy ∧ sy ≤ 32767) (hm : len ≤ 1048576) (h : ¬ (1 ≤ st ∧ st ≤ 8) ∨ ¬ (0 ≤ sy ∧ sy ≤ 40) ∨ ¬ len ≤ 20) :
    Calls Tryd.prog 137 #[netV st sy (.slice a len cap)] w fun e w' => e = .returned (.bool false) ∧ Below w.heap.size w w' := by
  by_cases h1 : 1 ≤ st
  · have d1 : decide (st < 1) = false := decide_eq_false (by omega)
    by_cases h2 : st ≤ 8
    · have d2 : decide ((8 : Int) < st) = false := decide_eq_false (by omega)
      by_cases h3 : 0 ≤ sy
      · have d3 : decide (sy < 0) = false := decide_eq_false (by omega)
        by_cases h4 : sy ≤ 40
        · have d4 : decide ((40 : Int) < sy) = false := decide_eq_false (by omega)
          have d5 : decide ((20 : Int) < (len : Int)) = true := decide_eq_true (by omega)
          clear h
          go_enter Tryd.func137, Tryd.ntmps137
          go_wp2_with fail
          go_ret
          exact ⟨rfl, (Below.refl _ _).alloc (Nat.le_refl _) _⟩
        · have d4 : decide ((40 : Int) < sy) = true := decide_eq_true (by omega)
          clear h
          go_enter Tryd.func137, Tryd.ntmps137
          go_wp2_with fail
          go_ret
          exact ⟨rfl, (Below.refl _ _).alloc (Nat.le_refl _) _⟩
      · have d3 : decide (sy < 0) = true := decide_eq_true (by omega)
        clear h
        go_enter Tryd.func137, Tryd.ntmps137
        go_wp2_with fail
        go_ret
        exact ⟨rfl, (Below.refl _ _).alloc (Nat.le_refl _) _⟩
    · have d2 : decide ((8 : Int) < st) = true := decide_eq_true (by omega)
      clear h
      go_enter Tryd.func137, Tryd.ntmps137
      go_wp2_with fail
      go_ret
      exact ⟨rfl, (Below.refl _ _).alloc (Nat.le_refl _) _⟩
  · have d1 : decide (st < 1) = true := decide_eq_true (by omega)
    clear h
    go_enter Tryd.func137, Tryd.ntmps137
    go_wp2_with fail
    go_ret
    exact ⟨rfl, (Below.refl _ _).alloc (Nat.le_refl _) _⟩
set_option maxHeartbeats 4000000 in
theorem ivldN_zero (st sy : Int) (a : Option Addr) (cap : Nat) (w : World) (hs : 1 ≤ st ∧ st ≤ 8) (hy : 0 ≤ sy ∧ sy ≤ 40) :
    Calls Tryd.prog 137 #[netV st sy (.slice a 0 cap)] w fun e w' => e = .returned (.bool true) ∧ Below w.heap.size w w' := by
  have d1 : decide (st < 1) = false := decide_eq_false (by omega)
  have d2 : decide ((8 : Int) < st) = false := decide_eq_false (by omega)
  have d3 : decide (sy < 0) = false := decide_eq_false (by omega)
  have d4 : decide ((40 : Int) < sy) = false := decide_eq_false (by omega)
  go_enter Tryd.func137, Tryd.ntmps137
  go_wp2_with fail
  refine wp_loop_rounds 1 ?_
  rw [rounds_succ]
  go_wp2_with fail
  go_ret
  exact ⟨rfl, (Below.refl _ _).alloc (Nat.le_refl _) _⟩

set_option maxHeartbeats 8000000 in
set_option maxRecDepth 100000 in
theorem ivldN_row (st sy : Int) (b len cap : Nat) (ps : List Lan) (hl : ps.length = len) (h20 : len ≤ 20) (hs : 1 ≤ st ∧ st ≤ 8) (hy : 0 ≤ sy ∧ sy ≤ 40) (hfit : FitsLa ps) (w : World) (hc : CellsLa w b ps) :
    Calls Tryd.prog 137 #[netV st sy (.slice (some ⟨b, 0, none⟩) len cap)] w fun e w' => e = .returned (.bool (vldN st sy ps)) ∧ Below w.heap.size w w' := by
  have HL := Lib.hid hl
  have HI := Lib.hid hfit
  have HC := Lib.hid (hc.below ((Below.refl w.heap.size w).alloc (Nat.le_refl _) (.cells (netB st sy (.slice (some ⟨b, 0, none⟩) len cap)) 72)))
  have d1 : decide (st < 1) = false := decide_eq_false (by omega)
  have d2 : decide ((8 : Int) < st) = false := decide_eq_false (by omega)
  have d3 : decide (sy < 0) = false := decide_eq_false (by omega)
  have d4 : decide ((40 : Int) < sy) = false := decide_eq_false (by omega)
  have d5 : decide ((20 : Int) < (len : Int)) = false := decide_eq_false (by omega)
  have HBX : Hid (BlkA (w.alloc (.cells (netB st sy (.slice (some ⟨b, 0, none⟩) len cap)) 72)) w.heap.size 72 (netB st sy (.slice (some ⟨b, 0, none⟩) len cap))) := Lib.hid (BlkA.new rfl _ _)
  have HBW : Hid (Below w.heap.size w (w.alloc (.cells (netB st sy (.slice (some ⟨b, 0, none⟩) len cap)) 72))) := Lib.hid ((Below.refl _ _).alloc (Nat.le_refl _) _)
  clear hl hfit hc
  go_enter Tryd.func137, Tryd.ntmps137
  go_wp2_with fail
  have hs1 : w.heap.size < (w.alloc (.cells (netB st sy (.slice (some ⟨b, 0, none⟩) len cap)) 72)).heap.size := by simp
  obtain ⟨w1, hw1⟩ : ∃ W, w.alloc (.cells (netB st sy (.slice (some ⟨b, 0, none⟩) len cap)) 72) = W := ⟨_, rfl⟩
  have hw1' : w.alloc (.cells #[.int .i8 st, .int .i16 sy, .slice (some ⟨b, 0, none⟩) len cap] 72) = w1 := hw1
  rw [hw1] at HBX HBW HC hs1
  rw [hw1']
  clear hw1 hw1'
  go_loopw [32] (fun i wr => ∃ k : Nat, k ≤ len ∧ i = .int .i64 k ∧ OkLaTo st ps k ∧ Below w1.heap.size w1 wr) (fun i _ => len - (intOf i).toNat)
  case atStart => exact ⟨0, Nat.zero_le _, rfl, OkLaTo.zero st ps, Below.refl _ _⟩
  case round =>
    obtain ⟨k, hk, rfl, hr, hnx⟩ := hrel
    have HR := Lib.hid hr
    have HB0 := Lib.hid hnx
    have HB := Lib.hid (blink HBW.out (hnx.mono (by omega)))
    have bx := HBX.out.below hnx
    have n0 : wr.cell? ⟨w.heap.size, 0, none⟩ = some (.int .i8 st) := bx.at 0
    have n1 : wr.cell? ⟨w.heap.size, 1, none⟩ = some (.int .i16 sy) := bx.at 1
    have n2 : wr.cell? ⟨w.heap.size, 2, none⟩ = some (.slice (some ⟨b, 0, none⟩) len cap) := bx.at 2
    have HBXr := Lib.hid bx
    by_cases hlt : k < len
    · obtain ⟨e0, e1, e2, e3⟩ := HC.out.below hnx k (by have := HL.out; omega)
      have hf := HI.out.get k (by have := HL.out; omega)
      obtain ⟨q, hq⟩ : ∃ q, ps.getD k (0, 0, 0, 0) = q := ⟨_, rfl⟩
      rw [hq] at e0 e1 e2 e3 hf
      obtain ⟨x0, x1, x2, x3⟩ := q
      unfold FitLa at hf
      simp only at hf
      obtain ⟨⟨l0, u0⟩, ⟨l1, u1⟩, ⟨l2, u2⟩, l3, u3⟩ := hf
      have hwr : w1.heap.size ≤ wr.heap.size := hnx.size
      have hkl : (k : Int) < (len : Int) := by omega
      have HOK : Hid (okLa st (ps.getD k (0, 0, 0, 0)) ↔ ((0 ≤ x0 ∧ x0 ≤ st - 1) ∧ (0 ≤ x1 ∧ x1 ≤ st - 1) ∧ x0 ≠ x1 ∧ 1 ≤ x2 ∧ x2 ≤ x3 ∧ x3 ≤ 40)) := Lib.hid (by unfold okLa; rw [hq])
      have HST : Hid (-128 ≤ st ∧ st ≤ 127) := Lib.hid (by omega)
      clear hq hr hnx bx
      have hsw : w.heap.size < wr.heap.size := by omega
      by_cases t0 : (0 ≤ x0 ∧ x0 ≤ st - 1) ∧ (0 ≤ x1 ∧ x1 ≤ st - 1)
      · have hb0 := betw2_true t0
        by_cases t2 : x0 = x1
        · have g2 : (x0 == x1) = true := by simp [t2]
          have HT := Lib.hid t2
          clear t2
          go_wp2_with (go_at_call 158; refine (ihas_any st sy _ _ [x0, x1] _ HST.out (reads_two (by simp; done) (by simp; done)) (by simp)).mono ?_; rintro e w2 ⟨rfl, b2⟩; have hs2 := b2.size; simp at hs2; have z0 := b2.cell (p := ⟨wr.heap.size, 0, none⟩) (by simp; omega); have z1 := b2.cell (p := ⟨wr.heap.size, 1, none⟩) (by simp; omega); have z2 := b2.cell (p := ⟨wr.heap.size, 2, none⟩) (by simp; omega); have z3 := b2.cell (p := ⟨wr.heap.size, 3, none⟩) (by simp; omega); have hz2 : wr.heap.size < w2.heap.size := by omega)
          go_ret
          exact ⟨(ret_bool (vldN_bad (k := k) (by have := HL.out; omega) (fun h => by have := HOK.out.1 h; have := HT.out; omega))).symm, by repeat (first | exact HB.out | exact HB0.out | refine Below.trans ?_ (b2.mono (by first | omega | (simp; omega))) | refine Below.drew ?_ | refine Below.setCell ?_ (by first | (simp; done) | (simp; omega) | omega) _ | refine Below.alloc ?_ (by first | (simp; done) | (simp; omega) | omega) _)⟩
        · have g2 : (x0 == x1) = false := by simp [t2]
          have HT := Lib.hid t2
          clear t2
          by_cases t3 : x2 < 1
          · have gt3 : decide (x2 < 1) = true := decide_eq_true t3
            go_wp2_with (go_at_call 158; refine (ihas_any st sy _ _ [x0, x1] _ HST.out (reads_two (by simp; done) (by simp; done)) (by simp)).mono ?_; rintro e w2 ⟨rfl, b2⟩; have hs2 := b2.size; simp at hs2; have z0 := b2.cell (p := ⟨wr.heap.size, 0, none⟩) (by simp; omega); have z1 := b2.cell (p := ⟨wr.heap.size, 1, none⟩) (by simp; omega); have z2 := b2.cell (p := ⟨wr.heap.size, 2, none⟩) (by simp; omega); have z3 := b2.cell (p := ⟨wr.heap.size, 3, none⟩) (by simp; omega); have hz2 : wr.heap.size < w2.heap.size := by omega)
            go_ret
            exact ⟨(ret_bool (vldN_bad (k := k) (by have := HL.out; omega) (fun h => by have := HOK.out.1 h; omega))).symm, by repeat (first | exact HB.out | exact HB0.out | refine Below.trans ?_ (b2.mono (by first | omega | (simp; omega))) | refine Below.drew ?_ | refine Below.setCell ?_ (by first | (simp; done) | (simp; omega) | omega) _ | refine Below.alloc ?_ (by first | (simp; done) | (simp; omega) | omega) _)⟩
          · have gt3 : decide (x2 < 1) = false := decide_eq_false t3
            by_cases t4 : x3 < x2
            · have gt4 : decide (x3 < x2) = true := decide_eq_true t4
              go_wp2_with (go_at_call 158; refine (ihas_any st sy _ _ [x0, x1] _ HST.out (reads_two (by simp; done) (by simp; done)) (by simp)).mono ?_; rintro e w2 ⟨rfl, b2⟩; have hs2 := b2.size; simp at hs2; have z0 := b2.cell (p := ⟨wr.heap.size, 0, none⟩) (by simp; omega); have z1 := b2.cell (p := ⟨wr.heap.size, 1, none⟩) (by simp; omega); have z2 := b2.cell (p := ⟨wr.heap.size, 2, none⟩) (by simp; omega); have z3 := b2.cell (p := ⟨wr.heap.size, 3, none⟩) (by simp; omega); have hz2 : wr.heap.size < w2.heap.size := by omega)
              go_ret
              exact ⟨(ret_bool (vldN_bad (k := k) (by have := HL.out; omega) (fun h => by have := HOK.out.1 h; omega))).symm, by repeat (first | exact HB.out | exact HB0.out | refine Below.trans ?_ (b2.mono (by first | omega | (simp; omega))) | refine Below.drew ?_ | refine Below.setCell ?_ (by first | (simp; done) | (simp; omega) | omega) _ | refine Below.alloc ?_ (by first | (simp; done) | (simp; omega) | omega) _)⟩
            · have gt4 : decide (x3 < x2) = false := decide_eq_false t4
              by_cases t5 : (40 : Int) < x3
              · have gt5 : decide ((40 : Int) < x3) = true := decide_eq_true t5
                go_wp2_with (go_at_call 158; refine (ihas_any st sy _ _ [x0, x1] _ HST.out (reads_two (by simp; done) (by simp; done)) (by simp)).mono ?_; rintro e w2 ⟨rfl, b2⟩; have hs2 := b2.size; simp at hs2; have z0 := b2.cell (p := ⟨wr.heap.size, 0, none⟩) (by simp; omega); have z1 := b2.cell (p := ⟨wr.heap.size, 1, none⟩) (by simp; omega); have z2 := b2.cell (p := ⟨wr.heap.size, 2, none⟩) (by simp; omega); have z3 := b2.cell (p := ⟨wr.heap.size, 3, none⟩) (by simp; omega); have hz2 : wr.heap.size < w2.heap.size := by omega)
                go_ret
                exact ⟨(ret_bool (vldN_bad (k := k) (by have := HL.out; omega) (fun h => by have := HOK.out.1 h; omega))).symm, by repeat (first | exact HB.out | exact HB0.out | refine Below.trans ?_ (b2.mono (by first | omega | (simp; omega))) | refine Below.drew ?_ | refine Below.setCell ?_ (by first | (simp; done) | (simp; omega) | omega) _ | refine Below.alloc ?_ (by first | (simp; done) | (simp; omega) | omega) _)⟩
              · have gt5 : decide ((40 : Int) < x3) = false := decide_eq_false t5
                go_wp2_with (go_at_call 158; refine (ihas_any st sy _ _ [x0, x1] _ HST.out (reads_two (by simp; done) (by simp; done)) (by simp)).mono ?_; rintro e w2 ⟨rfl, b2⟩; have hs2 := b2.size; simp at hs2; have z0 := b2.cell (p := ⟨wr.heap.size, 0, none⟩) (by simp; omega); have z1 := b2.cell (p := ⟨wr.heap.size, 1, none⟩) (by simp; omega); have z2 := b2.cell (p := ⟨wr.heap.size, 2, none⟩) (by simp; omega); have z3 := b2.cell (p := ⟨wr.heap.size, 3, none⟩) (by simp; omega); have hz2 : wr.heap.size < w2.heap.size := by omega)
                go_roundw
                case rel => exact ⟨k + 1, by omega, by go_num, HR.out.succ (HOK.out.2 (by have := HT.out; omega)), by repeat (first | exact HB.out | exact HB0.out | refine Below.trans ?_ (b2.mono (by first | omega | (simp; omega))) | refine Below.drew ?_ | refine Below.setCell ?_ (by first | (simp; done) | (simp; omega) | omega) _ | refine Below.alloc ?_ (by first | (simp; done) | (simp; omega) | omega) _)⟩
                case measure => simp [intOf]; omega
      · have hb0 := betw2_false t0
        have HT := Lib.hid t0
        clear t0
        go_wp2_with (go_at_call 158; refine (ihas_any st sy _ _ [x0, x1] _ HST.out (reads_two (by simp; done) (by simp; done)) (by simp)).mono ?_; rintro e w2 ⟨rfl, b2⟩; have hs2 := b2.size; simp at hs2; have z0 := b2.cell (p := ⟨wr.heap.size, 0, none⟩) (by simp; omega); have z1 := b2.cell (p := ⟨wr.heap.size, 1, none⟩) (by simp; omega); have z2 := b2.cell (p := ⟨wr.heap.size, 2, none⟩) (by simp; omega); have z3 := b2.cell (p := ⟨wr.heap.size, 3, none⟩) (by simp; omega); have hz2 : wr.heap.size < w2.heap.size := by omega)
        go_ret
        exact ⟨(ret_bool (vldN_bad (k := k) (by have := HL.out; omega) (fun h => by exact HT.out ⟨(HOK.out.1 h).1, (HOK.out.1 h).2.1⟩))).symm, by repeat (first | exact HB.out | exact HB0.out | refine Below.trans ?_ (b2.mono (by first | omega | (simp; omega))) | refine Below.drew ?_ | refine Below.setCell ?_ (by first | (simp; done) | (simp; omega) | omega) _ | refine Below.alloc ?_ (by first | (simp; done) | (simp; omega) | omega) _)⟩
    · have hk' : k = len := by omega
      have HE := Lib.hid hk'
      have HS := Lib.hid hs
      have HY := Lib.hid hy
      clear hk' hr hnx bx
      go_wp2_with fail
      go_ret
      exact ⟨(ret_bool (vldN_true ⟨HS.out, HY.out, by rw [HL.out]; omega, by rw [HL.out, ← HE.out]; exact HR.out⟩)).symm, HB.out⟩
theorem ivldN_any (st sy : Int) (v : Value) (ps : List Lan) (w : World) (hn : FitN st sy ps) (hv : ReadsLa w v ps) :
    Calls Tryd.prog 137 #[netV st sy v] w fun e w' => e = .returned (.bool (vldN st sy ps)) ∧ Below w.heap.size w w' := by
  obtain ⟨a, cap, rfl, h⟩ := hv
  by_cases ht : (1 ≤ st ∧ st ≤ 8) ∧ (0 ≤ sy ∧ sy ≤ 40) ∧ ps.length ≤ 20
  · by_cases h0 : ps = []
    · subst h0
      rw [show vldN st sy [] = true from vldN_true ⟨ht.1, ht.2.1, by simp, OkLaTo.zero _ _⟩]
      exact ivldN_zero st sy a cap w ht.1 ht.2.1
    · obtain ⟨b, rfl, hc⟩ := h h0
      exact ivldN_row st sy b ps.length cap ps rfl ht.2.2 ht.1 ht.2.1 hn.l w hc
  · rw [show vldN st sy ps = false from vldN_false (fun k => ht ⟨k.1, k.2.1, k.2.2.1⟩)]
    refine ivldN_head st sy a ps.length cap w hn.s hn.y hn.n ?_
    by_cases h1 : 1 ≤ st ∧ st ≤ 8
    · by_cases h2 : 0 ≤ sy ∧ sy ≤ 40
      · exact .inr (.inr (fun h3 => ht ⟨h1, h2, h3⟩))
      · exact .inr (.inl h2)
    · exact .inl h1
end Go.Proofs.YtbclmafplaipaaaDoor
