/-
  Which nets are valid: both checks answer 'vldN'.
-/
import Derived.Test.YtbclmafplaipaaaDoorNtA
import Derived.Test.YtbclmafplaipaaaDoorWi
import Derived.Test.YtbclmafplaipaaaDoorIn
namespace Go.Proofs.YtbclmafplaipaaaDoor
open Go Go.RowKit
set_option linter.unusedVariables false

abbrev netB (st sy : Int) (u : Value) : Array Value := #[.int .i8 st, .int .i16 sy, u]

theorem in_same (n lo hi : Int) (w : World) : Calls Tryd.prog 115 #[.int .i64 n, .int .i64 lo, .int .i64 hi] w fun e w' => e = .returned (.bool (inB n lo hi)) ∧ w = w' :=
  (in_any n lo hi w).mono fun e w' h => ⟨h.1, h.2.symm⟩
/-- The program's check of some stations. -/
theorem ihas_any (st sy : Int) (u v : Value) (xs : List Int) (w : World) (h8 : -128 ≤ st ∧ st ≤ 127) (hv : ReadsI w v xs) (hx : xs.length ≤ 1048576) :
    Calls Tryd.prog 158 #[netV st sy u, v] w fun e w' => e = .returned (.bool (betwB xs 0 (st - 1))) ∧ Below w.heap.size w w' := by
  have HV := Lib.hid hv
  clear hv
  go_enter Tryd.func158, Tryd.ntmps158
  go_wp2_with fail
  refine (within64_any v xs 0 (st - 1) _ (HV.out.below ((Below.refl _ _).alloc (Nat.le_refl _) _)) hx).mono ?_
  rintro e w2 ⟨rfl, rfl⟩
  go_wp2_with fail
  go_ret
  exact ⟨rfl, (Below.refl _ _).alloc (Nat.le_refl _) _⟩
theorem reads_two {w : World} {b : Nat} {x y : Int} (h0 : w.cell? ⟨b, 0, none⟩ = some (.int .i64 x)) (h1 : w.cell? ⟨b, 1, none⟩ = some (.int .i64 y)) : ReadsI w (.slice (some ⟨b, 0, none⟩) 2 2) [x, y] :=
  ⟨_, 2, rfl, fun _ => ⟨b, rfl, fun i hi => by
    rcases i with _ | _ | i
    · exact h0
    · exact h1
    · simp at hi; omega⟩⟩

/-- The model's check of a station. -/
theorem sstat_any (B : Nat) (T : TypeId) (st sy : Int) (u : Value) (x : Int) (w : World) (h8 : -128 ≤ st ∧ st ≤ 127) (hb : BlkA w B T (netB st sy u)) :
    Calls Tryd.prog 135 #[.pointer (some ⟨B, 0, none⟩), .int .i64 x] w fun e w' => e = .returned (.bool (inB x 0 (st - 1))) ∧ w = w' := by
  have c0 : w.cell? ⟨B, 0, none⟩ = some (.int .i8 st) := hb.at 0
  clear hb
  go_enter Tryd.func135, Tryd.ntmps135
  go_wp2_with fail
  refine (in_same x 0 (st - 1) _).mono ?_
  rintro e w2 ⟨rfl, rfl⟩
  go_wp2_with fail
  go_ret
  exact ⟨rfl, rfl⟩

set_option maxHeartbeats 8000000 in
set_option maxRecDepth 100000 in
theorem svldN_row (B : Nat) (st sy : Int) (b len cap : Nat) (ps : List Lan) (hl : ps.length = len) (h20 : len ≤ 20) (hs : 1 ≤ st ∧ st ≤ 8) (hy : 0 ≤ sy ∧ sy ≤ 40) (hfit : FitsLa ps) (w : World)
    (hb : BlkA w B 72 (netB st sy (.slice (some ⟨b, 0, none⟩) len cap))) (hc : CellsLa w b ps) :
    Calls Tryd.prog 107 #[.pointer (some ⟨B, 0, none⟩)] w fun e w' => e = .returned (.bool (vldN st sy ps)) ∧ Below w.heap.size w w' := by
  have HL := Lib.hid hl
  have HI := Lib.hid hfit
  have HBX := Lib.hid hb
  have HC := Lib.hid hc
  have c0 : w.cell? ⟨B, 0, none⟩ = some (.int .i8 st) := hb.at 0
  have c1 : w.cell? ⟨B, 1, none⟩ = some (.int .i16 sy) := hb.at 1
  have c2 : w.cell? ⟨B, 2, none⟩ = some (.slice (some ⟨b, 0, none⟩) len cap) := hb.at 2
  have i1 := inB_true hs
  have i2 := inB_true hy
  have i3 : decide ((20 : Int) < (len : Int)) = false := decide_eq_false (by omega)
  clear hl hfit hb hc
  go_enter Tryd.func107, Tryd.ntmps107
  go_wp2_with (go_at_call 115; refine (in_same _ _ _ _).mono ?_; rintro e w2 ⟨rfl, rfl⟩)
  clear c0 c1 c2
  go_loopw [3] (fun i wr => ∃ k : Nat, k ≤ len ∧ i = .int .i64 k ∧ OkLaTo st ps k ∧ Below w.heap.size w wr) (fun i _ => len - (intOf i).toNat)
  case atStart => exact ⟨0, Nat.zero_le _, rfl, OkLaTo.zero st ps, Below.refl _ _⟩
  case round =>
    obtain ⟨k, hk, rfl, hr, hnx⟩ := hrel
    have HR := Lib.hid hr
    have HB := Lib.hid hnx
    have bx := HBX.out.below hnx
    have c2 : wr.cell? ⟨B, 2, none⟩ = some (.slice (some ⟨b, 0, none⟩) len cap) := bx.at 2
    have HBXr := Lib.hid bx
    by_cases hlt : k < len
    · obtain ⟨e0, e1, e2, e3⟩ := HC.out.below hnx k (by have := HL.out; omega)
      have hf := HI.out.get k (by have := HL.out; omega)
      obtain ⟨q, hq⟩ : ∃ q, ps.getD k (0, 0, 0, 0) = q := ⟨_, rfl⟩
      rw [hq] at e0 e1 e2 e3 hf
      obtain ⟨x0, x1, x2, x3⟩ := q
      unfold FitLa at hf
      simp only at hf
      obtain ⟨⟨l0, u0⟩, ⟨l1, u1⟩, ⟨l2, u2⟩, l3, u3⟩ := hf
      have hwr : w.heap.size ≤ wr.heap.size := hnx.size
      have hkl : (k : Int) < (len : Int) := by omega
      have HOK : Hid (okLa st (ps.getD k (0, 0, 0, 0)) ↔ ((0 ≤ x0 ∧ x0 ≤ st - 1) ∧ (0 ≤ x1 ∧ x1 ≤ st - 1) ∧ x0 ≠ x1 ∧ 1 ≤ x2 ∧ x2 ≤ x3 ∧ x3 ≤ 40)) := Lib.hid (by unfold okLa; rw [hq])
      have HST : Hid (-128 ≤ st ∧ st ≤ 127) := Lib.hid (by omega)
      clear hq hr hnx bx
      by_cases t0 : 0 ≤ x0 ∧ x0 ≤ st - 1
      · have d0 := inB_true t0
        by_cases t1 : 0 ≤ x1 ∧ x1 ≤ st - 1
        · have d1 := inB_true t1
          by_cases t2 : x0 = x1
          · have d2 : (x0 == x1) = true := by simp [t2]
            have HT := Lib.hid t2
            clear t2
            go_wp2_with (go_at_call 135; refine (sstat_any B 72 st sy (.slice (some ⟨b, 0, none⟩) len cap) _ _ HST.out (HBXr.out.alloc _)).mono ?_; rintro e w2 ⟨rfl, rfl⟩)
            go_ret
            exact ⟨(ret_bool (vldN_bad (k := k) (by have := HL.out; omega) (fun h => by have := HOK.out.1 h; have := HT.out; omega))).symm, by repeat (first | exact HB.out | refine Below.drew ?_ | refine Below.alloc ?_ (by first | (simp; done) | (simp; omega) | omega) _)⟩
          · have d2 : (x0 == x1) = false := by simp [t2]
            have HT := Lib.hid t2
            clear t2
            by_cases t3 : x2 < 1
            · have d3 : decide (x2 < 1) = true := decide_eq_true t3
              go_wp2_with (go_at_call 135; refine (sstat_any B 72 st sy (.slice (some ⟨b, 0, none⟩) len cap) _ _ HST.out (HBXr.out.alloc _)).mono ?_; rintro e w2 ⟨rfl, rfl⟩)
              go_ret
              exact ⟨(ret_bool (vldN_bad (k := k) (by have := HL.out; omega) (fun h => by have := HOK.out.1 h; omega))).symm, by repeat (first | exact HB.out | refine Below.drew ?_ | refine Below.alloc ?_ (by first | (simp; done) | (simp; omega) | omega) _)⟩
            · have d3 : decide (x2 < 1) = false := decide_eq_false t3
              by_cases t4 : x3 < x2
              · have d4 : decide (x3 < x2) = true := decide_eq_true t4
                go_wp2_with (go_at_call 135; refine (sstat_any B 72 st sy (.slice (some ⟨b, 0, none⟩) len cap) _ _ HST.out (HBXr.out.alloc _)).mono ?_; rintro e w2 ⟨rfl, rfl⟩)
                go_ret
                exact ⟨(ret_bool (vldN_bad (k := k) (by have := HL.out; omega) (fun h => by have := HOK.out.1 h; omega))).symm, by repeat (first | exact HB.out | refine Below.drew ?_ | refine Below.alloc ?_ (by first | (simp; done) | (simp; omega) | omega) _)⟩
              · have d4 : decide (x3 < x2) = false := decide_eq_false t4
                by_cases t5 : (40 : Int) < x3
                · have d5 : decide ((40 : Int) < x3) = true := decide_eq_true t5
                  go_wp2_with (go_at_call 135; refine (sstat_any B 72 st sy (.slice (some ⟨b, 0, none⟩) len cap) _ _ HST.out (HBXr.out.alloc _)).mono ?_; rintro e w2 ⟨rfl, rfl⟩)
                  go_ret
                  exact ⟨(ret_bool (vldN_bad (k := k) (by have := HL.out; omega) (fun h => by have := HOK.out.1 h; omega))).symm, by repeat (first | exact HB.out | refine Below.drew ?_ | refine Below.alloc ?_ (by first | (simp; done) | (simp; omega) | omega) _)⟩
                · have d5 : decide ((40 : Int) < x3) = false := decide_eq_false t5
                  go_wp2_with (go_at_call 135; refine (sstat_any B 72 st sy (.slice (some ⟨b, 0, none⟩) len cap) _ _ HST.out (HBXr.out.alloc _)).mono ?_; rintro e w2 ⟨rfl, rfl⟩)
                  go_roundw
                  case rel => exact ⟨k + 1, by omega, by go_num, HR.out.succ (HOK.out.2 (by have := HT.out; omega)), by repeat (first | exact HB.out | refine Below.drew ?_ | refine Below.alloc ?_ (by first | (simp; done) | (simp; omega) | omega) _)⟩
                  case measure => simp [intOf]; omega
        · have d1 := inB_false t1
          have HT := Lib.hid t1
          clear t1
          go_wp2_with (go_at_call 135; refine (sstat_any B 72 st sy (.slice (some ⟨b, 0, none⟩) len cap) _ _ HST.out (HBXr.out.alloc _)).mono ?_; rintro e w2 ⟨rfl, rfl⟩)
          go_ret
          exact ⟨(ret_bool (vldN_bad (k := k) (by have := HL.out; omega) (fun h => HT.out (HOK.out.1 h).2.1))).symm, by repeat (first | exact HB.out | refine Below.drew ?_ | refine Below.alloc ?_ (by first | (simp; done) | (simp; omega) | omega) _)⟩
      · have d0 := inB_false t0
        have HT := Lib.hid t0
        clear t0
        go_wp2_with (go_at_call 135; refine (sstat_any B 72 st sy (.slice (some ⟨b, 0, none⟩) len cap) _ _ HST.out (HBXr.out.alloc _)).mono ?_; rintro e w2 ⟨rfl, rfl⟩)
        go_ret
        exact ⟨(ret_bool (vldN_bad (k := k) (by have := HL.out; omega) (fun h => HT.out (HOK.out.1 h).1))).symm, by repeat (first | exact HB.out | refine Below.drew ?_ | refine Below.alloc ?_ (by first | (simp; done) | (simp; omega) | omega) _)⟩
    · have hk' : k = len := by omega
      have HE := Lib.hid hk'
      have HS := Lib.hid hs
      have HY := Lib.hid hy
      clear hk' hr hnx bx
      go_wp2_with fail
      go_ret
      exact ⟨(ret_bool (vldN_true ⟨HS.out, HY.out, by rw [HL.out]; omega, by rw [HL.out, ← HE.out]; exact HR.out⟩)).symm, HB.out⟩
end Go.Proofs.YtbclmafplaipaaaDoor
