/-
  The program's CanGo.
-/
import Derived.Test.YtlempmahkeilpaaArW
import Derived.Test.YtlempmahkeilpaaCgS
namespace Go.Proofs.Ytlempmahkeilpaa
open Go Go.RowKit
set_option linter.unusedVariables false

theorem cg_chk (st sy : Int) (ps : List Lan) (x0 x1 y0 y1 : Int) : chkC st sy ps [(x0, x1), (y0, y1)] [] [] = cgC st sy ps x0 x1 y0 y1 := by
  unfold chkC cgC askC
  have h2 : betwB [] 0 300 = true := betwB_true (betw.zero _ _ _)
  have h1 : betwB [] 0 (st - 1) = true := betwB_true (betw.zero _ _ _)
  have h3 : scsB st [(x0, x1), (y0, y1)] = (scB st x0 x1 && scB st y0 y1) := by
    rw [Bool.eq_iff_iff, Bool.and_eq_true]
    unfold scsB scB
    simp only [decide_eq_true_eq]
    constructor
    · intro h; exact ⟨h 0 (by simp), h 1 (by simp)⟩
    · rintro ⟨h, g⟩ i hi
      match i, hi with
      | 0, _ => exact h
      | 1, _ => exact g
  rw [h1, h2, h3]
  simp
/-- Two scans in a row. -/
theorem reads_sc2 {w : World} {b : Nat} {x0 x1 y0 y1 : Int} (h0 : w.cell? ⟨b, 0, none⟩ = some (.int .i8 x0)) (h1 : w.cell? ⟨b, 1, none⟩ = some (.int .i16 x1)) (h2 : w.cell? ⟨b, 2, none⟩ = some (.int .i8 y0)) (h3 : w.cell? ⟨b, 3, none⟩ = some (.int .i16 y1)) : ReadsSc w (.slice (some ⟨b, 0, none⟩) 2 2) [(x0, x1), (y0, y1)] :=
  ⟨_, 2, rfl, fun _ => ⟨b, rfl, fun i hi => by
    match i, hi with
    | 0, _ => exact ⟨h0, h1⟩
    | 1, _ => exact ⟨h2, h3⟩⟩⟩

set_option maxHeartbeats 8000000 in
set_option maxRecDepth 100000 in
theorem icg_any (st sy : Int) (v : Value) (ps : List Lan) (x0 x1 y0 y1 : Int) (w : World) (hn : FitN st sy ps) (hx : FitSc (x0, x1)) (hy : FitSc (y0, y1)) (hv : ReadsLa w v ps) :
    Calls Try.prog 58 #[netV st sy v, .agg #[.int .i8 x0, .int .i16 x1], .agg #[.int .i8 y0, .int .i16 y1]] w (RetCg w (cgR st sy ps x0 x1 y0 y1) (cgC st sy ps x0 x1 y0 y1)) := by
  have HV := Lib.hid hv
  have HN := Lib.hid hn
  have HX := Lib.hid hx
  have HY := Lib.hid hy
  obtain ⟨a, cap, rfl, ha⟩ := hv
  obtain ⟨len, hlen⟩ : ∃ m, ps.length = m := ⟨_, rfl⟩
  have HM := Lib.hid hlen
  have hb1 : Below w.heap.size w (((w.alloc (.cells #[.int .i8 st, .int .i16 sy, .slice a len cap] 35)).alloc (.cells #[.int .i8 x0, .int .i16 x1] 37)).alloc (.cells #[.int .i8 y0, .int .i16 y1] 37)) := (((Below.refl _ _).alloc (Nat.le_refl _) _).alloc (by simp) _).alloc (by simp; omega) _
  have BN : BlkA (((w.alloc (.cells #[.int .i8 st, .int .i16 sy, .slice a len cap] 35)).alloc (.cells #[.int .i8 x0, .int .i16 x1] 37)).alloc (.cells #[.int .i8 y0, .int .i16 y1] 37)) w.heap.size 35 #[.int .i8 st, .int .i16 sy, .slice a len cap] := ((BlkA.new rfl _ _).alloc _).alloc _
  have BX : BlkA (((w.alloc (.cells #[.int .i8 st, .int .i16 sy, .slice a len cap] 35)).alloc (.cells #[.int .i8 x0, .int .i16 x1] 37)).alloc (.cells #[.int .i8 y0, .int .i16 y1] 37)) (w.heap.size + 1) 37 #[.int .i8 x0, .int .i16 x1] := (BlkA.new (by simp) _ _).alloc _
  have BY : BlkA (((w.alloc (.cells #[.int .i8 st, .int .i16 sy, .slice a len cap] 35)).alloc (.cells #[.int .i8 x0, .int .i16 x1] 37)).alloc (.cells #[.int .i8 y0, .int .i16 y1] 37)) (w.heap.size + 1 + 1) 37 #[.int .i8 y0, .int .i16 y1] := BlkA.new (by simp) _ _
  rw [hlen] at HV ⊢
  clear ha hlen hn hx hy
  obtain ⟨W1, hW⟩ : ∃ W, (((w.alloc (.cells #[.int .i8 st, .int .i16 sy, .slice a len cap] 35)).alloc (.cells #[.int .i8 x0, .int .i16 x1] 37)).alloc (.cells #[.int .i8 y0, .int .i16 y1] 37)) = W := ⟨_, rfl⟩
  rw [hW] at hb1 BN BX BY
  have hs1 : W1.heap.size = w.heap.size + 1 + 1 + 1 := by rw [← hW]; simp
  have b2 : Below W1.heap.size W1 (W1.alloc (.cells #[.int .i8 x0, .int .i16 x1, .int .i8 y0, .int .i16 y1] 37)) := (Below.refl _ _).alloc (Nat.le_refl _) _
  have BL : BlkA (W1.alloc (.cells #[.int .i8 x0, .int .i16 x1, .int .i8 y0, .int .i16 y1] 37)) W1.heap.size 37 #[.int .i8 x0, .int .i16 x1, .int .i8 y0, .int .i16 y1] := BlkA.new rfl _ _
  obtain ⟨W2, hW2⟩ : ∃ W, W1.alloc (.cells #[.int .i8 x0, .int .i16 x1, .int .i8 y0, .int .i16 y1] 37) = W := ⟨_, rfl⟩
  rw [hW2] at b2 BL
  have HB2 := Lib.hid (blink hb1 b2)
  have HN2 := Lib.hid (BN.below b2)
  have HX2 := Lib.hid (BX.below b2)
  have HY2 := Lib.hid (BY.below b2)
  have HL2 := Lib.hid BL
  have HV2 := Lib.hid (HV.out.below (blink hb1 b2))
  rw [← hW] at hW2
  have HW2 := Lib.hid hW2
  rw [hs1] at HL2
  clear hW hW2 hb1 BN BX BY b2 BL hs1
  go_enter Try.func58, Try.ntmps58
  go_wp2_with fail
  rw [HW2.out]
  refine (ichk_any st sy (.slice a len cap) ps _ _ _ [(x0, x1), (y0, y1)] [] [] _ HN.out HV2.out (reads_sc2 (HL2.out.at 0) (HL2.out.at 1) (HL2.out.at 2) (HL2.out.at 3)) (fun p hp => by simp at hp; rcases hp with rfl | rfl; exact HX.out; exact HY.out) (reads_nil _) (reads_nil _) (by simp) (by simp) (by simp)).mono ?_
  rintro e w3 ⟨rfl, b3⟩
  have HB3 := Lib.hid (blink HB2.out b3)
  have HN3 := Lib.hid (HN2.out.below b3)
  have HX3 := Lib.hid (HX2.out.below b3)
  have HY3 := Lib.hid (HY2.out.below b3)
  have HV3 := Lib.hid (HV2.out.below b3)
  obtain ⟨c, hc⟩ : ∃ c, cgC st sy ps x0 x1 y0 y1 = c := ⟨_, rfl⟩
  have HCD := Lib.hid hc
  rw [cg_chk, hc]
  clear hc b3
  by_cases h0 : c = 0
  rotate_left
  · have t0 : (c == 0) = false := by simp [h0]
    have t1 : (c != 0) = true := by simp [h0]
    have HR : Hid (cgR st sy ps x0 x1 y0 y1 = false) := Lib.hid (if_neg (by rw [HCD.out]; exact h0))
    clear h0
    go_wp2_with fail
    go_ret2
    exact ⟨ret_bc HR.out.symm HCD.out.symm, HB3.out⟩
  subst h0
  have HA := Lib.hid (askC_ok (show askC st sy ps (scB st x0 x1 && scB st y0 y1) = 0 from HCD.out))
  have HOK : Hid (okNet st sy ps) := Lib.hid (vldN_spec HA.out.1)
  have HPQ : Hid (scB st x0 x1 = true ∧ scB st y0 y1 = true) := Lib.hid (by have := HA.out.2; rwa [Bool.and_eq_true] at this)
  go_wp2_with fail
  obtain ⟨sn, yn, rfl, rfl⟩ := net_nat HOK.out
  obtain ⟨s0, h0, rfl, rfl, hs0, hh0⟩ := scan_nats HOK.out.1.2 HPQ.out.1
  obtain ⟨s1, h1, rfl, rfl, hs1, hh1⟩ := scan_nats HOK.out.1.2 HPQ.out.2
  have K0 : Below w.heap.size w w3.drew := HB3.out.drew
  have X0 := BlkA.drew HN3.out
  have X1 := BlkA.drew HX3.out
  have X2 := BlkA.drew HY3.out
  have V0 := HV3.out.below ((Below.refl w3.heap.size w3).drew)
  have HX0 := Lib.hid X0
  have HX1 := Lib.hid X1
  have HX2 := Lib.hid X2
  have HV0 := Lib.hid V0
  have SD : w3.drew.cell? ⟨w.heap.size, 0, none⟩ = some (.int .i8 (sn : Int)) ∧ w3.drew.cell? ⟨w.heap.size, 1, none⟩ = some (.int .i16 (yn : Int)) ∧ w3.drew.cell? ⟨w.heap.size, 2, none⟩ = some (.slice a len cap) ∧ w3.drew.cell? ⟨w.heap.size + 1, 0, none⟩ = some (.int .i8 (s0 : Int)) ∧ w3.drew.cell? ⟨w.heap.size + 1, 1, none⟩ = some (.int .i16 (h0 : Int)) ∧ w3.drew.cell? ⟨w.heap.size + 1 + 1, 0, none⟩ = some (.int .i8 (s1 : Int)) ∧ w3.drew.cell? ⟨w.heap.size + 1 + 1, 1, none⟩ = some (.int .i16 (h1 : Int)) := ⟨X0.at 0, X0.at 1, X0.at 2, X1.at 0, X1.at 1, X2.at 0, X2.at 1⟩
  have HARR : Hid (∀ (au : Option Addr) (cu : Nat) (W : World), ReadsLa W (.slice au (hopsL (yn : Int) ps).length cu) (hopsL (yn : Int) ps) → Calls Try.prog 43 #[.slice au (hopsL (yn : Int) ps).length cu, .agg #[.int .i8 (s0 : Int), .int .i16 (h0 : Int)]] W fun e w' => ∃ k, e = .returned (tv (seenK (onw (hopsL (yn : Int) ps)) (onw (hopsL (yn : Int) ps) (tOf s0 h0)) k)) ∧ orT (atK (onw (hopsL (yn : Int) ps)) (onw (hopsL (yn : Int) ps) (tOf s0 h0)) k) (seenK (onw (hopsL (yn : Int) ps)) (onw (hopsL (yn : Int) ps) (tOf s0 h0)) k) = seenK (onw (hopsL (yn : Int) ps)) (onw (hopsL (yn : Int) ps) (tOf s0 h0)) k ∧ Below W.heap.size W w') := Lib.hid (fun au cu W hr => callsIn_wide.1 (iarr_in au _ cu (hopsL (yn : Int) ps) s0 h0 (hops_ok HOK.out) (by rw [hopsL_len]; exact HN.out.n) hs0 hh0 W hr))
  have HHAS : Hid (∀ (k : Nat) (W : World), Calls Try.prog 84 #[tv (seenK (onw (hopsL (yn : Int) ps)) (onw (hopsL (yn : Int) ps) (tOf s0 h0)) k), .agg #[.int .i8 (s1 : Int), .int .i16 (h1 : Int)]] W fun e w' => e = .returned (.bool (bitT (seenK (onw (hopsL (yn : Int) ps)) (onw (hopsL (yn : Int) ps) (tOf s0 h0)) k) s1 h1)) ∧ Below W.heap.size W w') := Lib.hid (fun k W => ithas_any _ (seenK_ok (fun T h => onw_ok h) (onw_ok (tOf_ok s0 h0 hh0)) k) s1 h1 hs1 hh1 W)
  clear X0 X1 X2 V0
  go_region_held3 (fun v => v.cell? ⟨w.heap.size, 0, none⟩ = some (.int .i8 (sn : Int)) ∧ v.cell? ⟨w.heap.size, 1, none⟩ = some (.int .i16 (yn : Int)) ∧ v.cell? ⟨w.heap.size, 2, none⟩ = some (.slice a len cap) ∧ v.cell? ⟨w.heap.size + 1, 0, none⟩ = some (.int .i8 (s0 : Int)) ∧ v.cell? ⟨w.heap.size + 1, 1, none⟩ = some (.int .i16 (h0 : Int)) ∧ v.cell? ⟨w.heap.size + 1 + 1, 0, none⟩ = some (.int .i8 (s1 : Int)) ∧ v.cell? ⟨w.heap.size + 1 + 1, 1, none⟩ = some (.int .i16 (h1 : Int))) (first | (with_reducible exact SD) | (with_reducible exact zS1) | (with_reducible exact zS2) | (with_reducible exact zS3))
    (first
      | (go_at_call 42; (with_reducible refine (ihops_any (sn : Int) (yn : Int) (.slice a len cap) ps _ HOK.out HV0.out).mono ?_); rintro e w5 ⟨u, rfl, o5, d1⟩; have X01 := HX0.out.below d1; have X11 := HX1.out.below d1; have X21 := HX2.out.below d1; have zS1 : w5.cell? ⟨w.heap.size, 0, none⟩ = some (.int .i8 (sn : Int)) ∧ w5.cell? ⟨w.heap.size, 1, none⟩ = some (.int .i16 (yn : Int)) ∧ w5.cell? ⟨w.heap.size, 2, none⟩ = some (.slice a len cap) ∧ w5.cell? ⟨w.heap.size + 1, 0, none⟩ = some (.int .i8 (s0 : Int)) ∧ w5.cell? ⟨w.heap.size + 1, 1, none⟩ = some (.int .i16 (h0 : Int)) ∧ w5.cell? ⟨w.heap.size + 1 + 1, 0, none⟩ = some (.int .i8 (s1 : Int)) ∧ w5.cell? ⟨w.heap.size + 1 + 1, 1, none⟩ = some (.int .i16 (h1 : Int)) := ⟨X01.at 0, X01.at 1, X01.at 2, X11.at 0, X11.at 1, X21.at 0, X21.at 1⟩; have K1 := blink K0 d1; obtain ⟨au, cu, rfl, hcu⟩ := OwnLa.reads o5; have rd : ReadsLa w5 (.slice au (hopsL (yn : Int) ps).length cu) (hopsL (yn : Int) ps) := ⟨au, cu, rfl, hcu⟩)
      | (go_at_call 43; (with_reducible refine (HARR.out au cu _ rd).mono ?_); rintro e w6 ⟨kk, rfl, hend, d2⟩; have X02 := X01.below d2; have X12 := X11.below d2; have X22 := X21.below d2; have zS2 : w6.cell? ⟨w.heap.size, 0, none⟩ = some (.int .i8 (sn : Int)) ∧ w6.cell? ⟨w.heap.size, 1, none⟩ = some (.int .i16 (yn : Int)) ∧ w6.cell? ⟨w.heap.size, 2, none⟩ = some (.slice a len cap) ∧ w6.cell? ⟨w.heap.size + 1, 0, none⟩ = some (.int .i8 (s0 : Int)) ∧ w6.cell? ⟨w.heap.size + 1, 1, none⟩ = some (.int .i16 (h0 : Int)) ∧ w6.cell? ⟨w.heap.size + 1 + 1, 0, none⟩ = some (.int .i8 (s1 : Int)) ∧ w6.cell? ⟨w.heap.size + 1 + 1, 1, none⟩ = some (.int .i16 (h1 : Int)) := ⟨X02.at 0, X02.at 1, X02.at 2, X12.at 0, X12.at 1, X22.at 0, X22.at 1⟩; have K2 := blink K1 d2)
      | (go_at_call 84; (with_reducible refine (HHAS.out kk _).mono ?_); rintro e w7 ⟨rfl, d3⟩; have X03 := X02.below d3; have X13 := X12.below d3; have X23 := X22.below d3; have zS3 : w7.cell? ⟨w.heap.size, 0, none⟩ = some (.int .i8 (sn : Int)) ∧ w7.cell? ⟨w.heap.size, 1, none⟩ = some (.int .i16 (yn : Int)) ∧ w7.cell? ⟨w.heap.size, 2, none⟩ = some (.slice a len cap) ∧ w7.cell? ⟨w.heap.size + 1, 0, none⟩ = some (.int .i8 (s0 : Int)) ∧ w7.cell? ⟨w.heap.size + 1, 1, none⟩ = some (.int .i16 (h0 : Int)) ∧ w7.cell? ⟨w.heap.size + 1 + 1, 0, none⟩ = some (.int .i8 (s1 : Int)) ∧ w7.cell? ⟨w.heap.size + 1 + 1, 1, none⟩ = some (.int .i16 (h1 : Int)) := ⟨X03.at 0, X03.at 1, X03.at 2, X13.at 0, X13.at 1, X23.at 0, X23.at 1⟩; have K3 := blink K2 d3))
  have HRES : Hid (bitT (seenK (onw (hopsL (yn : Int) ps)) (onw (hopsL (yn : Int) ps) (tOf s0 h0)) kk) s1 h1 = cgR (sn : Int) (yn : Int) ps s0 h0 s1 h1) := Lib.hid (by
    unfold cgR
    rw [if_pos HCD.out]
    exact arrB_of (by simpa using seen_arr HOK.out hs0 hh0 hend s1 h1 hs1 (by omega)))
  have HK := Lib.hid K3
  clear SD zS1 zS2 zS3 X01 X11 X21 X02 X12 X22 X03 X13 X23 K0 K1 K2 K3 d1 d2 d3 hend rd hcu o5
  go_wp2_with fail
  go_ret2
  exact ⟨ret_bc HRES.out HCD.out.symm, HK.out⟩
end Go.Proofs.Ytlempmahkeilpaa
