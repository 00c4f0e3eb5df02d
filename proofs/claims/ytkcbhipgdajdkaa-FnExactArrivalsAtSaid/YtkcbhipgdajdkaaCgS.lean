/-
  The model's CanGo.
-/
import Derived.Test.YtkcbhipgdajdkaaArG
import Derived.Test.YtkcbhipgdajdkaaNtL
namespace Go.Proofs.Ytkcbhipgdajdkaa
open Go Go.RowKit
set_option linter.unusedVariables false

open Classical in
/-- Whether a parcel can arrive so; the code. -/
noncomputable def arrB (ps : List Lan) (wo sy x0 x1 y0 y1 : Int) : Bool := decide (Arr ps wo sy.toNat x0.toNat x1.toNat y0.toNat y1.toNat)
open Classical in
theorem arrB_of {ps : List Lan} {wo sy x0 x1 y0 y1 : Int} {r : Bool} (h : r = true ↔ Arr ps wo sy.toNat x0.toNat x1.toNat y0.toNat y1.toNat) : r = arrB ps wo sy x0 x1 y0 y1 := by
  unfold arrB
  rw [Bool.eq_iff_iff, decide_eq_true_eq]; exact h
def cgC (st sy : Int) (ps : List Lan) (x0 x1 y0 y1 : Int) : Int := askC st sy ps (scB st x0 x1 && scB st y0 y1)
noncomputable def cgR (st sy : Int) (ps : List Lan) (x0 x1 y0 y1 : Int) : Bool := if cgC st sy ps x0 x1 y0 y1 = 0 then arrB ps (-1) sy x0 x1 y0 y1 else false
def RetCg (w : World) (r : Bool) (c : Int) (e : Ending) (w' : World) : Prop := e = .returned (.tuple #[.bool r, .int .i64 c]) ∧ Below w.heap.size w w'
theorem ret_bc {r r' : Bool} {c c' : Int} (h : r = r') (g : c = c') : Ending.returned (.tuple #[.bool r, .int .i64 c]) = .returned (.tuple #[.bool r', .int .i64 c']) := by rw [h, g]
theorem scan_nats {st x0 x1 : Int} (hst : st ≤ 8) (h : scB st x0 x1 = true) : ∃ s h : Nat, x0 = (s : Int) ∧ x1 = (h : Int) ∧ s < 8 ∧ h ≤ 300 := by
  have h1 : okSc st (x0, x1) := of_decide_eq_true h
  unfold okSc at h1
  simp only at h1
  exact ⟨x0.toNat, x1.toNat, by omega, by omega, by omega, by omega⟩
theorem net_nat {st sy : Int} {ps : List Lan} (h : okNet st sy ps) : ∃ a b : Nat, st = (a : Int) ∧ sy = (b : Int) := by
  have h1 := h.1
  have h2 := h.2.1
  exact ⟨st.toNat, sy.toNat, by omega, by omega⟩

set_option maxHeartbeats 8000000 in
set_option maxRecDepth 100000 in
theorem scg_any (st sy : Int) (v : Value) (ps : List Lan) (x0 x1 y0 y1 : Int) (w : World) (hn : FitN st sy ps) (hx : FitSc (x0, x1)) (hy : FitSc (y0, y1)) (hv : ReadsLa w v ps) :
    Calls Try.prog 39 #[netV st sy v, .agg #[.int .i8 x0, .int .i16 x1], .agg #[.int .i8 y0, .int .i16 y1]] w (RetCg w (cgR st sy ps x0 x1 y0 y1) (cgC st sy ps x0 x1 y0 y1)) := by
  have HV := Lib.hid hv
  have HST := Lib.hid hn.s
  have HN := Lib.hid hn
  have HX := Lib.hid hx
  have HY := Lib.hid hy
  obtain ⟨a, cap, rfl, ha⟩ := hv
  obtain ⟨len, hlen⟩ : ∃ m, ps.length = m := ⟨_, rfl⟩
  have HM := Lib.hid hlen
  have hb1 : Below w.heap.size w (((w.alloc (.cells #[.int .i8 st, .int .i16 sy, .slice a len cap] 31)).alloc (.cells #[.int .i8 x0, .int .i16 x1] 46)).alloc (.cells #[.int .i8 y0, .int .i16 y1] 46)) := (((Below.refl _ _).alloc (Nat.le_refl _) _).alloc (by simp) _).alloc (by simp; omega) _
  have BN : BlkA (((w.alloc (.cells #[.int .i8 st, .int .i16 sy, .slice a len cap] 31)).alloc (.cells #[.int .i8 x0, .int .i16 x1] 46)).alloc (.cells #[.int .i8 y0, .int .i16 y1] 46)) w.heap.size 31 #[.int .i8 st, .int .i16 sy, .slice a len cap] := ((BlkA.new rfl _ _).alloc _).alloc _
  have BX : BlkA (((w.alloc (.cells #[.int .i8 st, .int .i16 sy, .slice a len cap] 31)).alloc (.cells #[.int .i8 x0, .int .i16 x1] 46)).alloc (.cells #[.int .i8 y0, .int .i16 y1] 46)) (w.heap.size + 1) 46 #[.int .i8 x0, .int .i16 x1] := (BlkA.new (by simp) _ _).alloc _
  have BY : BlkA (((w.alloc (.cells #[.int .i8 st, .int .i16 sy, .slice a len cap] 31)).alloc (.cells #[.int .i8 x0, .int .i16 x1] 46)).alloc (.cells #[.int .i8 y0, .int .i16 y1] 46)) (w.heap.size + 1 + 1) 46 #[.int .i8 y0, .int .i16 y1] := BlkA.new (by simp) _ _
  rw [hlen] at HV ⊢
  clear ha hlen hn hx hy
  obtain ⟨W1, hW⟩ : ∃ W, (((w.alloc (.cells #[.int .i8 st, .int .i16 sy, .slice a len cap] 31)).alloc (.cells #[.int .i8 x0, .int .i16 x1] 46)).alloc (.cells #[.int .i8 y0, .int .i16 y1] 46)) = W := ⟨_, rfl⟩
  have HB1 := Lib.hid hb1
  have HBN := Lib.hid BN
  have HBX := Lib.hid BX
  have HBY := Lib.hid BY
  rw [hW] at HB1 HBN HBX HBY
  have HW := Lib.hid hW
  clear hW hb1 BN BX BY
  go_enter Try.func39, Try.ntmps39
  go_wp2_with fail
  rw [HW.out]
  refine (sscan_any w.heap.size st sy (.slice a len cap) x0 x1 W1 HST.out HX.out HBN.out).mono ?_
  rintro e w2 ⟨rfl, b2⟩
  have HB2 := Lib.hid b2
  have HN2 := Lib.hid (HBN.out.below b2)
  have by2 := HBY.out.below b2
  have y0c : w2.cell? ⟨w.heap.size + 1 + 1, 0, none⟩ = some (.int .i8 y0) := by2.at 0
  have y1c : w2.cell? ⟨w.heap.size + 1 + 1, 1, none⟩ = some (.int .i16 y1) := by2.at 1
  have HV2 := Lib.hid (HV.out.below (blink HB1.out b2))
  have HCG : Hid (∀ c, askC st sy ps (scB st x0 x1 && scB st y0 y1) = c → cgC st sy ps x0 x1 y0 y1 = c) := Lib.hid (fun c h => h)
  obtain ⟨p, hp⟩ : ∃ p, scB st x0 x1 = p := ⟨_, rfl⟩
  obtain ⟨q, hq⟩ : ∃ q, scB st y0 y1 = q := ⟨_, rfl⟩
  have HP := Lib.hid hp
  have HQ := Lib.hid hq
  rw [hp, hq] at HCG
  rw [hp]
  clear hp hq b2 by2
  cases p with
  | false =>
    go_wp2_with fail
    refine (sasked_any w.heap.size st sy (.slice a len cap) ps false w2 HN.out HV2.out HN2.out).mono ?_
    rintro e w3 ⟨rfl, b3⟩
    have HB3 := Lib.hid (blink (blink HB1.out HB2.out) b3)
    obtain ⟨c, hc⟩ : ∃ c, askC st sy ps false = c := ⟨_, rfl⟩
    have HCD : Hid (cgC st sy ps x0 x1 y0 y1 = c) := Lib.hid (HCG.out c (by rw [Bool.false_and]; exact hc))
    have hne : c ≠ 0 := fun h => by have := (askC_ok (hc.trans h)).2; cases this
    have HR : Hid (cgR st sy ps x0 x1 y0 y1 = false) := Lib.hid (if_neg (by rw [HCD.out]; exact hne))
    rw [hc]
    have t0 : (c == 0) = false := by simp [hne]
    have t1 : (c != 0) = true := by simp [hne]
    clear hc hne b3 y0c y1c
    go_wp2_with fail
    go_ret2
    exact ⟨ret_bc HR.out.symm HCD.out.symm, HB3.out⟩
  | true =>
    go_wp2_with fail
    refine (sscan_any w.heap.size st sy (.slice a len cap) y0 y1 w2 HST.out HY.out HN2.out).mono ?_
    rintro e w3 ⟨rfl, b3⟩
    rw [HQ.out]
    have HN3 := Lib.hid (HN2.out.below b3)
    have HV3 := Lib.hid (HV2.out.below b3)
    have HB3 := Lib.hid (blink HB2.out b3)
    clear b3 y0c y1c
    go_wp2_with fail
    refine (sasked_any w.heap.size st sy (.slice a len cap) ps q w3 HN.out HV3.out HN3.out).mono ?_
    rintro e w4 ⟨rfl, b4⟩
    have HB4 := Lib.hid (blink HB3.out b4)
    have HN4 := Lib.hid (HN3.out.below b4)
    have HV4 := Lib.hid (HV3.out.below b4)
    obtain ⟨c, hc⟩ : ∃ c, askC st sy ps q = c := ⟨_, rfl⟩
    have HCD : Hid (cgC st sy ps x0 x1 y0 y1 = c) := Lib.hid (HCG.out c (by rw [Bool.true_and]; exact hc))
    have HC := Lib.hid hc
    rw [hc]
    have bx4 := HBX.out.below HB4.out
    have by4 := HBY.out.below HB4.out
    have c0 : w4.cell? ⟨w.heap.size + 1, 0, none⟩ = some (.int .i8 x0) := bx4.at 0
    have c1 : w4.cell? ⟨w.heap.size + 1, 1, none⟩ = some (.int .i16 x1) := bx4.at 1
    have d0 : w4.cell? ⟨w.heap.size + 1 + 1, 0, none⟩ = some (.int .i8 y0) := by4.at 0
    have d1 : w4.cell? ⟨w.heap.size + 1 + 1, 1, none⟩ = some (.int .i16 y1) := by4.at 1
    have HZ := Lib.hid (blink HB1.out HB4.out)
    clear hc b4 bx4 by4
    by_cases h0 : c = 0
    · subst h0
      have t0 : ((0 : Int) == 0) = true := rfl
      have HOK : Hid (okNet st sy ps) := Lib.hid (vldN_spec (askC_ok HC.out).1)
      have HQT : Hid (q = true) := Lib.hid (askC_ok HC.out).2
      go_wp2_with fail
      obtain ⟨sn, yn, rfl, rfl⟩ := net_nat HOK.out
      obtain ⟨s0, h0, rfl, rfl, hs0, hh0⟩ := scan_nats HOK.out.1.2 HP.out
      obtain ⟨s1, h1, rfl, rfl, hs1, hh1⟩ := scan_nats HOK.out.1.2 (HQ.out.trans HQT.out)
      refine (sgoes_any w.heap.size sn yn (.slice a len cap) ps s0 h0 s1 h1 (-1) HOK.out hs0 hh0 hs1 hh1 (by omega) w4 HV4.out HN4.out).mono ?_
      rintro e w5 ⟨r, rfl, hr, b5⟩
      have HR : Hid (r = cgR (sn : Int) (yn : Int) ps s0 h0 s1 h1) := Lib.hid (by
        unfold cgR
        rw [if_pos HCD.out]
        exact arrB_of (by simpa using hr))
      have HB5 := Lib.hid (blink HZ.out b5)
      clear hr b5
      go_wp2_with fail
      go_ret2
      exact ⟨ret_bc HR.out HCD.out.symm, HB5.out⟩
    · have t0 : (c == 0) = false := by simp [h0]
      have t1 : (c != 0) = true := by simp [h0]
      have HR : Hid (cgR st sy ps x0 x1 y0 y1 = false) := Lib.hid (if_neg (by rw [HCD.out]; exact h0))
      clear h0
      go_wp2_with fail
      go_ret2
      exact ⟨ret_bc HR.out.symm HCD.out.symm, HZ.out⟩
end Go.Proofs.Ytkcbhipgdajdkaa
