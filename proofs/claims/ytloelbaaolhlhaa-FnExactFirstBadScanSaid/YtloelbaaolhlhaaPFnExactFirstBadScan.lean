/-
  'FnExactFirstBadScan' answers true at every input, and leaves all memory that was there as it was. Conditions: none beyond the row's own.
-/
import Derived.Test.YtloelbaaolhlhaaRows
import Derived.ProofKit
import Derived.OpenShut
import Derived.ShutString
import Derived.ChangeOld
import Derived.Below
import Derived.Deep.SlicePairs
import Derived.Lib.SmallJoins
import Derived.Test.YtloelbaaolhlhaaONet
import Derived.Test.YtloelbaaolhlhaaOScan
import Derived.Test.YtloelbaaolhlhaaTkN
import Derived.Test.YtloelbaaolhlhaaScS
import Derived.Test.YtloelbaaolhlhaaNtA
import Derived.Test.YtloelbaaolhlhaaTScan
import Derived.Test.YtloelbaaolhlhaaEScan
/-
  The program's CheckScans and FirstBadScan.
-/
namespace Go.Proofs.Ytloelbaaolhlhaa
open Go Go.RowKit
set_option linter.unusedVariables false

/-- What the program does with a net and scans that can be: a tracker, and the first scan that cannot be. -/
theorem badS_dec (yn : Int) (ps : List Lan) (cs : List (Int × Int)) : ∃ b, decide (badS yn ps cs < 0) = b := ⟨_, rfl⟩

set_option maxHeartbeats 1000000 in
set_option maxRecDepth 100000 in
theorem ics_any (st sy : Int) (v u : Value) (ps : List Lan) (cs : List (Int × Int)) (w : World) (hn : FitN st sy ps) (hf : FitsSc cs) (hv : ReadsLa w v ps) (hu : ReadsSc w u cs) (hx : cs.length ≤ 1048576) :
    Calls Try.prog 36 #[netV st sy v, u] w (RetCg w (csR st sy ps cs) (csC st sy ps cs)) := by
  have HN := Lib.hid hn
  have HF := Lib.hid hf
  obtain ⟨ua, uc, rfl, hua⟩ := hu
  have hu : ReadsSc w (.slice ua cs.length uc) cs := ⟨ua, uc, rfl, hua⟩
  clear hua
  have b1 : Below w.heap.size w (w.alloc (.cells #[.int .i8 st, .int .i16 sy, v] 35)) := (Below.refl _ _).alloc (Nat.le_refl _) _
  have BN : BlkA (w.alloc (.cells #[.int .i8 st, .int .i16 sy, v] 35)) w.heap.size 35 #[.int .i8 st, .int .i16 sy, v] := BlkA.new rfl _ _
  obtain ⟨W1, hW⟩ : ∃ W, w.alloc (.cells #[.int .i8 st, .int .i16 sy, v] 35) = W := ⟨_, rfl⟩
  rw [hW] at b1 BN
  have HW := Lib.hid hW
  have HB1 := Lib.hid b1
  have HBN := Lib.hid BN
  have HV1 := Lib.hid (hv.below b1)
  have HU1 := Lib.hid (hu.below b1)
  have HCHK := Lib.hid (ichk_any st sy v ps _ (.slice none 0 0) (.slice none 0 0) cs [] [] W1 hn (hv.below b1) (hu.below b1) hf (reads_nil _) (reads_nil _) hx (by simp) (by simp))
  rw [chk_scn] at HCHK
  have n0 := BN.at 0
  have n1 := BN.at 1
  have n2 := BN.at 2
  clear hW b1 BN hv hu hn hf
  go_enter Try.func36, Try.ntmps36
  go_wp2_with fail
  rw [HW.out]
  go_wp2_with fail
  refine HCHK.out.mono ?_
  rintro e w2 ⟨rfl, b2⟩
  have HB2 := Lib.hid (blink HB1.out b2)
  have BN2 := HBN.out.below b2
  have HV2 := Lib.hid (HV1.out.below b2)
  have HU2 := Lib.hid (HU1.out.below b2)
  obtain ⟨c, hc⟩ : ∃ c, csC st sy ps cs = c := ⟨_, rfl⟩
  have HC := Lib.hid hc
  rw [show scnC st sy ps (scsB st cs) cs.length = csC st sy ps cs from rfl, hc]
  clear b2 n0 n1 n2 HCHK hc
  by_cases hz : c = 0
  · subst hz
    have HR : Hid (csR st sy ps cs = decide (badS sy ps cs < 0)) := Lib.hid (by unfold csR; rw [if_pos HC.out])
    obtain ⟨hvl, hsb, h12⟩ := scnC_ok HC.out
    have hok := vldN_spec hvl
    have hsc : OkScTo st cs cs.length := of_decide_eq_true hsb
    have m0 := BN2.at 0
    have m1 := BN2.at 1
    have m2 := BN2.at 2
    have HTR := Lib.hid (itrk_any st sy v ps w2 hok HV2.out)
    obtain ⟨sn, yn, rfl, rfl⟩ := net_nat hok
    have HOK := Lib.hid hok
    have HSC := Lib.hid hsc
    clear hvl hsb hok hsc BN2
    go_wp2_with fail
    refine HTR.out.mono ?_
    rintro e w3 ⟨au, cu, M, rfl, hr3, hm3, hM3, b3⟩
    have HB3 := Lib.hid (blink HB2.out b3)
    have hsz := b3.size
    have hMlt : M < w3.heap.size := hm3.lt
    have hwM : w.heap.size ≤ M := Nat.le_trans HB2.out.size hM3
    have HBAD := Lib.hid (ibad_any au cu M 0 (.map []) sn yn ps _ cs w3 HOK.out HN.out.n hr3 hm3 (KTr.zero yn ps) (HU2.out.below b3) HSC.out (by omega) (by omega))
    clear m0 m1 m2 hr3 hm3 b3 HTR
    go_wp2_with fail
    refine HBAD.out.mono ?_
    rintro e w4 ⟨D4, rfl, hm4, hk4, hkp4⟩
    have HB4 : Hid (Below w.heap.size w w4) := Lib.hid (HB3.out.trans (hkp4.1.mono hwM))
    obtain ⟨b, hb⟩ := badS_dec (yn : Int) ps cs
    have HBB := Lib.hid hb
    clear hm4 hk4 hkp4 HBAD
    go_wp2_with fail
    go_ret2
    exact ⟨ret_bc (by rw [HR.out, HBB.out]) HC.out.symm, HB4.out⟩
  · have HR : Hid (csR st sy ps cs = false) := Lib.hid (by unfold csR; rw [HC.out, if_neg hz])
    have t1 : (c != 0) = true := by simp [hz]
    have t0 : (c == 0) = false := by simp [hz]
    clear hz BN2
    go_wp2_with fail
    go_ret2
    exact ⟨ret_bc HR.out.symm HC.out.symm, HB2.out⟩

set_option maxHeartbeats 1000000 in
set_option maxRecDepth 100000 in
theorem ifb_any (st sy : Int) (v u : Value) (ps : List Lan) (cs : List (Int × Int)) (w : World) (hn : FitN st sy ps) (hf : FitsSc cs) (hv : ReadsLa w v ps) (hu : ReadsSc w u cs) (hx : cs.length ≤ 1048576) :
    Calls Try.prog 38 #[netV st sy v, u] w fun e w' => e = .returned (.tuple #[.int .i64 (fbR st sy ps cs), .int .i64 (fbC st sy ps cs)]) ∧ Below w.heap.size w w' := by
  have HN := Lib.hid hn
  have HF := Lib.hid hf
  obtain ⟨ua, uc, rfl, hua⟩ := hu
  have hu : ReadsSc w (.slice ua cs.length uc) cs := ⟨ua, uc, rfl, hua⟩
  clear hua
  have b1 : Below w.heap.size w (w.alloc (.cells #[.int .i8 st, .int .i16 sy, v] 35)) := (Below.refl _ _).alloc (Nat.le_refl _) _
  have BN : BlkA (w.alloc (.cells #[.int .i8 st, .int .i16 sy, v] 35)) w.heap.size 35 #[.int .i8 st, .int .i16 sy, v] := BlkA.new rfl _ _
  obtain ⟨W1, hW⟩ : ∃ W, w.alloc (.cells #[.int .i8 st, .int .i16 sy, v] 35) = W := ⟨_, rfl⟩
  rw [hW] at b1 BN
  have HW := Lib.hid hW
  have HB1 := Lib.hid b1
  have HBN := Lib.hid BN
  have HV1 := Lib.hid (hv.below b1)
  have HU1 := Lib.hid (hu.below b1)
  have HCHK := Lib.hid (ichk_any st sy v ps _ (.slice none 0 0) (.slice none 0 0) cs [] [] W1 hn (hv.below b1) (hu.below b1) hf (reads_nil _) (reads_nil _) hx (by simp) (by simp))
  rw [chk_scn] at HCHK
  have n0 := BN.at 0
  have n1 := BN.at 1
  have n2 := BN.at 2
  clear hW b1 BN hv hu hn hf
  go_enter Try.func38, Try.ntmps38
  go_wp2_with fail
  rw [HW.out]
  go_wp2_with fail
  refine HCHK.out.mono ?_
  rintro e w2 ⟨rfl, b2⟩
  have HB2 := Lib.hid (blink HB1.out b2)
  have BN2 := HBN.out.below b2
  have HV2 := Lib.hid (HV1.out.below b2)
  have HU2 := Lib.hid (HU1.out.below b2)
  obtain ⟨c, hc⟩ : ∃ c, csC st sy ps cs = c := ⟨_, rfl⟩
  have HC := Lib.hid hc
  rw [show scnC st sy ps (scsB st cs) cs.length = csC st sy ps cs from rfl, hc]
  clear b2 n0 n1 n2 HCHK hc
  by_cases hz : c = 0
  · subst hz
    obtain ⟨hvl, hsb, h12⟩ := scnC_ok HC.out
    have hok := vldN_spec hvl
    have hsc : OkScTo st cs cs.length := of_decide_eq_true hsb
    have m0 := BN2.at 0
    have m1 := BN2.at 1
    have m2 := BN2.at 2
    have HTR := Lib.hid (itrk_any st sy v ps w2 hok HV2.out)
    have HR : Hid (fbR st sy ps cs = (if badS sy ps cs < 0 then 0 else badS sy ps cs) ∧ fbC st sy ps cs = (if badS sy ps cs < 0 then 6 else 0)) := Lib.hid ⟨by unfold fbR; rw [if_pos HC.out], by unfold fbC; rw [if_pos HC.out]⟩
    obtain ⟨sn, yn, rfl, rfl⟩ := net_nat hok
    have HOK := Lib.hid hok
    have HSC := Lib.hid hsc
    clear hvl hsb hok hsc BN2
    go_wp2_with fail
    refine HTR.out.mono ?_
    rintro e w3 ⟨au, cu, M, rfl, hr3, hm3, hM3, b3⟩
    have HB3 := Lib.hid (blink HB2.out b3)
    have hsz := b3.size
    have hMlt : M < w3.heap.size := hm3.lt
    have hwM : w.heap.size ≤ M := Nat.le_trans HB2.out.size hM3
    have HBAD := Lib.hid (ibad_any au cu M 0 (.map []) sn yn ps _ cs w3 HOK.out HN.out.n hr3 hm3 (KTr.zero yn ps) (HU2.out.below b3) HSC.out (by omega) (by omega))
    clear m0 m1 m2 hr3 hm3 b3 HTR
    go_wp2_with fail
    refine HBAD.out.mono ?_
    rintro e w4 ⟨D4, rfl, hm4, hk4, hkp4⟩
    have HB4 : Hid (Below w.heap.size w w4) := Lib.hid (HB3.out.trans (hkp4.1.mono hwM))
    have HBR := Lib.hid (badI_range (goB (yn : Int) ps cs) cs.length)
    have HBS : Hid (badS (yn : Int) ps cs = badI (goB (yn : Int) ps cs) cs.length) := Lib.hid rfl
    obtain ⟨b, hb⟩ : ∃ b, badS (yn : Int) ps cs = b := ⟨_, rfl⟩
    have HBB := Lib.hid hb
    rw [hb] at HR ⊢
    have hbd : b = -1 ∨ (0 ≤ b ∧ b ≤ 12) := by
      rcases HBR.out with h | ⟨k, h1, h2, h3⟩
      · exact .inl (by rw [← hb, HBS.out, h])
      · exact .inr (by rw [← hb, HBS.out, h3]; omega)
    clear hm4 hk4 hkp4 HBAD hb
    by_cases hneg : b < 0
    · have HR2 : Hid (fbR (sn : Int) (yn : Int) ps cs = 0 ∧ fbC (sn : Int) (yn : Int) ps cs = 6) := Lib.hid ⟨by rw [HR.out.1, if_pos hneg], by rw [HR.out.2, if_pos hneg]⟩
      clear hbd
      go_wp2_with fail
      go_ret2
      rw [HR2.out.1, HR2.out.2]
      exact ⟨rfl, HB4.out⟩
    · have HR2 : Hid (fbR (sn : Int) (yn : Int) ps cs = b ∧ fbC (sn : Int) (yn : Int) ps cs = 0) := Lib.hid ⟨by rw [HR.out.1, if_neg hneg], by rw [HR.out.2, if_neg hneg]⟩
      have hb0 : 0 ≤ b := by omega
      have hb12 : b ≤ 12 := by omega
      clear hbd
      go_wp2_with fail
      go_ret2
      rw [HR2.out.1, HR2.out.2]
      exact ⟨rfl, HB4.out⟩
  · have HR : Hid (fbR st sy ps cs = 0 ∧ fbC st sy ps cs = c) := Lib.hid ⟨by unfold fbR; rw [HC.out, if_neg hz], by unfold fbC; rw [HC.out, if_neg hz]⟩
    have t1 : (c != 0) = true := by simp [hz]
    have t0 : (c == 0) = false := by simp [hz]
    clear hz BN2
    go_wp2_with fail
    go_ret2
    rw [HR.out.1, HR.out.2]
    exact ⟨rfl, HB2.out⟩
end Go.Proofs.Ytloelbaaolhlhaa
/-
  The model's CheckScans and FirstBadScan.
-/
namespace Go.Proofs.Ytloelbaaolhlhaa
open Go Go.RowKit
set_option linter.unusedVariables false

set_option maxHeartbeats 1000000 in
set_option maxRecDepth 100000 in
theorem scs_any (st sy : Int) (v u : Value) (ps : List Lan) (cs : List (Int × Int)) (w : World) (hn : FitN st sy ps) (hf : FitsSc cs) (hv : ReadsLa w v ps) (hu : ReadsSc w u cs) (hx : cs.length ≤ 1048576) :
    Calls Try.prog 35 #[netV st sy v, u] w (RetCg w (csR st sy ps cs) (csC st sy ps cs)) := by
  have b1 : Below w.heap.size w (w.alloc (.cells #[.int .i8 st, .int .i16 sy, v] 35)) := (Below.refl _ _).alloc (Nat.le_refl _) _
  have BN : BlkA (w.alloc (.cells #[.int .i8 st, .int .i16 sy, v] 35)) w.heap.size 35 (netB st sy v) := BlkA.new rfl _ _
  obtain ⟨W1, hW⟩ : ∃ W, w.alloc (.cells #[.int .i8 st, .int .i16 sy, v] 35) = W := ⟨_, rfl⟩
  rw [hW] at b1 BN
  have HW := Lib.hid hW
  have HB1 := Lib.hid b1
  have HBN := Lib.hid BN
  have HV1 := Lib.hid (hv.below b1)
  have HU1 := Lib.hid (hu.below b1)
  have HCHK := Lib.hid (sscans_any w.heap.size st sy v ps u cs true W1 hn (hv.below b1) (hu.below b1) hf hx BN)
  rw [Bool.true_and] at HCHK
  clear hW b1 BN hv hu hn hf
  go_enter Try.func35, Try.ntmps35
  go_wp2_with fail
  rw [HW.out]
  refine HCHK.out.mono ?_
  rintro e w2 ⟨rfl, b2⟩
  have HB2 := Lib.hid (blink HB1.out b2)
  have HBN2 := Lib.hid (HBN.out.below b2)
  have HV2 := Lib.hid (HV1.out.below b2)
  have HU2 := Lib.hid (HU1.out.below b2)
  obtain ⟨c, hc⟩ : ∃ c, csC st sy ps cs = c := ⟨_, rfl⟩
  have HC := Lib.hid hc
  rw [show scnC st sy ps (scsB st cs) cs.length = csC st sy ps cs from rfl, hc]
  clear b2 HCHK hc
  by_cases hz : c = 0
  · subst hz
    have HR : Hid (csR st sy ps cs = decide (badS sy ps cs < 0)) := Lib.hid (by unfold csR; rw [if_pos HC.out])
    obtain ⟨hvl, hsb, h12⟩ := scnC_ok HC.out
    have hok := vldN_spec hvl
    have hsc : OkScTo st cs cs.length := of_decide_eq_true hsb
    obtain ⟨sn, yn, rfl, rfl⟩ := net_nat hok
    have HBAD := Lib.hid (sbad_any w.heap.size sn yn v ps u cs w2 hok HV2.out HU2.out hsc hx HBN2.out)
    clear hvl hsb hok hsc
    go_wp2_with fail
    refine HBAD.out.mono ?_
    rintro e w4 ⟨rfl, b4⟩
    have HB4 := Lib.hid (blink HB2.out b4)
    clear b4 HBAD
    go_wp2_with fail
    go_ret2
    exact ⟨ret_bc HR.out.symm HC.out.symm, HB4.out⟩
  · have HR : Hid (csR st sy ps cs = false) := Lib.hid (by unfold csR; rw [HC.out, if_neg hz])
    have t1 : (c != 0) = true := by simp [hz]
    have t0 : (c == 0) = false := by simp [hz]
    clear hz
    go_wp2_with fail
    go_ret2
    exact ⟨ret_bc HR.out.symm HC.out.symm, HB2.out⟩

set_option maxHeartbeats 1000000 in
set_option maxRecDepth 100000 in
theorem sfb_any (st sy : Int) (v u : Value) (ps : List Lan) (cs : List (Int × Int)) (w : World) (hn : FitN st sy ps) (hf : FitsSc cs) (hv : ReadsLa w v ps) (hu : ReadsSc w u cs) (hx : cs.length ≤ 1048576) :
    Calls Try.prog 37 #[netV st sy v, u] w fun e w' => e = .returned (.tuple #[.int .i64 (fbR st sy ps cs), .int .i64 (fbC st sy ps cs)]) ∧ Below w.heap.size w w' := by
  have b1 : Below w.heap.size w (w.alloc (.cells #[.int .i8 st, .int .i16 sy, v] 35)) := (Below.refl _ _).alloc (Nat.le_refl _) _
  have BN : BlkA (w.alloc (.cells #[.int .i8 st, .int .i16 sy, v] 35)) w.heap.size 35 (netB st sy v) := BlkA.new rfl _ _
  obtain ⟨W1, hW⟩ : ∃ W, w.alloc (.cells #[.int .i8 st, .int .i16 sy, v] 35) = W := ⟨_, rfl⟩
  rw [hW] at b1 BN
  have HW := Lib.hid hW
  have HB1 := Lib.hid b1
  have HBN := Lib.hid BN
  have HV1 := Lib.hid (hv.below b1)
  have HU1 := Lib.hid (hu.below b1)
  have HCHK := Lib.hid (sscans_any w.heap.size st sy v ps u cs true W1 hn (hv.below b1) (hu.below b1) hf hx BN)
  rw [Bool.true_and] at HCHK
  clear hW b1 BN hv hu hn hf
  go_enter Try.func37, Try.ntmps37
  go_wp2_with fail
  rw [HW.out]
  refine HCHK.out.mono ?_
  rintro e w2 ⟨rfl, b2⟩
  have HB2 := Lib.hid (blink HB1.out b2)
  have HBN2 := Lib.hid (HBN.out.below b2)
  have HV2 := Lib.hid (HV1.out.below b2)
  have HU2 := Lib.hid (HU1.out.below b2)
  obtain ⟨c, hc⟩ : ∃ c, csC st sy ps cs = c := ⟨_, rfl⟩
  have HC := Lib.hid hc
  rw [show scnC st sy ps (scsB st cs) cs.length = csC st sy ps cs from rfl, hc]
  clear b2 HCHK hc
  by_cases hz : c = 0
  · subst hz
    have HR : Hid (fbR st sy ps cs = (if badS sy ps cs < 0 then 0 else badS sy ps cs) ∧ fbC st sy ps cs = (if badS sy ps cs < 0 then 6 else 0)) := Lib.hid ⟨by unfold fbR; rw [if_pos HC.out], by unfold fbC; rw [if_pos HC.out]⟩
    obtain ⟨hvl, hsb, h12⟩ := scnC_ok HC.out
    have hok := vldN_spec hvl
    have hsc : OkScTo st cs cs.length := of_decide_eq_true hsb
    obtain ⟨sn, yn, rfl, rfl⟩ := net_nat hok
    have HBAD := Lib.hid (sbad_any w.heap.size sn yn v ps u cs w2 hok HV2.out HU2.out hsc hx HBN2.out)
    clear hvl hsb hok hsc
    go_wp2_with fail
    refine HBAD.out.mono ?_
    rintro e w4 ⟨rfl, b4⟩
    have HB4 := Lib.hid (blink HB2.out b4)
    clear b4 HBAD
    have HBR := Lib.hid (badI_range (goB (yn : Int) ps cs) cs.length)
    have HBS : Hid (badS (yn : Int) ps cs = badI (goB (yn : Int) ps cs) cs.length) := Lib.hid rfl
    obtain ⟨b, hb⟩ : ∃ b, badS (yn : Int) ps cs = b := ⟨_, rfl⟩
    rw [hb] at HR ⊢
    have hbd : b = -1 ∨ (0 ≤ b ∧ b ≤ 12) := by
      rcases HBR.out with h | ⟨k, h1, h2, h3⟩
      · exact .inl (by rw [← hb, HBS.out, h])
      · exact .inr (by rw [← hb, HBS.out, h3]; omega)
    clear hb
    by_cases hneg : b < 0
    · have HR2 : Hid (fbR (sn : Int) (yn : Int) ps cs = 0 ∧ fbC (sn : Int) (yn : Int) ps cs = 6) := Lib.hid ⟨by rw [HR.out.1, if_pos hneg], by rw [HR.out.2, if_pos hneg]⟩
      clear hbd
      go_wp2_with fail
      go_ret2
      rw [HR2.out.1, HR2.out.2]
      exact ⟨rfl, HB4.out⟩
    · have HR2 : Hid (fbR (sn : Int) (yn : Int) ps cs = b ∧ fbC (sn : Int) (yn : Int) ps cs = 0) := Lib.hid ⟨by rw [HR.out.1, if_neg hneg], by rw [HR.out.2, if_neg hneg]⟩
      have hb0 : 0 ≤ b := by omega
      have hb12 : b ≤ 12 := by omega
      clear hbd
      go_wp2_with fail
      go_ret2
      rw [HR2.out.1, HR2.out.2]
      exact ⟨rfl, HB4.out⟩
  · have HR : Hid (fbR st sy ps cs = 0 ∧ fbC st sy ps cs = c) := Lib.hid ⟨by unfold fbR; rw [HC.out, if_neg hz], by unfold fbC; rw [HC.out, if_neg hz]⟩
    have t1 : (c != 0) = true := by simp [hz]
    have t0 : (c == 0) = false := by simp [hz]
    clear hz
    go_wp2_with fail
    go_ret2
    rw [HR.out.1, HR.out.2]
    exact ⟨rfl, HB2.out⟩
end Go.Proofs.Ytloelbaaolhlhaa
/-
  The walk of FnExactFirstBadScan: program and model answer the same at every argument; neither writes into its arguments, and what is answered lies in new memory.
-/
namespace Go.Proofs.Ytloelbaaolhlhaa.fnExactFirstBadScan
open Go Go.RowKit
set_option linter.unusedVariables false

set_option maxHeartbeats 16000000 in
set_option maxRecDepth 100000 in
theorem walk (st0 sy0 : Int) (a0 : Option Addr) (len0 cap0 : Nat) (ps0 : List Lan) (a1 : Option Addr) (len1 cap1 : Nat) (ps1 : List (Int × Int)) (w : World) (hh0 : (IsRowLa w a0 len0 cap0 ps0 ∧ FitsLa ps0) ∧ (-128 ≤ st0 ∧ st0 ≤ 127) ∧ (-32768 ≤ sy0 ∧ sy0 ≤ 32767)) (hh1 : IsRowSc w a1 len1 cap1 ps1 ∧ FitsSc ps1) :
    Calls Try.prog 7 #[.agg #[.int .i8 st0, .int .i16 sy0, .slice a0 len0 cap0], .slice a1 len1 cap1] w fun e w' => e = .returned (.bool true) ∧ Below w.heap.size w w' := by
  obtain ⟨⟨hr0, hf0⟩, hst0, hsy0⟩ := hh0
  have HFQ0 := Lib.hid hf0
  have HST0 := Lib.hid hst0
  have HSY0 := Lib.hid hsy0
  have HN0 := Lib.hid hr0.len_ok
  clear hf0 hst0 hsy0
  obtain ⟨hr1, hf1⟩ := hh1
  have HF1 := Lib.hid hf1
  have HN1 := Lib.hid hr1.len_ok
  clear hf1
  by_cases hm0 : 0 ≤ 1048576 - (len0 : Int)
  rotate_left
  · have t0 : decide (1048576 - (len0 : Int) < 0) = true := decide_eq_true (by omega)
    go_enter Try.func7, Try.ntmps7
    go_wp2_with fail
    have b1 : Below w.heap.size w (w.alloc (.cells #[.int .i8 st0, .int .i16 sy0, .slice a0 len0 cap0] 26)) := ((Below.refl _ _).alloc (Nat.le_refl _) _)
    have BX0 : BlkA (w.alloc (.cells #[.int .i8 st0, .int .i16 sy0, .slice a0 len0 cap0] 26)) (w.heap.size) 26 #[.int .i8 st0, .int .i16 sy0, .slice a0 len0 cap0] := (BlkA.new rfl _ _)
    generalize (w.alloc (.cells #[.int .i8 st0, .int .i16 sy0, .slice a0 len0 cap0] 26)) = w1 at b1 BX0 ⊢
    have c1 := b1
    have hs1 : w.heap.size ≤ w1.heap.size := b1.size
    have hb0 : w.heap.size < w1.heap.size := BX0.lt
    have va0_0_1 : w1.cell? ⟨w.heap.size, 0, none⟩ = some (.int .i8 st0) := (BX0).at 0
    have va0_1_1 : w1.cell? ⟨w.heap.size, 1, none⟩ = some (.int .i16 sy0) := (BX0).at 1
    have va0_2_1 : w1.cell? ⟨w.heap.size, 2, none⟩ = some (.slice a0 len0 cap0) := (BX0).at 2
    have la0_1 : w.heap.size < w1.heap.size := (BX0).lt
    go_wp2_with fail
    refine (szNet_big st0 sy0 a0 len0 cap0 1048576 (by omega) (by omega) (by omega) HN0.out _).mono ?_
    rintro e w2 ⟨rfl, b2⟩
    have c2 : Below w.heap.size w w2 := blink c1 b2
    have hs2 : w1.heap.size ≤ w2.heap.size := b2.size
    go_wp2_with fail
    go_ret
    exact ⟨rfl, c2⟩
  have t0 : decide (1048576 - (len0 : Int) < 0) = false := decide_eq_false (by omega)
  by_cases hm1 : 0 ≤ (1048576 - (len0 : Int)) - (len1 : Int)
  rotate_left
  · have t1 : decide ((1048576 - (len0 : Int)) - (len1 : Int) < 0) = true := decide_eq_true (by omega)
    go_enter Try.func7, Try.ntmps7
    go_wp2_with fail
    have b1 : Below w.heap.size w (w.alloc (.cells #[.int .i8 st0, .int .i16 sy0, .slice a0 len0 cap0] 26)) := ((Below.refl _ _).alloc (Nat.le_refl _) _)
    have BX0 : BlkA (w.alloc (.cells #[.int .i8 st0, .int .i16 sy0, .slice a0 len0 cap0] 26)) (w.heap.size) 26 #[.int .i8 st0, .int .i16 sy0, .slice a0 len0 cap0] := (BlkA.new rfl _ _)
    generalize (w.alloc (.cells #[.int .i8 st0, .int .i16 sy0, .slice a0 len0 cap0] 26)) = w1 at b1 BX0 ⊢
    have c1 := b1
    have hs1 : w.heap.size ≤ w1.heap.size := b1.size
    have hb0 : w.heap.size < w1.heap.size := BX0.lt
    have va0_0_1 : w1.cell? ⟨w.heap.size, 0, none⟩ = some (.int .i8 st0) := (BX0).at 0
    have va0_1_1 : w1.cell? ⟨w.heap.size, 1, none⟩ = some (.int .i16 sy0) := (BX0).at 1
    have va0_2_1 : w1.cell? ⟨w.heap.size, 2, none⟩ = some (.slice a0 len0 cap0) := (BX0).at 2
    have la0_1 : w.heap.size < w1.heap.size := (BX0).lt
    go_wp2_with fail
    refine (szNet_fit st0 sy0 a0 len0 cap0 1048576 (by omega) (by omega) _).mono ?_
    rintro e w2 ⟨rfl, b2⟩
    have c2 : Below w.heap.size w w2 := blink c1 b2
    have hs2 : w1.heap.size ≤ w2.heap.size := b2.size
    go_wp2_with fail
    refine (szScanS_big a1 len1 cap1 (1048576 - (len0 : Int)) (by omega) (by omega) (by omega) HN1.out _).mono ?_
    rintro e we ⟨rfl, rfl⟩
    go_wp2_with fail
    go_ret
    exact ⟨rfl, c2⟩
  have t1 : decide ((1048576 - (len0 : Int)) - (len1 : Int) < 0) = false := decide_eq_false (by omega)
  have hlq0 : ps0.length = len0 := hr0.len_eq
  have HX0 : Hid (ps0.length ≤ 1048576) := Lib.hid (by omega)
  have HL0 : Hid (len0 ≤ 1048576) := Lib.hid (by omega)
  have hxb0 : ps0.length ≤ 1048576 := HX0.out
  clear hlq0
  have HF0 : Hid (FitN st0 sy0 ps0) := Lib.hid ⟨HST0.out, HSY0.out, HFQ0.out, HX0.out⟩
  have hlq1 : ps1.length = len1 := hr1.len_eq
  have HX1 : Hid (ps1.length ≤ 1048576) := Lib.hid (by omega)
  have HL1 : Hid (len1 ≤ 1048576) := Lib.hid (by omega)
  have hxb1 : ps1.length ≤ 1048576 := HX1.out
  clear hlq1
  go_enter Try.func7, Try.ntmps7
  go_wp2_with fail
  have b1 : Below w.heap.size w (w.alloc (.cells #[.int .i8 st0, .int .i16 sy0, .slice a0 len0 cap0] 26)) := ((Below.refl _ _).alloc (Nat.le_refl _) _)
  have BX0 : BlkA (w.alloc (.cells #[.int .i8 st0, .int .i16 sy0, .slice a0 len0 cap0] 26)) (w.heap.size) 26 #[.int .i8 st0, .int .i16 sy0, .slice a0 len0 cap0] := (BlkA.new rfl _ _)
  generalize (w.alloc (.cells #[.int .i8 st0, .int .i16 sy0, .slice a0 len0 cap0] 26)) = w1 at b1 BX0 ⊢
  have c1 := b1
  have hs1 : w.heap.size ≤ w1.heap.size := b1.size
  have hb0 : w.heap.size < w1.heap.size := BX0.lt
  have va0_0_1 : w1.cell? ⟨w.heap.size, 0, none⟩ = some (.int .i8 st0) := (BX0).at 0
  have va0_1_1 : w1.cell? ⟨w.heap.size, 1, none⟩ = some (.int .i16 sy0) := (BX0).at 1
  have va0_2_1 : w1.cell? ⟨w.heap.size, 2, none⟩ = some (.slice a0 len0 cap0) := (BX0).at 2
  have la0_1 : w.heap.size < w1.heap.size := (BX0).lt
  go_wp2_with fail
  refine (szNet_fit st0 sy0 a0 len0 cap0 1048576 (by omega) (by omega) _).mono ?_
  rintro e w2 ⟨rfl, b2⟩
  have c2 : Below w.heap.size w w2 := blink c1 b2
  have hs2 : w1.heap.size ≤ w2.heap.size := b2.size
  go_wp2_with fail
  refine (szScanS_fit a1 len1 cap1 (1048576 - (len0 : Int)) (by omega) (by omega) _).mono ?_
  rintro e we ⟨rfl, rfl⟩
  have va0_0_2 : w2.cell? ⟨w.heap.size, 0, none⟩ = some (.int .i8 st0) := ((BX0).below b2).at 0
  have va0_1_2 : w2.cell? ⟨w.heap.size, 1, none⟩ = some (.int .i16 sy0) := ((BX0).below b2).at 1
  have va0_2_2 : w2.cell? ⟨w.heap.size, 2, none⟩ = some (.slice a0 len0 cap0) := ((BX0).below b2).at 2
  have la0_2 : w.heap.size < w2.heap.size := ((BX0).below b2).lt
  go_wp2_with fail
  refine (toNet_any st0 sy0 a0 len0 cap0 ps0 _ (hr0.below c2) HL0.out).mono ?_
  rintro e w3 ⟨g3, rfl, o3, b3⟩
  have c3 : Below w.heap.size w w3 := blink c2 b3
  have hs3 : w2.heap.size ≤ w3.heap.size := b3.size
  have lo3 : Hid (∀ k, Value.ownBlock (.slice (some ⟨g3, 0, none⟩) len0 len0) = some k → w2.heap.size ≤ k ∧ k < w3.heap.size) := Lib.hid o3.block
  go_wp2_with fail
  refine (toScanS_any a1 len1 cap1 ps1 _ (hr1.below c3) HL1.out).mono ?_
  rintro e w4 ⟨rfl, o4, b4⟩
  have c4 : Below w.heap.size w w4 := blink c3 b4
  have hs4 : w3.heap.size ≤ w4.heap.size := b4.size
  go_wp2_with fail
  refine (sfb_any _ _ _ _ ps0 ps1 _ HF0.out HF1.out ((o3).below b4).reads (o4).reads HX1.out).mono ?_
  rintro e w5 ⟨rfl, b5⟩
  have c5 : Below w.heap.size w w5 := blink c4 b5
  have hs5 : w4.heap.size ≤ w5.heap.size := b5.size
  have va0_0_5 : w5.cell? ⟨w.heap.size, 0, none⟩ = some (.int .i8 st0) := (((((BX0).below b2).below b3).below b4).below b5).at 0
  have va0_1_5 : w5.cell? ⟨w.heap.size, 1, none⟩ = some (.int .i16 sy0) := (((((BX0).below b2).below b3).below b4).below b5).at 1
  have va0_2_5 : w5.cell? ⟨w.heap.size, 2, none⟩ = some (.slice a0 len0 cap0) := (((((BX0).below b2).below b3).below b4).below b5).at 2
  have la0_5 : w.heap.size < w5.heap.size := (((((BX0).below b2).below b3).below b4).below b5).lt
  go_wp2_with fail
  refine (toNet_any st0 sy0 a0 len0 cap0 ps0 _ (hr0.below c5) HL0.out).mono ?_
  rintro e w6 ⟨g6, rfl, o6, b6⟩
  have c6 : Below w.heap.size w w6 := blink c5 b6
  have hs6 : w5.heap.size ≤ w6.heap.size := b6.size
  have lo6 : Hid (∀ k, Value.ownBlock (.slice (some ⟨g6, 0, none⟩) len0 len0) = some k → w5.heap.size ≤ k ∧ k < w6.heap.size) := Lib.hid o6.block
  have va0_0_6 : w6.cell? ⟨w.heap.size, 0, none⟩ = some (.int .i8 st0) := ((((((BX0).below b2).below b3).below b4).below b5).below b6).at 0
  have va0_1_6 : w6.cell? ⟨w.heap.size, 1, none⟩ = some (.int .i16 sy0) := ((((((BX0).below b2).below b3).below b4).below b5).below b6).at 1
  have va0_2_6 : w6.cell? ⟨w.heap.size, 2, none⟩ = some (.slice a0 len0 cap0) := ((((((BX0).below b2).below b3).below b4).below b5).below b6).at 2
  have la0_6 : w.heap.size < w6.heap.size := ((((((BX0).below b2).below b3).below b4).below b5).below b6).lt
  go_wp2_with fail
  have b7 : Below w6.heap.size w6 (w6.alloc (.cells #[.int .i8 st0, .int .i16 sy0, .slice (some ⟨g6, 0, none⟩) len0 len0] 35)) := (Below.refl _ _).alloc (Nat.le_refl _) _
  have BY0 : BlkA (w6.alloc (.cells #[.int .i8 st0, .int .i16 sy0, .slice (some ⟨g6, 0, none⟩) len0 len0] 35)) w6.heap.size 35 #[.int .i8 st0, .int .i16 sy0, .slice (some ⟨g6, 0, none⟩) len0 len0] := BlkA.new rfl _ _
  generalize (w6.alloc (.cells #[.int .i8 st0, .int .i16 sy0, .slice (some ⟨g6, 0, none⟩) len0 len0] 35)) = w7 at b7 BY0 ⊢
  have c7 : Below w.heap.size w w7 := blink c6 b7
  have hs7 : w6.heap.size ≤ w7.heap.size := b7.size
  have hx0 : w6.heap.size < w7.heap.size := BY0.lt
  go_wp2_with fail
  refine (toScanS_any a1 len1 cap1 ps1 _ (hr1.below c7) HL1.out).mono ?_
  rintro e w8 ⟨rfl, o8, b8⟩
  have c8 : Below w.heap.size w w8 := blink c7 b8
  have hs8 : w7.heap.size ≤ w8.heap.size := b8.size
  have vx0_0_8 : w8.cell? ⟨w6.heap.size, 0, none⟩ = some (.int .i8 st0) := ((BY0).below b8).at 0
  have vx0_1_8 : w8.cell? ⟨w6.heap.size, 1, none⟩ = some (.int .i16 sy0) := ((BY0).below b8).at 1
  have vx0_2_8 : w8.cell? ⟨w6.heap.size, 2, none⟩ = some (.slice (some ⟨g6, 0, none⟩) len0 len0) := ((BY0).below b8).at 2
  have lx0_8 : w6.heap.size < w8.heap.size := ((BY0).below b8).lt
  go_wp2_with fail
  refine (ifb_any _ _ _ _ ps0 ps1 _ HF0.out HF1.out (((o6).below b7).below b8).reads (o8).reads HX1.out).mono ?_
  rintro e w9 ⟨rfl, b9⟩
  have c9 : Below w.heap.size w w9 := blink c8 b9
  have hs9 : w8.heap.size ≤ w9.heap.size := b9.size
  have CD9 : Below w.heap.size w w9.drew := Below.drew c9
  have BD9 : Below w9.heap.size w9 w9.drew := (Below.refl _ _).drew
  have SD9 : w9.drew.cell? ⟨w.heap.size, 0, none⟩ = some (.int .i8 st0) ∧ w9.drew.cell? ⟨w.heap.size, 1, none⟩ = some (.int .i16 sy0) ∧ w9.drew.cell? ⟨w.heap.size, 2, none⟩ = some (.slice a0 len0 cap0) ∧ w9.drew.cell? ⟨w6.heap.size, 0, none⟩ = some (.int .i8 st0) ∧ w9.drew.cell? ⟨w6.heap.size, 1, none⟩ = some (.int .i16 sy0) ∧ w9.drew.cell? ⟨w6.heap.size, 2, none⟩ = some (.slice (some ⟨g6, 0, none⟩) len0 len0) := ⟨cbl BD9 ((((((((((BX0).below b2).below b3).below b4).below b5).below b6).below b7).below b8).below b9).at 0), cbl BD9 ((((((((((BX0).below b2).below b3).below b4).below b5).below b6).below b7).below b8).below b9).at 1), cbl BD9 ((((((((((BX0).below b2).below b3).below b4).below b5).below b6).below b7).below b8).below b9).at 2), cbl BD9 ((((BY0).below b8).below b9).at 0), cbl BD9 ((((BY0).below b8).below b9).at 1), cbl BD9 ((((BY0).below b8).below b9).at 2)⟩
  go_wp2_with fail
  go_region_held3 (fun v => v.cell? ⟨w.heap.size, 0, none⟩ = some (.int .i8 st0) ∧ v.cell? ⟨w.heap.size, 1, none⟩ = some (.int .i16 sy0) ∧ v.cell? ⟨w.heap.size, 2, none⟩ = some (.slice a0 len0 cap0) ∧ v.cell? ⟨w6.heap.size, 0, none⟩ = some (.int .i8 st0) ∧ v.cell? ⟨w6.heap.size, 1, none⟩ = some (.int .i16 sy0) ∧ v.cell? ⟨w6.heap.size, 2, none⟩ = some (.slice (some ⟨g6, 0, none⟩) len0 len0)) (first | exact zS11 | exact zS10 | exact SD9) (first | (go_at_call 16; (with_reducible refine (toNet_any st0 sy0 a0 len0 cap0 ps0 _ (hr0.below CD9) HL0.out).mono ?_); rintro e w10 ⟨g10, rfl, o10, d10⟩; have b10 : Below w9.heap.size w9 w10 := BD9.trans (d10.mono (Nat.le_refl _)); have zS10 : w10.cell? ⟨w.heap.size, 0, none⟩ = some (.int .i8 st0) ∧ w10.cell? ⟨w.heap.size, 1, none⟩ = some (.int .i16 sy0) ∧ w10.cell? ⟨w.heap.size, 2, none⟩ = some (.slice a0 len0 cap0) ∧ w10.cell? ⟨w6.heap.size, 0, none⟩ = some (.int .i8 st0) ∧ w10.cell? ⟨w6.heap.size, 1, none⟩ = some (.int .i16 sy0) ∧ w10.cell? ⟨w6.heap.size, 2, none⟩ = some (.slice (some ⟨g6, 0, none⟩) len0 len0) := ⟨cbl d10 SD9.1, cbl d10 SD9.2.1, cbl d10 SD9.2.2.1, cbl d10 SD9.2.2.2.1, cbl d10 SD9.2.2.2.2.1, cbl d10 SD9.2.2.2.2.2⟩) | (go_at_call 20; (with_reducible refine (eqNet_eq st0 sy0 _ _ ps0 _ ((((((o6).below b7).below b8).below b9).below BD9).below d10).reads o10.reads HX0.out).mono ?_); rintro e w11 ⟨rfl, b11⟩; have zS11 : w11.cell? ⟨w.heap.size, 0, none⟩ = some (.int .i8 st0) ∧ w11.cell? ⟨w.heap.size, 1, none⟩ = some (.int .i16 sy0) ∧ w11.cell? ⟨w.heap.size, 2, none⟩ = some (.slice a0 len0 cap0) ∧ w11.cell? ⟨w6.heap.size, 0, none⟩ = some (.int .i8 st0) ∧ w11.cell? ⟨w6.heap.size, 1, none⟩ = some (.int .i16 sy0) ∧ w11.cell? ⟨w6.heap.size, 2, none⟩ = some (.slice (some ⟨g6, 0, none⟩) len0 len0) := ⟨cbl b11 zS10.1, cbl b11 zS10.2.1, cbl b11 zS10.2.2.1, cbl b11 zS10.2.2.2.1, cbl b11 zS10.2.2.2.2.1, cbl b11 zS10.2.2.2.2.2⟩))
  have c10 : Below w.heap.size w w10 := blink c9 b10
  have hs10 : w9.heap.size ≤ w10.heap.size := b10.size
  have c11 : Below w.heap.size w w11 := blink c10 b11
  have hs11 : w10.heap.size ≤ w11.heap.size := b11.size
  clear zS10 zS11 SD9 CD9 BD9
  go_wp2_with fail
  refine (toScanS_any a1 len1 cap1 ps1 _ (hr1.below c11) HL1.out).mono ?_
  rintro e w12 ⟨rfl, o12, b12⟩
  have c12 : Below w.heap.size w w12 := blink c11 b12
  have hs12 : w11.heap.size ≤ w12.heap.size := b12.size
  go_wp2_with fail
  refine (eqScanS_eq _ _ ps1 _ (((((o8).below b9).below b10).below b11).below b12).reads (o12).reads (HX1.out)).mono ?_
  rintro e w13 ⟨rfl, b13⟩
  have c13 : Below w.heap.size w w13 := blink c12 b13
  have hs13 : w12.heap.size ≤ w13.heap.size := b13.size
  go_wp2_with fail
  go_ret
  exact ⟨rfl, c13⟩
end Go.Proofs.Ytloelbaaolhlhaa.fnExactFirstBadScan
namespace Go.Proofs.Ytloelbaaolhlhaa.fnExactFirstBadScan
open Go.ChangeShapes Go.WideShapes Go.ChangeAt Go.RowKit
open Go.ChangeMaps (open_string shut_string)
set_option linter.unusedVariables false

theorem own : ownKnob Try.prog.godebug = none := by kernel_rfl
theorem laidOut : laidOutB Try.prog = true := by kernel_rfl

set_option maxHeartbeats 1000000 in
set_option maxRecDepth 100000 in
theorem lifted (os : Os) (started : os.Started) (H : Type) (enc : TypeId × Value → H) :
    ReturnsInHanded {} Try.checked os 7 .any (Rows.fnExactFirstBadScanSpec.pre6 enc Try.prog Try.f7 Rows.fnExactFirstBadScanRow.domain false) (Rows.fnExactFirstBadScanSpec.post enc Try.prog Try.f7 false true false false) := by
  refine returnsInHanded_of_change (C := Try.checked) own started (by kernel_rfl) Try.func7
    (ChangeSpec.witness6 (enc := enc) (C := Try.checked) false ⟨#[], #[.agg #[.int .i8 0, .int .i16 0, .slice none 0 0], .slice none 0 0], []⟩ 8 (by kernel_rfl) (by kernel_rfl) (by kernel_rfl) (by kernel_rfl)) ?_
  intro W base args ds gs before hval0 hW hcnd _
  have hval : ∀ (j : Nat) t v, Try.f7.params[j]? = some t → args[j]? = some v → Value.okWide Try.prog W .any base t v := hval0
  have hW' := hW
  obtain ⟨p, q, hA0, hV, rfl, hfz, hnd⟩ := hW
  have hA : DataW.TrodAll enc Try.prog W 0 (fun _ => true) true Try.f7.params.toList args.toList ds p := hA0
  rw [Try.params7] at hA hval
  obtain ⟨v0, vs0, d0, ds0, p0, q0, hargs, rfl, rfl, h0, r0⟩ := trodAll_cons hA
  obtain ⟨v1, vs1, d1, ds1, p1, q1, rfl, rfl, rfl, h1, r1⟩ := trodAll_cons r0
  obtain ⟨rfl, rfl, rfl⟩ := trodAll_nil r1
  obtain rfl : args = #[v0, v1] := by cases args; simp_all
  obtain ⟨rfl, rfl⟩ := trodVars_none hV
  have k0 := h0
  have lt0 : ∀ x ∈ p0, x.block < W.heap.size := by obtain ⟨m, hm⟩ := k0; exact DataW.trod_lt m _ _ _ hm
  obtain ⟨u00, u01, u02, y00, y01, y02, n0, rfl, rfl, rfl, t00, t01, t02⟩ := Go.Joins.open_agg3 Try.underlying26 (by kernel_rfl) (by kernel_rfl) (hval 0 26 v0 rfl rfl) h0
  obtain ⟨x00, e00, _, wf00⟩ := DataW.trod_int Try.underlying22 t00
  simp only [List.cons.injEq, and_true] at e00
  subst e00
  obtain ⟨x01, e01, _, wf01⟩ := DataW.trod_int Try.underlying23 t01
  simp only [List.cons.injEq, and_true] at e01
  subst e01
  obtain ⟨a0, len0, cap0, z0, rfl, w0⟩ := openNetLanes t02
  have wn0 : (-128 ≤ x00 ∧ x00 ≤ 127) ∧ (-32768 ≤ x01 ∧ x01 ≤ 32767) := by
    simp [Lit.wf, IntKind.min, IntKind.max, IntKind.signed, IntKind.bits] at wf00 wf01
    omega
  obtain ⟨a1, len1, cap1, rfl⟩ := okWide_slice Try.underlying51 (hval 1 51 v1 rfl rfl)
  have k1 := h1
  have lt1 : ∀ x ∈ p1, x.block < W.heap.size := by obtain ⟨m, hm⟩ := k1; exact DataW.trod_lt m _ _ _ hm
  obtain ⟨fuel1, hf1⟩ := h1
  obtain ⟨z1, w1⟩ := openScan hf1
  clear hA0 hval0
  refine (walk (w := W) x00 x01 a0 len0 cap0 z0 a1 len1 cap1 z1 ⟨w0, wn0⟩ w1).mono fun e W' ⟨he, bel⟩ => ?_
  subst he
  exact ⟨_, rfl, _, _, _, [], _, [], hW', trodAll_mk1 (shut_bool Try.underlying4 _), (trodAll_cons_mk (Below.trod laidOut (by kernel_rfl) (of_decide_eq_true (by kernel_rfl)) k0 bel lt0) (trodAll_cons_mk (Below.trod laidOut (by kernel_rfl) (of_decide_eq_true (by kernel_rfl)) k1 bel lt1) trodAll_mk0)), rfl, bel.frame _, fun h => by cases h⟩

theorem over : Rows.fnExactFirstBadScanRow.holds Try.pinned (OpenSpec.ofChange Rows.fnExactFirstBadScanSpec) :=
  OpenClaim.holds_of_wide 7 Try.f7 rfl rfl rfl rfl rfl rfl rfl ⟨rfl, rfl, rfl, rfl, rfl⟩ rfl rfl rfl rfl rfl (by kernel_rfl) Try.func7 (by kernel_rfl)
    (of_decide_eq_true (by kernel_rfl)) (by unfold Func.isWrapper; first | (rw [if_pos (by decide +kernel)]; kernel_rfl) | (rw [if_neg (by decide +kernel)]; exact ⟨rfl, rfl⟩))
    (fun os started H enc _ => lifted os started H enc)

theorem proved : Rows.FnExactFirstBadScanSaid := over
#print axioms proved
end Go.Proofs.Ytloelbaaolhlhaa.fnExactFirstBadScan
