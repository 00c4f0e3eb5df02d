/-
  WithAllowance of the program; DutyOfLine and UnitValue on both sides.
-/
import Derived.Test.YtfobepfjcphblaaCuF
namespace Go.Proofs.Ytfobepfjcphblaa
open Go Go.RowKit
set_option linter.unusedVariables false

set_option maxHeartbeats 1000000 in
theorem icheckA_any (v u : Value) (cs ls : List (Int × Int × Int × Int)) (al how : Int) (w : World) (hv : ReadsC w v cs) (hu : ReadsL w u ls) (hfc : FitsC cs) (hfl : FitsL ls) (hx : cs.length ≤ 1048576) (hy : ls.length ≤ 1048576) :
    Calls Try.prog 68 #[v, u, .int .i64 al, .int .i64 how] w fun e w' => e = .returned (.tuple #[wayA (askF cs ls (fineA al how)) how, .int .i64 (askF cs ls (fineA al how))]) ∧ Below w.heap.size w w' := by
  obtain ⟨c, hc⟩ : ∃ c, askF cs ls (isHow how) = c := ⟨_, rfl⟩
  have HC := Lib.hid hc
  obtain ⟨V, hV⟩ : ∃ V, wayA c how = V := ⟨_, rfl⟩
  have HW := Lib.hid hV
  by_cases h0 : c = 0
  · subst h0
    obtain ⟨hvf, hh⟩ := askF_ok hc
    by_cases ha : 0 ≤ al ∧ al ≤ 1000000
    · have d1 := betw1_true ha
      have hfa : fineA al how = true := by unfold fineA; rw [decide_eq_true ha, hh]; rfl
      rw [hfa, askF_0 hvf, hV]
      clear hc hV hh hvf hfa
      go_enter Try.func68, Try.ntmps68
      go_wp2_with fail
      refine (icheck_any _ _ cs ls how _ hv hu hfc hfl hx hy).mono ?_
      rintro e w2 ⟨rfl, b2⟩
      rw [HC.out, HW.out]
      go_wp2_with (go_at_call 50; refine (idecl_any _ [al] _ (reads1 (by simp)) (by simp)).mono ?_; rintro e w3 ⟨rfl, rfl⟩)
      go_ret2
      exact ⟨rfl, b2.alloc b2.size _⟩
    · have d1 := betw1_false ha
      have hfa : fineA al how = false := by unfold fineA; rw [decide_eq_false ha]; rfl
      rw [hfa, askF_2 hvf, wayA_2]
      clear hc hV hh hvf hfa ha
      go_enter Try.func68, Try.ntmps68
      go_wp2_with fail
      refine (icheck_any _ _ cs ls how _ hv hu hfc hfl hx hy).mono ?_
      rintro e w2 ⟨rfl, b2⟩
      rw [HC.out, HW.out]
      go_wp2_with (go_at_call 50; refine (idecl_any _ [al] _ (reads1 (by simp)) (by simp)).mono ?_; rintro e w3 ⟨rfl, rfl⟩)
      go_ret2
      exact ⟨rfl, b2.alloc b2.size _⟩
  · have hn : (c == 0) = false := by simpa using h0
    have hfa : askF cs ls (fineA al how) = c := by
      by_cases hvf : vldF cs ls = true
      · have hg : isHow how = false := by
          cases hg : isHow how
          · rfl
          · rw [hg, askF_0 hvf] at hc; exact absurd hc.symm h0
        have : fineA al how = false := by unfold fineA; rw [hg]; cases decide (0 ≤ al ∧ al ≤ 1000000) <;> rfl
        rw [this, ← hc, hg]
      · have hvf : vldF cs ls = false := by simpa using hvf
        rw [← hc, askF_1 hvf, askF_1 hvf]
    rw [hfa, hV]
    clear hc hV h0 hfa
    go_enter Try.func68, Try.ntmps68
    go_wp2_with fail
    refine (icheck_any _ _ cs ls how _ hv hu hfc hfl hx hy).mono ?_
    rintro e w2 ⟨rfl, b2⟩
    rw [HC.out, HW.out]
    go_wp2_with fail
    go_ret2
    exact ⟨rfl, b2⟩

set_option maxHeartbeats 1000000 in
set_option maxRecDepth 100000 in
theorem ifree_any (v : Value) (n : Nat) (ls : List (Int × Int × Int × Int)) (al : Int) (w : World) (hv : ReadsL w v ls) (hfit : FitsL ls) (h10 : ls.length ≤ 10) (hok : OkLTo n ls ls.length) :
    Calls Try.prog 69 #[v, .int .i64 al] w fun e w' => e = .returned (.bool (decide (worthTo ls ls.length ≤ al))) ∧ Below w.heap.size w w' := by
  have fw := field_worth
  go_enter Try.func69, Try.ntmps69
  go_wp2_with fail
  refine (isums_any _ n ls _ hv hfit h10 hok).mono ?_
  rintro e w3 ⟨rfl, b3⟩
  go_wp2_with fail
  go_ret
  exact ⟨rfl, b3⟩

set_option maxHeartbeats 1000000 in
theorem iwa_any (v u : Value) (cs ls : List (Int × Int × Int × Int)) (al how : Int) (w : World) (hv : ReadsC w v cs) (hu : ReadsL w u ls) (hfc : FitsC cs) (hfl : FitsL ls) (hx : cs.length ≤ 1048576) (hy : ls.length ≤ 1048576) :
    Calls Try.prog 39 #[v, u, .int .i64 al, .int .i64 how] w fun e w' => e = .returned (.tuple #[.int .i64 (waRes cs ls al how), .int .i64 (askF cs ls (fineA al how))]) ∧ Below w.heap.size w w' := by
  obtain ⟨c, hc⟩ : ∃ c, askF cs ls (fineA al how) = c := ⟨_, rfl⟩
  have HC := Lib.hid hc
  obtain ⟨V, hV⟩ : ∃ V, wayA c how = V := ⟨_, rfl⟩
  have HW := Lib.hid hV
  obtain ⟨r, hr⟩ : ∃ r, waRes cs ls al how = r := ⟨_, rfl⟩
  rw [hc, hr]
  by_cases h0 : c = 0
  · subst h0
    obtain ⟨hvf, hh⟩ := askF_ok hc
    have hh : isHow how = true := by unfold fineA at hh; rw [Bool.and_eq_true] at hh; exact hh.2
    obtain ⟨_, h10, hok⟩ := vldF_spec hvf
    have hd : (if worthTo ls ls.length ≤ al then 0 else dutyTo cs ls how ls.length) = r := by rw [← hr]; unfold waRes; rw [if_pos hc]
    have HDU : Hid (∀ W, Below w.heap.size w W → Calls Try.prog 65 #[v, u, V] W fun e w' => e = .returned (.int .i64 (dutyTo cs ls how ls.length)) ∧ Below W.heap.size W w') := Lib.hid (fun W hb => by rw [← hV, wayA_0]; exact idutyOf_any v u cs ls how hvf hfl hh W (hv.below hb) (hu.below hb))
    obtain ⟨wt, hwt⟩ : ∃ x, worthTo ls ls.length = x := ⟨_, rfl⟩
    have HWT := Lib.hid hwt
    rw [hwt] at hd
    by_cases hw : wt ≤ al
    · have e1 : decide (wt ≤ al) = true := decide_eq_true hw
      have HD : Hid (r = 0) := Lib.hid (by rw [← hd, if_pos hw])
      clear hc hr hV hd hw hwt hh
      go_enter Try.func39, Try.ntmps39
      go_wp2_with fail
      refine (icheckA_any _ _ cs ls al how _ hv hu hfc hfl hx hy).mono ?_
      rintro e w2 ⟨rfl, b2⟩
      rw [HC.out, HW.out]
      go_wp2_with fail
      refine (ifree_any _ _ ls al _ (hu.below b2) hfl h10 hok).mono ?_
      rintro e w3 ⟨rfl, b3⟩
      rw [HWT.out]
      have b3 := blink b2 b3
      go_wp2_with fail
      go_ret2
      exact ⟨ret_two ⟨HD.out, rfl⟩, b3⟩
    · have e1 : decide (wt ≤ al) = false := decide_eq_false hw
      have HD : Hid (r = dutyTo cs ls how ls.length) := Lib.hid (by rw [← hd, if_neg hw])
      clear hc hr hV hd hw hwt hh
      go_enter Try.func39, Try.ntmps39
      go_wp2_with fail
      refine (icheckA_any _ _ cs ls al how _ hv hu hfc hfl hx hy).mono ?_
      rintro e w2 ⟨rfl, b2⟩
      rw [HC.out, HW.out]
      go_wp2_with fail
      refine (ifree_any _ _ ls al _ (hu.below b2) hfl h10 hok).mono ?_
      rintro e w3 ⟨rfl, b3⟩
      rw [HWT.out]
      have b3 := blink b2 b3
      go_wp2_with fail
      refine (HDU.out _ b3).mono ?_
      rintro e w4 ⟨rfl, b4⟩
      have b4 := blink b3 b4
      go_wp2_with fail
      go_ret2
      exact ⟨ret_two ⟨HD.out, rfl⟩, b4⟩
  · have hn : (c != 0) = true := by simpa using h0
    have HR : Hid (r = 0) := Lib.hid (by rw [← hr]; exact if_neg (by rw [hc]; exact h0))
    clear hc hr hV h0
    go_enter Try.func39, Try.ntmps39
    go_wp2_with fail
    refine (icheckA_any _ _ cs ls al how _ hv hu hfc hfl hx hy).mono ?_
    rintro e w2 ⟨rfl, b2⟩
    rw [HC.out, HW.out]
    go_wp2_with fail
    go_ret2
    exact ⟨ret_two ⟨HR.out, rfl⟩, b2⟩

/-! ### DutyOfLine, UnitValue -/
theorem readsL1 {W : World} {T : TypeId} {x0 x1 x2 x3 : Int} {n : Nat} (h : W.heap.size = n) : ReadsL (W.alloc (.cells #[.int .i8 x0, .int .i16 x1, .int .i32 x2, .int .i32 x3] T)) (.slice (some ⟨n, 0, none⟩) 1 1) [(x0, x1, x2, x3)] := by
  refine ⟨_, _, rfl, fun _ => ⟨_, rfl, fun i hi => ?_⟩⟩
  have hi' : i < 1 := hi
  obtain rfl : i = 0 := by omega
  have b := BlkA.new h T #[.int .i8 x0, .int .i16 x1, .int .i32 x2, .int .i32 x3]
  exact ⟨b.at 0, b.at 1, b.at 2, b.at 3⟩
theorem fitsL1 {x0 x1 x2 x3 : Int} (h : FitL (x0, x1, x2, x3)) : FitsL [(x0, x1, x2, x3)] := fun p hp => by
  simp at hp; rw [hp]; exact h

set_option maxHeartbeats 1000000 in
theorem sdutyLine_any (v : Value) (cs : List (Int × Int × Int × Int)) (x0 x1 x2 x3 how : Int) (w : World) (hv : ReadsC w v cs) (hfc : FitsC cs) (hf : FitL (x0, x1, x2, x3)) (hx : cs.length ≤ 1048576) :
    Calls Try.prog 33 #[v, .agg #[.int .i8 x0, .int .i16 x1, .int .i32 x2, .int .i32 x3], .int .i64 how] w fun e w' => e = .returned (.tuple #[.int .i64 (dutyRes cs [(x0, x1, x2, x3)] how), .int .i64 (askF cs [(x0, x1, x2, x3)] (isHow how))]) ∧ Below w.heap.size w w' := by
  have HF := Lib.hid hf
  clear hf
  go_enter Try.func33, Try.ntmps33
  go_wp2_with fail
  refine (sdutyOf2_any _ _ cs [(x0, x1, x2, x3)] how _ (hv.below (((Below.refl _ _).alloc (Nat.le_refl _) _).alloc (by simp) _)) (readsL1 (by simp)) hfc (fitsL1 HF.out) hx (by simp)).mono ?_
  rintro e w2 ⟨rfl, b2⟩
  have b3 : Below w.heap.size w w2 := (((Below.refl _ _).alloc (Nat.le_refl _) _).alloc (by simp) _).trans (b2.mono (by simp; omega))
  clear b2
  go_wp2_with fail
  go_ret2
  exact ⟨rfl, b3⟩
set_option maxHeartbeats 1000000 in
theorem idutyLine_any (v : Value) (cs : List (Int × Int × Int × Int)) (x0 x1 x2 x3 how : Int) (w : World) (hv : ReadsC w v cs) (hfc : FitsC cs) (hf : FitL (x0, x1, x2, x3)) (hx : cs.length ≤ 1048576) :
    Calls Try.prog 35 #[v, .agg #[.int .i8 x0, .int .i16 x1, .int .i32 x2, .int .i32 x3], .int .i64 how] w fun e w' => e = .returned (.tuple #[.int .i64 (dutyRes cs [(x0, x1, x2, x3)] how), .int .i64 (askF cs [(x0, x1, x2, x3)] (isHow how))]) ∧ Below w.heap.size w w' := by
  have HF := Lib.hid hf
  clear hf
  go_enter Try.func35, Try.ntmps35
  go_wp2_with fail
  refine (idutyOf2_any _ _ cs [(x0, x1, x2, x3)] how _ (hv.below (((Below.refl _ _).alloc (Nat.le_refl _) _).alloc (by simp) _)) (readsL1 (by simp)) hfc (fitsL1 HF.out) hx (by simp)).mono ?_
  rintro e w2 ⟨rfl, b2⟩
  have b3 : Below w.heap.size w w2 := (((Below.refl _ _).alloc (Nat.le_refl _) _).alloc (by simp) _).trans (b2.mono (by simp; omega))
  clear b2
  go_wp2_with fail
  go_ret2
  exact ⟨rfl, b3⟩

def uvRes (cs : List (Int × Int × Int × Int)) (x0 x1 x2 x3 : Int) : Int := if vldF cs [(x0, x1, x2, x3)] = true then x2 / x1 else 0
theorem uv_ok {cs : List (Int × Int × Int × Int)} {x0 x1 x2 x3 : Int} (h : vldF cs [(x0, x1, x2, x3)] = true) : uvRes cs x0 x1 x2 x3 = x2 / x1 ∧ codeF cs [(x0, x1, x2, x3)] = 0 := by unfold uvRes codeF; rw [if_pos h, if_pos h]; exact ⟨rfl, rfl⟩
theorem uv_no {cs : List (Int × Int × Int × Int)} {x0 x1 x2 x3 : Int} (h : vldF cs [(x0, x1, x2, x3)] = false) : uvRes cs x0 x1 x2 x3 = 0 ∧ codeF cs [(x0, x1, x2, x3)] = 1 := by unfold uvRes codeF; rw [if_neg (by rw [h]; simp), if_neg (by rw [h]; simp)]; exact ⟨rfl, rfl⟩
theorem line1_ok {cs : List (Int × Int × Int × Int)} {x0 x1 x2 x3 : Int} (h : vldF cs [(x0, x1, x2, x3)] = true) : (1 ≤ x1 ∧ x1 ≤ 1000) ∧ (0 ≤ x2 ∧ x2 ≤ 1000000) := by
  obtain ⟨_, _, hok⟩ := vldF_spec h
  have h0 := hok 0 (by simp)
  unfold okL at h0
  exact ⟨h0.2.1, h0.2.2.1⟩
set_option maxHeartbeats 1000000 in
theorem iunit_any (x0 x1 x2 x3 : Int) (h1 : 1 ≤ x1) (h2 : x1 ≤ 1000) (v0 : 0 ≤ x2) (v1 : x2 ≤ 1000000) (w : World) :
    Calls Try.prog 72 #[.agg #[.int .i8 x0, .int .i16 x1, .int .i32 x2, .int .i32 x3]] w fun e w' => e = .returned (.int .i64 (x2 / x1)) ∧ Below w.heap.size w w' := by
  obtain ⟨q0, q1⟩ := div_in v0 h1
  have hnz : x1 ≠ 0 := by omega
  go_enter Try.func72, Try.ntmps72
  go_wp2_with fail
  go_ret
  exact ⟨rfl, (Below.refl _ _).alloc (Nat.le_refl _) _⟩

set_option maxHeartbeats 1000000 in
theorem suv_any (v : Value) (cs : List (Int × Int × Int × Int)) (x0 x1 x2 x3 : Int) (w : World) (hv : ReadsC w v cs) (hfc : FitsC cs) (hf : FitL (x0, x1, x2, x3)) (hx : cs.length ≤ 1048576) :
    Calls Try.prog 42 #[v, .agg #[.int .i8 x0, .int .i16 x1, .int .i32 x2, .int .i32 x3]] w fun e w' => e = .returned (.tuple #[.int .i64 (uvRes cs x0 x1 x2 x3), .int .i64 (codeF cs [(x0, x1, x2, x3)])]) ∧ Below w.heap.size w w' := by
  have HF := Lib.hid hf
  have B1 : BlkA (w.alloc (.cells #[.int .i8 x0, .int .i16 x1, .int .i32 x2, .int .i32 x3] 46)) w.heap.size 46 #[.int .i8 x0, .int .i16 x1, .int .i32 x2, .int .i32 x3] := BlkA.new rfl _ _
  have HB1 := Lib.hid B1
  clear hf B1
  cases h : vldF cs [(x0, x1, x2, x3)]
  · have HR := Lib.hid (uv_no h)
    have HV := Lib.hid h
    clear h
    go_enter Try.func42, Try.ntmps42
    go_wp2_with fail
    refine (sokF_any _ _ cs [(x0, x1, x2, x3)] _ (hv.below (((Below.refl _ _).alloc (Nat.le_refl _) _).alloc (by simp) _)) (readsL1 (by simp)) hfc (fitsL1 HF.out) hx (by simp)).mono ?_
    rintro e w2 ⟨rfl, b2⟩
    rw [HV.out]
    have b3 : Below w.heap.size w w2 := (((Below.refl _ _).alloc (Nat.le_refl _) _).alloc (by simp) _).trans (b2.mono (by simp; omega))
    clear b2
    go_wp2_with fail
    go_ret2
    exact ⟨ret_two HR.out, b3⟩
  · have HR := Lib.hid (uv_ok h)
    obtain ⟨⟨h1, h2⟩, v0, v1⟩ := line1_ok h
    obtain ⟨q0, q1⟩ := div_in v0 h1
    have hnz : x1 ≠ 0 := by omega
    have HV := Lib.hid h
    clear h
    go_enter Try.func42, Try.ntmps42
    go_wp2_with fail
    refine (sokF_any _ _ cs [(x0, x1, x2, x3)] _ (hv.below (((Below.refl _ _).alloc (Nat.le_refl _) _).alloc (by simp) _)) (readsL1 (by simp)) hfc (fitsL1 HF.out) hx (by simp)).mono ?_
    rintro e w2 ⟨rfl, b2⟩
    rw [HV.out]
    have b3 : Below w.heap.size w w2 := (((Below.refl _ _).alloc (Nat.le_refl _) _).alloc (by simp) _).trans (b2.mono (by simp; omega))
    have B2 := (HB1.out.alloc (.cells #[.int .i8 x0, .int .i16 x1, .int .i32 x2, .int .i32 x3] 46)).below b2
    have g1 : w2.cell? ⟨w.heap.size, 1, none⟩ = some (.int .i16 x1) := B2.at 1
    have g2 : w2.cell? ⟨w.heap.size, 2, none⟩ = some (.int .i32 x2) := B2.at 2
    clear b2 B2
    go_wp2_with fail
    go_ret2
    exact ⟨ret_two HR.out, b3⟩

set_option maxHeartbeats 1000000 in
theorem iuv_any (v : Value) (cs : List (Int × Int × Int × Int)) (x0 x1 x2 x3 : Int) (w : World) (hv : ReadsC w v cs) (hfc : FitsC cs) (hf : FitL (x0, x1, x2, x3)) (hx : cs.length ≤ 1048576) :
    Calls Try.prog 43 #[v, .agg #[.int .i8 x0, .int .i16 x1, .int .i32 x2, .int .i32 x3]] w fun e w' => e = .returned (.tuple #[.int .i64 (uvRes cs x0 x1 x2 x3), .int .i64 (codeF cs [(x0, x1, x2, x3)])]) ∧ Below w.heap.size w w' := by
  have HF := Lib.hid hf
  have B1 : BlkA (w.alloc (.cells #[.int .i8 x0, .int .i16 x1, .int .i32 x2, .int .i32 x3] 46)) w.heap.size 46 #[.int .i8 x0, .int .i16 x1, .int .i32 x2, .int .i32 x3] := BlkA.new rfl _ _
  have HB1 := Lib.hid B1
  clear hf B1
  cases h : vldF cs [(x0, x1, x2, x3)]
  · have HR := Lib.hid (uv_no h)
    have HV := Lib.hid h
    clear h
    go_enter Try.func43, Try.ntmps43
    go_wp2_with fail
    refine (ivldF_any _ _ cs [(x0, x1, x2, x3)] _ (hv.below (((Below.refl _ _).alloc (Nat.le_refl _) _).alloc (by simp) _)) (readsL1 (by simp)) hfc (fitsL1 HF.out) hx (by simp)).mono ?_
    rintro e w2 ⟨rfl, b2⟩
    rw [HV.out]
    have b3 : Below w.heap.size w w2 := (((Below.refl _ _).alloc (Nat.le_refl _) _).alloc (by simp) _).trans (b2.mono (by simp; omega))
    clear b2
    go_wp2_with fail
    go_ret2
    exact ⟨ret_two HR.out, b3⟩
  · have HR := Lib.hid (uv_ok h)
    obtain ⟨⟨h1, h2⟩, v0, v1⟩ := line1_ok h
    have HV := Lib.hid h
    clear h
    go_enter Try.func43, Try.ntmps43
    go_wp2_with fail
    refine (ivldF_any _ _ cs [(x0, x1, x2, x3)] _ (hv.below (((Below.refl _ _).alloc (Nat.le_refl _) _).alloc (by simp) _)) (readsL1 (by simp)) hfc (fitsL1 HF.out) hx (by simp)).mono ?_
    rintro e w2 ⟨rfl, b2⟩
    rw [HV.out]
    have b3 : Below w.heap.size w w2 := (((Below.refl _ _).alloc (Nat.le_refl _) _).alloc (by simp) _).trans (b2.mono (by simp; omega))
    have B2 := (HB1.out.alloc (.cells #[.int .i8 x0, .int .i16 x1, .int .i32 x2, .int .i32 x3] 46)).below b2
    have g0 : w2.cell? ⟨w.heap.size, 0, none⟩ = some (.int .i8 x0) := B2.at 0
    have g1 : w2.cell? ⟨w.heap.size, 1, none⟩ = some (.int .i16 x1) := B2.at 1
    have g2 : w2.cell? ⟨w.heap.size, 2, none⟩ = some (.int .i32 x2) := B2.at 2
    have g3 : w2.cell? ⟨w.heap.size, 3, none⟩ = some (.int .i32 x3) := B2.at 3
    clear b2 B2
    go_wp2_with fail
    refine (iunit_any x0 x1 x2 x3 h1 h2 v0 v1 _).mono ?_
    rintro e w3 ⟨rfl, b4⟩
    have b5 := blink b3 b4
    clear b4
    go_wp2_with fail
    go_ret2
    exact ⟨ret_two HR.out, b5⟩
end Go.Proofs.Ytfobepfjcphblaa
