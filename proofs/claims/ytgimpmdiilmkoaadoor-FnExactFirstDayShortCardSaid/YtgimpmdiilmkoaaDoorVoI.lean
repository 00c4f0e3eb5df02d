/-
  Vouchers: the program's check, slips, WorthAt and LostBy.
-/
import Derived.Test.YtgimpmdiilmkoaaDoorVoP
import Derived.Test.YtgimpmdiilmkoaaDoorWi
import Derived.Test.YtgimpmdiilmkoaaDoorCoI
namespace Go.Proofs.YtgimpmdiilmkoaaDoor
open Go Go.RowKit
set_option linter.unusedVariables false

set_option maxHeartbeats 2000000 in
theorem icheckV_any (v u : Value) (ps : List (Int × Int)) (day : Int) (xs : List Int) (w : World) (hv : ReadsVo w v ps) (hfit : FitsVo ps) (hx : ps.length ≤ 1048576) (hu : ReadsI w u xs) (hn : xs.length ≤ 1048576) :
    Calls Tryd.prog 64 #[v, .int .i64 day, u] w fun e w' => e = .returned (errV (askC ps day xs)) ∧ Below w.heap.size w w' := by
  have HU := Lib.hid hu
  obtain ⟨a, cap, rfl, ha⟩ := hu
  clear ha
  by_cases h : vldVo ps = true
  · have HV := Lib.hid h
    by_cases g : 1000 < xs.length
    · have HA := Lib.hid (askC_3 (day := day) h g)
      have d1 : decide ((1000 : Int) < (xs.length : Int)) = true := decide_eq_true (by omega)
      clear h
      go_enter Tryd.func64, Tryd.ntmps64
      go_wp2_with fail
      refine (ivldVo_any _ ps _ hv hfit hx).mono ?_
      rintro e w2 ⟨rfl, b2⟩
      rw [HV.out]
      go_wp2_with fail
      go_ret
      exact ⟨by rw [HA.out, errV_3]; rfl, b2⟩
    · have d1 : decide ((1000 : Int) < (xs.length : Int)) = false := decide_eq_false (by omega)
      by_cases f : dayB day = true
      · obtain ⟨B, hB⟩ : ∃ B, betwB xs 0 1000000 = B := ⟨_, rfl⟩
        have HG := Lib.hid f
        have HB := Lib.hid hB
        cases B
        · have HA := Lib.hid (askC_2 (day := day) h g (by rw [f, hB]; rfl))
          clear h f hB
          go_enter Tryd.func64, Tryd.ntmps64
          go_wp2_with fail
          refine (ivldVo_any _ ps _ hv hfit hx).mono ?_
          rintro e w2 ⟨rfl, b2⟩
          rw [HV.out]
          have hu2 := Lib.hid (HU.out.below b2)
          have dB := HG.out
          have eB := HB.out
          go_wp2_with (first | (go_at_call 89; refine (iday_any _ _).mono ?_; rintro e w3 ⟨rfl, hw3⟩; subst hw3) | (go_at_call 94; refine (within64_any _ xs 0 1000000 _ hu2.out hn).mono ?_; rintro e w3 ⟨rfl, hw3⟩; subst hw3))
          go_ret
          exact ⟨by rw [HA.out, errV_2]; rfl, b2⟩
        · have HA := Lib.hid (askC_0 (day := day) h g (by rw [f, hB]; rfl))
          clear h f hB
          go_enter Tryd.func64, Tryd.ntmps64
          go_wp2_with fail
          refine (ivldVo_any _ ps _ hv hfit hx).mono ?_
          rintro e w2 ⟨rfl, b2⟩
          rw [HV.out]
          have hu2 := Lib.hid (HU.out.below b2)
          have dB := HG.out
          have eB := HB.out
          go_wp2_with (first | (go_at_call 89; refine (iday_any _ _).mono ?_; rintro e w3 ⟨rfl, hw3⟩; subst hw3) | (go_at_call 94; refine (within64_any _ xs 0 1000000 _ hu2.out hn).mono ?_; rintro e w3 ⟨rfl, hw3⟩; subst hw3))
          go_ret
          exact ⟨by rw [HA.out, errV_0]; rfl, b2⟩
      · have f : dayB day = false := by simpa using f
        have HG := Lib.hid f
        have HA := Lib.hid (askC_2 (day := day) h g (by rw [f]; rfl))
        clear h f
        go_enter Tryd.func64, Tryd.ntmps64
        go_wp2_with fail
        refine (ivldVo_any _ ps _ hv hfit hx).mono ?_
        rintro e w2 ⟨rfl, b2⟩
        rw [HV.out]
        have dB := HG.out
        go_wp2_with (first | (go_at_call 89; refine (iday_any _ _).mono ?_; rintro e w3 ⟨rfl, hw3⟩; subst hw3))
        go_ret
        exact ⟨by rw [HA.out, errV_2]; rfl, b2⟩
  · have h : vldVo ps = false := by simpa using h
    have HV := Lib.hid h
    have HA := Lib.hid (askC_1 (day := day) (xs := xs) h)
    clear h
    go_enter Tryd.func64, Tryd.ntmps64
    go_wp2_with fail
    refine (ivldVo_any _ ps _ hv hfit hx).mono ?_
    rintro e w2 ⟨rfl, b2⟩
    rw [HV.out]
    go_wp2_with fail
    go_ret
    exact ⟨by rw [HA.out, errV_1]; rfl, b2⟩

/-- A voucher as it is on a day. -/
def slipV (x0 x1 day : Int) : Value := if x1 < day then .iface 141 (.agg #[.int .i32 x0, .int .i16 x1]) else .iface 140 (.agg #[.int .i32 x0, .int .i16 x1])
theorem slipV_l {x0 x1 day : Int} (h : x1 < day) : slipV x0 x1 day = .iface 141 (.agg #[.int .i32 x0, .int .i16 x1]) := if_pos h
theorem slipV_c {x0 x1 day : Int} (h : ¬ x1 < day) : slipV x0 x1 day = .iface 140 (.agg #[.int .i32 x0, .int .i16 x1]) := if_neg h
theorem islip_any (x0 x1 day : Int) (h0 : -32768 ≤ x1) (h1 : x1 ≤ 32767) (w : World) :
    Calls Tryd.prog 95 #[.agg #[.int .i32 x0, .int .i16 x1], .int .i64 day] w fun e w' => e = .returned (slipV x0 x1 day) ∧ w' = w.alloc (.cells #[.int .i32 x0, .int .i16 x1] 101) := by
  by_cases t : x1 < day
  · have d1 : decide (x1 < day) = true := decide_eq_true t
    have HS := Lib.hid (slipV_l (x0 := x0) t)
    clear t
    go_enter Tryd.func95, Tryd.ntmps95
    go_wp2_with fail
    go_ret
    exact ⟨by rw [HS.out]; rfl, rfl⟩
  · have d1 : decide (x1 < day) = false := decide_eq_false t
    have HS := Lib.hid (slipV_c (x0 := x0) t)
    clear t
    go_enter Tryd.func95, Tryd.ntmps95
    go_wp2_with fail
    go_ret
    exact ⟨by rw [HS.out]; rfl, rfl⟩

set_option maxHeartbeats 8000000 in
set_option maxRecDepth 100000 in
theorem iworths_row (b len cap : Nat) (ps : List (Int × Int)) (day : Int) (hl : ps.length = len) (h12 : len ≤ 12) (hfit : FitsVo ps) (hok : OkVoTo ps ps.length) (w : World) (hc : CellsVo w b ps) :
    Calls Tryd.prog 65 #[.slice (some ⟨b, 0, none⟩) len cap, .int .i64 day] w fun e w' => e = .returned (.tuple #[.int .i64 (worthV ps day len), .int .i64 (lostV ps day len)]) ∧ Below w.heap.size w w' := by
  have HL := Lib.hid hl
  have HI := Lib.hid hfit
  have HO := Lib.hid hok
  have HC := Lib.hid hc
  clear hl hfit hok hc
  have ta : ∀ x y w, (Instr.typeAssert (.iface 140 (.agg #[.int .i32 x, .int .i16 y])) 137 140 true).run Tryd.prog w = .ok (.tuple #[.agg #[.int .i32 x, .int .i16 y], .bool true]) w := fun _ _ _ => by kernel_rfl
  have tb : ∀ x y w, (Instr.typeAssert (.iface 141 (.agg #[.int .i32 x, .int .i16 y])) 137 140 true).run Tryd.prog w = .ok (.tuple #[.agg #[.int .i32 0, .int .i16 0], .bool false]) w := fun _ _ _ => by kernel_rfl
  have tc : ∀ x y w, (Instr.typeAssert (.iface 141 (.agg #[.int .i32 x, .int .i16 y])) 137 141 true).run Tryd.prog w = .ok (.tuple #[.agg #[.int .i32 x, .int .i16 y], .bool true]) w := fun _ _ _ => by kernel_rfl
  go_enter Tryd.func65, Tryd.ntmps65
  go_wp2_with fail
  go_loopw [4, 5, 12] (fun s u i wr => ∃ k : Nat, k ≤ len ∧ i = .int .i64 k ∧ s = .int .i64 (worthV ps day k) ∧ u = .int .i64 (lostV ps day k) ∧ Below w.heap.size w wr) (fun _ _ i _ => len - (intOf i).toNat)
  case atStart => exact ⟨0, Nat.zero_le _, rfl, rfl, rfl, Below.refl _ _⟩
  case round =>
    obtain ⟨k, hk, rfl, rfl, rfl, hnx⟩ := hrel
    have HB := Lib.hid hnx
    obtain ⟨⟨v0, v1⟩, g0, g1⟩ := worthV_in (ps := ps) (day := day) (k := k) (fun i hi => HO.out i (by have := HL.out; omega))
    obtain ⟨wt, hwt⟩ : ∃ x, worthV ps day k = x := ⟨_, rfl⟩
    obtain ⟨lt, hlt'⟩ : ∃ x, lostV ps day k = x := ⟨_, rfl⟩
    rw [hwt] at v0 v1 ⊢
    rw [hlt'] at g0 g1 ⊢
    have HWT := Lib.hid hwt
    have HLT := Lib.hid hlt'
    by_cases hlt : k < len
    · obtain ⟨c0, c1⟩ := HC.out.below hnx k (by have := HL.out; omega)
      have hf := HI.out.get k (by have := HL.out; omega)
      obtain ⟨q, hq⟩ : ∃ q, ps.getD k (0, 0) = q := ⟨_, rfl⟩
      rw [hq] at c0 c1 hf
      obtain ⟨x0, x1⟩ := q
      unfold FitVo at hf
      simp only at hf
      obtain ⟨⟨l0, u0⟩, l1, u1⟩ := hf
      have hkl : (k : Int) < (len : Int) := by omega
      have hwr : w.heap.size ≤ wr.heap.size := hnx.size
      by_cases t : x1 < day
      · have HN : Hid (worthV ps day (k + 1) = wt ∧ lostV ps day (k + 1) = lt + x0) := Lib.hid (by rw [worthV, lostV, hq, hwt, hlt', if_neg (by omega), if_neg (by omega)]; exact ⟨rfl, rfl⟩)
        have HS := Lib.hid (slipV_l (x0 := x0) t)
        clear hq hwt hlt' t hnx
        go_wp2_with (go_at_call 95; refine (islip_any _ _ _ l1 u1 _).mono ?_; rintro e w3 ⟨rfl, hw3⟩; subst hw3; rw [HS.out])
        go_roundw
        case rel => exact ⟨k + 1, by omega, by go_num, by rw [HN.out.1], by rw [HN.out.2], by repeat (first | exact HB.out | refine Below.drew ?_ | refine Below.setCell ?_ (by first | (simp; done) | (simp; omega) | omega) _ | refine Below.alloc ?_ (by first | (simp; done) | (simp; omega) | omega) _)⟩
        case measure => simp [intOf]; omega
      · have HN : Hid (worthV ps day (k + 1) = wt + x0 ∧ lostV ps day (k + 1) = lt) := Lib.hid (by rw [worthV, lostV, hq, hwt, hlt', if_pos (by omega), if_pos (by omega)]; exact ⟨rfl, rfl⟩)
        have HS := Lib.hid (slipV_c (x0 := x0) t)
        clear hq hwt hlt' t hnx
        go_wp2_with (go_at_call 95; refine (islip_any _ _ _ l1 u1 _).mono ?_; rintro e w3 ⟨rfl, hw3⟩; subst hw3; rw [HS.out])
        go_roundw
        case rel => exact ⟨k + 1, by omega, by go_num, by rw [HN.out.1], by rw [HN.out.2], by repeat (first | exact HB.out | refine Below.drew ?_ | refine Below.setCell ?_ (by first | (simp; done) | (simp; omega) | omega) _ | refine Below.alloc ?_ (by first | (simp; done) | (simp; omega) | omega) _)⟩
        case measure => simp [intOf]; omega
    · have hk' : k = len := by omega
      have HE : Hid (wt = worthV ps day len ∧ lt = lostV ps day len) := Lib.hid (by rw [← hk', HWT.out, HLT.out]; exact ⟨rfl, rfl⟩)
      clear hk' hnx
      go_wp2_with fail
      go_ret2
      exact ⟨ret_tw HE.out, HB.out⟩
theorem iworths_zero (a : Option Addr) (cap : Nat) (day : Int) (w : World) :
    Calls Tryd.prog 65 #[.slice a 0 cap, .int .i64 day] w fun e w' => e = .returned (.tuple #[.int .i64 0, .int .i64 0]) ∧ Below w.heap.size w w' := by
  go_enter Tryd.func65, Tryd.ntmps65
  go_wp2
  refine wp_loop_rounds 1 ?_
  rw [rounds_succ]
  go_wp2
  go_ret2
  exact ⟨rfl, Below.refl _ _⟩
theorem iworths_any (v : Value) (ps : List (Int × Int)) (day : Int) (w : World) (hv : ReadsVo w v ps) (hfit : FitsVo ps) (h12 : ps.length ≤ 12) (hok : OkVoTo ps ps.length) :
    Calls Tryd.prog 65 #[v, .int .i64 day] w fun e w' => e = .returned (.tuple #[.int .i64 (worthV ps day ps.length), .int .i64 (lostV ps day ps.length)]) ∧ Below w.heap.size w w' := by
  obtain ⟨a, cap, rfl, h⟩ := hv
  by_cases h0 : ps = []
  · subst h0
    exact iworths_zero a cap day w
  · obtain ⟨b, rfl, hc⟩ := h h0
    exact iworths_row b ps.length cap ps day rfl h12 hfit hok w hc
theorem reads0 (w : World) : ReadsI w (.slice none 0 0) [] := ⟨none, 0, rfl, fun h => absurd rfl h⟩

set_option maxHeartbeats 1000000 in
theorem iworthAt_any (v : Value) (ps : List (Int × Int)) (day : Int) (w : World) (hv : ReadsVo w v ps) (hfit : FitsVo ps) (hx : ps.length ≤ 1048576) :
    Calls Tryd.prog 23 #[v, .int .i64 day] w fun e w' => e = .returned (.tuple #[.int .i64 (worthRes ps day), .int .i64 (onC ps day)]) ∧ Below w.heap.size w w' := by
  obtain ⟨c, hcd⟩ : ∃ c, onC ps day = c := ⟨_, rfl⟩
  have hin := onC_in ps day
  rw [hcd] at hin
  have HIN := Lib.hid hin
  have HAC : Hid (askC ps day [] = c) := Lib.hid (by rw [askC_nil]; exact hcd)
  have HCD := Lib.hid hcd
  clear hin
  by_cases h : c = 0
  · obtain ⟨hv1, hd1⟩ := onC_ok (hcd.trans h)
    obtain ⟨h12, hok⟩ := vldVo_spec hv1
    have HR : Hid (worthRes ps day = worthV ps day ps.length) := Lib.hid (if_pos (hcd.trans h))
    have HZ := Lib.hid h
    have hcz : (c == 0) = true := by simpa using h
    clear hv1 hd1 hcd h
    go_enter Tryd.func23, Tryd.ntmps23
    go_wp2_with fail
    refine (icheckV_any _ _ ps day [] _ hv hfit hx (reads0 _) (by simp)).mono ?_
    rintro e w2 ⟨rfl, b2⟩
    rw [HAC.out]
    go_wp2_with fail
    refine (code_any c HIN.out _).mono ?_
    rintro e w3 ⟨rfl, b3⟩
    go_wp2_with fail
    have b23 := blink b2 b3
    refine (iworths_any _ ps day _ (hv.below b23) hfit h12 hok).mono ?_
    rintro e w4 ⟨rfl, b4⟩
    go_wp2_with fail
    go_ret2
    exact ⟨ret_tw ⟨HR.out.symm, by rw [HCD.out, HZ.out]⟩, blink b23 b4⟩
  · have HR : Hid (worthRes ps day = 0) := Lib.hid (if_neg (by rw [hcd]; exact h))
    have hcz : (c == 0) = false := by simpa using h
    clear hcd h
    go_enter Tryd.func23, Tryd.ntmps23
    go_wp2_with fail
    refine (icheckV_any _ _ ps day [] _ hv hfit hx (reads0 _) (by simp)).mono ?_
    rintro e w2 ⟨rfl, b2⟩
    rw [HAC.out]
    go_wp2_with fail
    refine (code_any c HIN.out _).mono ?_
    rintro e w3 ⟨rfl, b3⟩
    go_wp2_with fail
    go_ret2
    exact ⟨ret_tw ⟨HR.out.symm, HCD.out.symm⟩, blink b2 b3⟩

set_option maxHeartbeats 1000000 in
theorem ilostBy_any (v : Value) (ps : List (Int × Int)) (day : Int) (w : World) (hv : ReadsVo w v ps) (hfit : FitsVo ps) (hx : ps.length ≤ 1048576) :
    Calls Tryd.prog 26 #[v, .int .i64 day] w fun e w' => e = .returned (.tuple #[.int .i64 (lostRes ps day), .int .i64 (onC ps day)]) ∧ Below w.heap.size w w' := by
  obtain ⟨c, hcd⟩ : ∃ c, onC ps day = c := ⟨_, rfl⟩
  have hin := onC_in ps day
  rw [hcd] at hin
  have HIN := Lib.hid hin
  have HAC : Hid (askC ps day [] = c) := Lib.hid (by rw [askC_nil]; exact hcd)
  have HCD := Lib.hid hcd
  clear hin
  by_cases h : c = 0
  · obtain ⟨hv1, hd1⟩ := onC_ok (hcd.trans h)
    obtain ⟨h12, hok⟩ := vldVo_spec hv1
    have HR : Hid (lostRes ps day = lostV ps day ps.length) := Lib.hid (if_pos (hcd.trans h))
    have HZ := Lib.hid h
    have hcz : (c == 0) = true := by simpa using h
    clear hv1 hd1 hcd h
    go_enter Tryd.func26, Tryd.ntmps26
    go_wp2_with fail
    refine (icheckV_any _ _ ps day [] _ hv hfit hx (reads0 _) (by simp)).mono ?_
    rintro e w2 ⟨rfl, b2⟩
    rw [HAC.out]
    go_wp2_with fail
    refine (code_any c HIN.out _).mono ?_
    rintro e w3 ⟨rfl, b3⟩
    go_wp2_with fail
    have b23 := blink b2 b3
    refine (iworths_any _ ps day _ (hv.below b23) hfit h12 hok).mono ?_
    rintro e w4 ⟨rfl, b4⟩
    go_wp2_with fail
    go_ret2
    exact ⟨ret_tw ⟨HR.out.symm, by rw [HCD.out, HZ.out]⟩, blink b23 b4⟩
  · have HR : Hid (lostRes ps day = 0) := Lib.hid (if_neg (by rw [hcd]; exact h))
    have hcz : (c == 0) = false := by simpa using h
    clear hcd h
    go_enter Tryd.func26, Tryd.ntmps26
    go_wp2_with fail
    refine (icheckV_any _ _ ps day [] _ hv hfit hx (reads0 _) (by simp)).mono ?_
    rintro e w2 ⟨rfl, b2⟩
    rw [HAC.out]
    go_wp2_with fail
    refine (code_any c HIN.out _).mono ?_
    rintro e w3 ⟨rfl, b3⟩
    go_wp2_with fail
    go_ret2
    exact ⟨ret_tw ⟨HR.out.symm, HCD.out.symm⟩, blink b2 b3⟩
end Go.Proofs.YtgimpmdiilmkoaaDoor
