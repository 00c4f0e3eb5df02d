/-
  Vouchers: the model's WorthAt and LostBy.
-/
import Derived.Test.YtgimpmdiilmkoaaDoorVoP
namespace Go.Proofs.YtgimpmdiilmkoaaDoor
open Go Go.RowKit
set_option linter.unusedVariables false

set_option maxHeartbeats 4000000 in
set_option maxRecDepth 100000 in
theorem sworth2_row (b len cap : Nat) (ps : List (Int × Int)) (day : Int) (hl : ps.length = len) (h12 : len ≤ 12) (hfit : FitsVo ps) (hok : OkVoTo ps ps.length) (w : World) (hc : CellsVo w b ps) :
    Calls Tryd.prog 62 #[.slice (some ⟨b, 0, none⟩) len cap, .int .i64 day] w fun e w' => e = .returned (.tuple #[.int .i64 (worthV ps day len), .int .i64 (lostV ps day len)]) ∧ w' = w := by
  have HL := Lib.hid hl
  have HI := Lib.hid hfit
  have HO := Lib.hid hok
  have HC := Lib.hid hc
  clear hl hfit hok hc
  go_enter Tryd.func62, Tryd.ntmps62
  go_wp2_with fail
  go_loop [6, 7, 8] (fun s u i => ∃ k : Nat, k ≤ len ∧ i = .int .i64 k ∧ s = .int .i64 (worthV ps day k) ∧ u = .int .i64 (lostV ps day k)) (fun _ _ i => len - (intOf i).toNat)
  case atStart => exact ⟨0, Nat.zero_le _, rfl, rfl, rfl⟩
  case round =>
    obtain ⟨k, hk, rfl, rfl, rfl⟩ := hrel
    obtain ⟨⟨v0, v1⟩, g0, g1⟩ := worthV_in (ps := ps) (day := day) (k := k) (fun i hi => HO.out i (by have := HL.out; omega))
    obtain ⟨wt, hwt⟩ : ∃ x, worthV ps day k = x := ⟨_, rfl⟩
    obtain ⟨lt, hlt'⟩ : ∃ x, lostV ps day k = x := ⟨_, rfl⟩
    rw [hwt] at v0 v1 ⊢
    rw [hlt'] at g0 g1 ⊢
    have HWT := Lib.hid hwt
    have HLT := Lib.hid hlt'
    by_cases hlt : k < len
    · obtain ⟨c0, c1⟩ := HC.out k (by have := HL.out; omega)
      have hf := HI.out.get k (by have := HL.out; omega)
      obtain ⟨q, hq⟩ : ∃ q, ps.getD k (0, 0) = q := ⟨_, rfl⟩
      rw [hq] at c0 c1 hf
      obtain ⟨x0, x1⟩ := q
      unfold FitVo at hf
      simp only at hf
      obtain ⟨⟨l0, u0⟩, l1, u1⟩ := hf
      have hkl : (k : Int) < (len : Int) := by omega
      by_cases t : day ≤ x1
      · have d1 : decide (day ≤ x1) = true := decide_eq_true t
        have HN : Hid (worthV ps day (k + 1) = wt + x0 ∧ lostV ps day (k + 1) = lt) := Lib.hid (by rw [worthV, lostV, hq, hwt, hlt', if_pos t, if_pos t]; exact ⟨rfl, rfl⟩)
        clear hq hwt hlt' t
        go_wp2_with fail
        go_round
        case rel => exact ⟨k + 1, by omega, by go_num, by rw [HN.out.1], by rw [HN.out.2]⟩
        case measure => simp [intOf]; omega
      · have d1 : decide (day ≤ x1) = false := decide_eq_false t
        have HN : Hid (worthV ps day (k + 1) = wt ∧ lostV ps day (k + 1) = lt + x0) := Lib.hid (by rw [worthV, lostV, hq, hwt, hlt', if_neg t, if_neg t]; exact ⟨rfl, rfl⟩)
        clear hq hwt hlt' t
        go_wp2_with fail
        go_round
        case rel => exact ⟨k + 1, by omega, by go_num, by rw [HN.out.1], by rw [HN.out.2]⟩
        case measure => simp [intOf]; omega
    · have hk' : k = len := by omega
      have HE : Hid (wt = worthV ps day len ∧ lt = lostV ps day len) := Lib.hid (by rw [← hk', HWT.out, HLT.out]; exact ⟨rfl, rfl⟩)
      clear hk'
      go_wp2_with fail
      go_ret2
      exact ⟨ret_tw HE.out, rfl⟩
theorem sworth2_zero (a : Option Addr) (cap : Nat) (day : Int) (w : World) :
    Calls Tryd.prog 62 #[.slice a 0 cap, .int .i64 day] w fun e w' => e = .returned (.tuple #[.int .i64 0, .int .i64 0]) ∧ w' = w := by
  go_enter Tryd.func62, Tryd.ntmps62
  go_wp2
  refine wp_loop_rounds 1 ?_
  rw [rounds_succ]
  go_wp2
  go_ret2
  exact ⟨rfl, rfl⟩
theorem sworth2_any (v : Value) (ps : List (Int × Int)) (day : Int) (w : World) (hv : ReadsVo w v ps) (hfit : FitsVo ps) (h12 : ps.length ≤ 12) (hok : OkVoTo ps ps.length) :
    Calls Tryd.prog 62 #[v, .int .i64 day] w fun e w' => e = .returned (.tuple #[.int .i64 (worthV ps day ps.length), .int .i64 (lostV ps day ps.length)]) ∧ w' = w := by
  obtain ⟨a, cap, rfl, h⟩ := hv
  by_cases h0 : ps = []
  · subst h0
    exact sworth2_zero a cap day w
  · obtain ⟨b, rfl, hc⟩ := h h0
    exact sworth2_row b ps.length cap ps day rfl h12 hfit hok w hc

set_option maxHeartbeats 1000000 in
theorem son_any (v : Value) (ps : List (Int × Int)) (day : Int) (w : World) (hv : ReadsVo w v ps) (hfit : FitsVo ps) (hx : ps.length ≤ 1048576) :
    Calls Tryd.prog 61 #[v, .int .i64 day] w fun e w' => e = .returned (.int .i64 (onC ps day)) ∧ Below w.heap.size w w' := by
  by_cases h : vldVo ps = true
  · have HV := Lib.hid h
    by_cases g : dayB day = true
    · have HG := Lib.hid g
      have HA := Lib.hid (onC_0 h g)
      clear h g
      go_enter Tryd.func61, Tryd.ntmps61
      go_wp2_with fail
      refine (sokVo_any _ ps _ hv hfit hx).mono ?_
      rintro e w2 ⟨rfl, b2⟩
      rw [HV.out]
      go_wp2_with fail
      refine (sdays_any _ _).mono ?_
      rintro e w3 ⟨rfl, rfl⟩
      rw [HG.out]
      go_wp2_with fail
      go_ret
      exact ⟨ret_int HA.out.symm, b2⟩
    · have g : dayB day = false := by simpa using g
      have HG := Lib.hid g
      have HA := Lib.hid (onC_2 h g)
      clear h g
      go_enter Tryd.func61, Tryd.ntmps61
      go_wp2_with fail
      refine (sokVo_any _ ps _ hv hfit hx).mono ?_
      rintro e w2 ⟨rfl, b2⟩
      rw [HV.out]
      go_wp2_with fail
      refine (sdays_any _ _).mono ?_
      rintro e w3 ⟨rfl, rfl⟩
      rw [HG.out]
      go_wp2_with fail
      go_ret
      exact ⟨ret_int HA.out.symm, b2⟩
  · have h : vldVo ps = false := by simpa using h
    have HV := Lib.hid h
    have HA := Lib.hid (onC_1 (day := day) h)
    clear h
    go_enter Tryd.func61, Tryd.ntmps61
    go_wp2_with fail
    refine (sokVo_any _ ps _ hv hfit hx).mono ?_
    rintro e w2 ⟨rfl, b2⟩
    rw [HV.out]
    go_wp2_with fail
    go_ret
    exact ⟨ret_int HA.out.symm, b2⟩

set_option maxHeartbeats 1000000 in
theorem sworthAt_any (v : Value) (ps : List (Int × Int)) (day : Int) (w : World) (hv : ReadsVo w v ps) (hfit : FitsVo ps) (hx : ps.length ≤ 1048576) :
    Calls Tryd.prog 21 #[v, .int .i64 day] w fun e w' => e = .returned (.tuple #[.int .i64 (worthRes ps day), .int .i64 (onC ps day)]) ∧ Below w.heap.size w w' := by
  obtain ⟨c, hcd⟩ : ∃ c, onC ps day = c := ⟨_, rfl⟩
  have HCD := Lib.hid hcd
  by_cases h : c = 0
  · subst h
    obtain ⟨hv1, hd1⟩ := onC_ok hcd
    obtain ⟨h12, hok⟩ := vldVo_spec hv1
    have HR : Hid (worthRes ps day = worthV ps day ps.length) := Lib.hid (if_pos hcd)
    clear hv1 hd1 hcd
    go_enter Tryd.func21, Tryd.ntmps21
    go_wp2_with fail
    refine (son_any _ ps day _ hv hfit hx).mono ?_
    rintro e w2 ⟨rfl, b2⟩
    rw [HCD.out]
    go_wp2_with fail
    refine (sworth2_any _ ps day _ (hv.below b2) hfit h12 hok).mono ?_
    rintro e w3 ⟨rfl, rfl⟩
    go_wp2_with fail
    go_ret2
    exact ⟨ret_tw ⟨HR.out.symm, HCD.out.symm⟩, b2⟩
  · have HR : Hid (worthRes ps day = 0) := Lib.hid (if_neg (by rw [hcd]; exact h))
    have hcz : (c == 0) = false := by simpa using h
    clear hcd
    go_enter Tryd.func21, Tryd.ntmps21
    go_wp2_with fail
    refine (son_any _ ps day _ hv hfit hx).mono ?_
    rintro e w2 ⟨rfl, b2⟩
    rw [HCD.out]
    go_wp2_with fail
    go_ret2
    exact ⟨ret_tw ⟨HR.out.symm, HCD.out.symm⟩, b2⟩

set_option maxHeartbeats 1000000 in
theorem slostBy_any (v : Value) (ps : List (Int × Int)) (day : Int) (w : World) (hv : ReadsVo w v ps) (hfit : FitsVo ps) (hx : ps.length ≤ 1048576) :
    Calls Tryd.prog 25 #[v, .int .i64 day] w fun e w' => e = .returned (.tuple #[.int .i64 (lostRes ps day), .int .i64 (onC ps day)]) ∧ Below w.heap.size w w' := by
  obtain ⟨c, hcd⟩ : ∃ c, onC ps day = c := ⟨_, rfl⟩
  have HCD := Lib.hid hcd
  by_cases h : c = 0
  · subst h
    obtain ⟨hv1, hd1⟩ := onC_ok hcd
    obtain ⟨h12, hok⟩ := vldVo_spec hv1
    have HR : Hid (lostRes ps day = lostV ps day ps.length) := Lib.hid (if_pos hcd)
    clear hv1 hd1 hcd
    go_enter Tryd.func25, Tryd.ntmps25
    go_wp2_with fail
    refine (son_any _ ps day _ hv hfit hx).mono ?_
    rintro e w2 ⟨rfl, b2⟩
    rw [HCD.out]
    go_wp2_with fail
    refine (sworth2_any _ ps day _ (hv.below b2) hfit h12 hok).mono ?_
    rintro e w3 ⟨rfl, rfl⟩
    go_wp2_with fail
    go_ret2
    exact ⟨ret_tw ⟨HR.out.symm, HCD.out.symm⟩, b2⟩
  · have HR : Hid (lostRes ps day = 0) := Lib.hid (if_neg (by rw [hcd]; exact h))
    have hcz : (c == 0) = false := by simpa using h
    clear hcd
    go_enter Tryd.func25, Tryd.ntmps25
    go_wp2_with fail
    refine (son_any _ ps day _ hv hfit hx).mono ?_
    rintro e w2 ⟨rfl, b2⟩
    rw [HCD.out]
    go_wp2_with fail
    go_ret2
    exact ⟨ret_tw ⟨HR.out.symm, HCD.out.symm⟩, b2⟩
end Go.Proofs.YtgimpmdiilmkoaaDoor
