/-
  Both checks whether a form is valid: each answers 'vldF'.
-/
import Derived.Test.YtocogipejchneaaRLine
import Derived.Test.YtocogipejchneaaCuV
import Derived.Test.YtocogipejchneaaWi
namespace Go.Proofs.Ytocogipejchneaa
open Go Go.RowKit
set_option linter.unusedVariables false

set_option maxHeartbeats 8000000 in
set_option maxRecDepth 100000 in
theorem ivldF_row (b len cap clen : Nat) (a : Option Addr) (ccap : Nat) (cs ls : List (Int × Int × Int × Int)) (hl : ls.length = len) (hcl : cs.length = clen) (h10 : len ≤ 10) (hc8 : clen ≤ 8) (hfit : FitsL ls) (w : World) (hr : ReadsC w (.slice a clen ccap) cs) (hfc : FitsC cs) (hvc : vldC cs = true) (hc : CellsL w b ls) :
    Calls Try.prog 20 #[.slice a clen ccap, .slice (some ⟨b, 0, none⟩) len cap] w fun e w' => e = .returned (.bool (vldF cs ls)) ∧ Below w.heap.size w w' := by
  have HRC := Lib.hid hr
  have HFC := Lib.hid hfc
  clear hr hfc
  have HL := Lib.hid hl
  have HI := Lib.hid hfit
  have HCL := Lib.hid hcl
  have HV := Lib.hid hvc
  clear hl hfit hcl hvc
  have e10 : decide ((10 : Int) < (len : Int)) = false := decide_eq_false (by omega)
  go_enter Try.func20, Try.ntmps20
  go_wp2_with fail
  refine (ivldC_any _ cs _ HRC.out HFC.out (by rw [HCL.out]; omega)).mono ?_
  rintro e w1 ⟨rfl, b1⟩
  rw [HV.out]
  have HB0 := Lib.hid b1
  have hc := hc.below b1
  have hw1 : w.heap.size ≤ w1.heap.size := b1.size
  clear b1
  go_wp2_with fail
  go_loopw [17] (fun i wr => ∃ k : Nat, k ≤ len ∧ i = .int .i64 k ∧ OkLTo cs.length ls k ∧ Below w1.heap.size w1 wr) (fun i _ => len - (intOf i).toNat)
  case atStart => exact ⟨0, Nat.zero_le _, rfl, OkLTo.zero _ ls, Below.refl _ _⟩
  case round =>
    obtain ⟨k, hk, rfl, hr, hnx⟩ := hrel
    have HR := Lib.hid hr
    have HN := Lib.hid hnx
    have HB : Hid (Below w.heap.size w wr) := Lib.hid (HB0.out.trans (hnx.mono hw1))
    by_cases hlt : k < len
    · obtain ⟨c0, c1, c2, c3⟩ := hc.below hnx k (by have := HL.out; omega)

      have hf := HI.out.get k (by have := HL.out; omega)
      obtain ⟨q, hq⟩ : ∃ q, ls.getD k (0, 0, 0, 0) = q := ⟨_, rfl⟩
      rw [hq] at c0 c1 c2 c3 hf
      obtain ⟨x0, x1, x2, x3⟩ := q
      unfold FitL at hf
      simp only at hf
      obtain ⟨⟨l0, u0⟩, ⟨l1, u1⟩, ⟨l2, u2⟩, l3, u3⟩ := hf
      have hwr : w.heap.size ≤ wr.heap.size := HB.out.size
      have hkl : (k : Int) < (len : Int) := by omega
      have HOK : Hid (okL cs.length (ls.getD k (0, 0, 0, 0)) ↔ ((0 ≤ x0 ∧ x0 ≤ (clen : Int) - 1) ∧ (1 ≤ x1 ∧ x1 ≤ 1000) ∧ (0 ≤ x2 ∧ x2 ≤ 1000000) ∧ (0 ≤ x3 ∧ x3 ≤ 1000000))) := Lib.hid (by unfold okL; rw [hq, HCL.out])
      have hwr1 : w1.heap.size ≤ wr.heap.size := hnx.size
      clear hq hr hnx
      by_cases t1 : 0 ≤ x0
      · have d1 : decide (x0 < 0) = false := decide_eq_false (by omega)
        by_cases t2 : x0 < (clen : Int)
        · have d2 : decide ((clen : Int) ≤ x0) = false := decide_eq_false (by omega)
          by_cases t3 : 1 ≤ x1
          · have d3 : decide (x1 < 1) = false := decide_eq_false (by omega)
            by_cases t4 : x1 ≤ 1000
            · have d4 : decide ((1000 : Int) < x1) = false := decide_eq_false (by omega)
              by_cases t5 : (0 ≤ x2 ∧ x2 ≤ 1000000) ∧ (0 ≤ x3 ∧ x3 ≤ 1000000)
              · have d5 := betw2_true t5
                have HC := Lib.hid hc
                clear hc
                go_wp2_with (go_at_call 32; refine (idecl_any _ [x2, x3] _ (reads2 (by simp)) (by simp)).mono ?_; rintro e w2 ⟨rfl, rfl⟩)
                go_roundw
                case rel => exact ⟨k + 1, by omega, by go_num, HR.out.succ (HOK.out.2 (by omega)), by repeat (first | exact HN.out | exact Below.refl _ _ | refine Below.drew ?_ | refine Below.setCell ?_ (by first | (simp; done) | (simp; omega) | omega) _ | refine Below.alloc ?_ (by first | (simp; done) | (simp; omega) | omega) _)⟩
                case measure => simp [intOf]; omega
              · have d5 := betw2_false t5
                clear hc
                go_wp2_with (go_at_call 32; refine (idecl_any _ [x2, x3] _ (reads2 (by simp)) (by simp)).mono ?_; rintro e w2 ⟨rfl, rfl⟩)
                go_ret
                exact ⟨(ret_bool (vldF_bad (k := k) (by have := HL.out; omega) (fun h => by have := HOK.out.1 h; omega))).symm, by repeat (first | exact HB.out | exact HB0.out | exact Below.refl _ _ | refine Below.drew ?_ | refine Below.setCell ?_ (by first | (simp; done) | (simp; omega) | omega) _ | refine Below.alloc ?_ (by first | (simp; done) | (simp; omega) | omega) _)⟩
            · have d4 : decide ((1000 : Int) < x1) = true := decide_eq_true (by omega)
              clear hc
              go_wp2_with (go_at_call 32; refine (idecl_any _ [x2, x3] _ (reads2 (by simp)) (by simp)).mono ?_; rintro e w2 ⟨rfl, rfl⟩)
              go_ret
              exact ⟨(ret_bool (vldF_bad (k := k) (by have := HL.out; omega) (fun h => by have := HOK.out.1 h; omega))).symm, by repeat (first | exact HB.out | exact HB0.out | exact Below.refl _ _ | refine Below.drew ?_ | refine Below.setCell ?_ (by first | (simp; done) | (simp; omega) | omega) _ | refine Below.alloc ?_ (by first | (simp; done) | (simp; omega) | omega) _)⟩
          · have d3 : decide (x1 < 1) = true := decide_eq_true (by omega)
            clear hc
            go_wp2_with (go_at_call 32; refine (idecl_any _ [x2, x3] _ (reads2 (by simp)) (by simp)).mono ?_; rintro e w2 ⟨rfl, rfl⟩)
            go_ret
            exact ⟨(ret_bool (vldF_bad (k := k) (by have := HL.out; omega) (fun h => by have := HOK.out.1 h; omega))).symm, by repeat (first | exact HB.out | exact HB0.out | exact Below.refl _ _ | refine Below.drew ?_ | refine Below.setCell ?_ (by first | (simp; done) | (simp; omega) | omega) _ | refine Below.alloc ?_ (by first | (simp; done) | (simp; omega) | omega) _)⟩
        · have d2 : decide ((clen : Int) ≤ x0) = true := decide_eq_true (by omega)
          clear hc
          go_wp2_with (go_at_call 32; refine (idecl_any _ [x2, x3] _ (reads2 (by simp)) (by simp)).mono ?_; rintro e w2 ⟨rfl, rfl⟩)
          go_ret
          exact ⟨(ret_bool (vldF_bad (k := k) (by have := HL.out; omega) (fun h => by have := HOK.out.1 h; omega))).symm, by repeat (first | exact HB.out | exact HB0.out | exact Below.refl _ _ | refine Below.drew ?_ | refine Below.setCell ?_ (by first | (simp; done) | (simp; omega) | omega) _ | refine Below.alloc ?_ (by first | (simp; done) | (simp; omega) | omega) _)⟩
      · have d1 : decide (x0 < 0) = true := decide_eq_true (by omega)
        clear hc
        go_wp2_with (go_at_call 32; refine (idecl_any _ [x2, x3] _ (reads2 (by simp)) (by simp)).mono ?_; rintro e w2 ⟨rfl, rfl⟩)
        go_ret
        exact ⟨(ret_bool (vldF_bad (k := k) (by have := HL.out; omega) (fun h => by have := HOK.out.1 h; omega))).symm, by repeat (first | exact HB.out | exact HB0.out | exact Below.refl _ _ | refine Below.drew ?_ | refine Below.setCell ?_ (by first | (simp; done) | (simp; omega) | omega) _ | refine Below.alloc ?_ (by first | (simp; done) | (simp; omega) | omega) _)⟩
    · have hk' : k = len := by omega
      have HE := Lib.hid hk'
      clear hk' hc hr hnx
      go_wp2_with fail
      go_ret
      exact ⟨(ret_bool (vldF_true HV.out (by rw [HL.out]; omega) (by rw [HL.out, ← HE.out]; exact HR.out))).symm, HB.out⟩

set_option maxHeartbeats 2000000 in
theorem ivldF_no (a : Option Addr) (clen ccap : Nat) (u : Value) (cs ls : List (Int × Int × Int × Int)) (hcl : cs.length = clen) (w : World) (hr : ReadsC w (.slice a clen ccap) cs) (hfc : FitsC cs) (hx : cs.length ≤ 1048576) (hvc : vldC cs = false) :
    Calls Try.prog 20 #[.slice a clen ccap, u] w fun e w' => e = .returned (.bool (vldF cs ls)) ∧ Below w.heap.size w w' := by
  rw [vldF_no hvc]
  have HV := Lib.hid hvc
  clear hvc
  go_enter Try.func20, Try.ntmps20
  go_wp2_with fail
  refine (ivldC_any _ cs _ hr hfc hx).mono ?_
  rintro e w1 ⟨rfl, b1⟩
  rw [HV.out]
  go_wp2_with fail
  go_ret
  exact ⟨rfl, b1⟩
set_option maxHeartbeats 2000000 in
theorem ivldF_long (a : Option Addr) (clen ccap : Nat) (c : Option Addr) (len cap : Nat) (cs ls : List (Int × Int × Int × Int)) (hl : ls.length = len) (h10 : 10 < len) (hm : len ≤ 1048576) (w : World) (hr : ReadsC w (.slice a clen ccap) cs) (hfc : FitsC cs) (hx : cs.length ≤ 1048576) (hvc : vldC cs = true) :
    Calls Try.prog 20 #[.slice a clen ccap, .slice c len cap] w fun e w' => e = .returned (.bool (vldF cs ls)) ∧ Below w.heap.size w w' := by
  rw [vldF_len (by omega)]
  have e10 : decide ((10 : Int) < (len : Int)) = true := decide_eq_true (by omega)
  have HV := Lib.hid hvc
  clear hvc hl
  go_enter Try.func20, Try.ntmps20
  go_wp2_with fail
  refine (ivldC_any _ cs _ hr hfc hx).mono ?_
  rintro e w1 ⟨rfl, b1⟩
  rw [HV.out]
  go_wp2_with fail
  go_ret
  exact ⟨rfl, b1⟩
set_option maxHeartbeats 2000000 in
theorem ivldF_zero (a : Option Addr) (clen ccap : Nat) (c : Option Addr) (cap : Nat) (cs : List (Int × Int × Int × Int)) (w : World) (hr : ReadsC w (.slice a clen ccap) cs) (hfc : FitsC cs) (hx : cs.length ≤ 1048576) (hvc : vldC cs = true) :
    Calls Try.prog 20 #[.slice a clen ccap, .slice c 0 cap] w fun e w' => e = .returned (.bool (vldF cs [])) ∧ Below w.heap.size w w' := by
  rw [vldF_true hvc (by simp) (OkLTo.zero _ _)]
  have HV := Lib.hid hvc
  clear hvc
  go_enter Try.func20, Try.ntmps20
  go_wp2_with fail
  refine (ivldC_any _ cs _ hr hfc hx).mono ?_
  rintro e w1 ⟨rfl, b1⟩
  rw [HV.out]
  go_wp2_with fail
  refine wp_loop_rounds 1 ?_
  rw [rounds_succ]
  go_wp2_with fail
  go_ret
  exact ⟨rfl, b1⟩
theorem ivldF_any (v u : Value) (cs ls : List (Int × Int × Int × Int)) (w : World) (hv : ReadsC w v cs) (hu : ReadsL w u ls) (hfc : FitsC cs) (hfl : FitsL ls) (hx : cs.length ≤ 1048576) (hy : ls.length ≤ 1048576) :
    Calls Try.prog 20 #[v, u] w fun e w' => e = .returned (.bool (vldF cs ls)) ∧ Below w.heap.size w w' := by
  obtain ⟨a, ccap, rfl, ha⟩ := hv
  have hr : ReadsC w (.slice a cs.length ccap) cs := ⟨a, ccap, rfl, ha⟩
  by_cases hvc : vldC cs = true
  · obtain ⟨c, cap, rfl, h⟩ := hu
    by_cases h10 : ls.length ≤ 10
    · by_cases h0 : ls = []
      · subst h0
        exact ivldF_zero a cs.length ccap c cap cs w hr hfc hx hvc
      · obtain ⟨b, rfl, hc⟩ := h h0
        exact ivldF_row b ls.length cap cs.length a ccap cs ls rfl rfl h10 (vldC_spec hvc).1.2 hfl w hr hfc hvc hc
    · exact ivldF_long a cs.length ccap c ls.length cap cs ls rfl (by omega) hy w hr hfc hx hvc
  · exact ivldF_no a cs.length ccap u cs ls rfl w hr hfc hx (by simpa using hvc)

theorem sdecl_any (n : Int) (w : World) : Calls Try.prog 17 #[.int .i64 n] w fun e w' => e = .returned (.bool (inB n 0 1000000)) ∧ w' = w := by
  go_enter Try.func17, Try.ntmps17
  go_wp2_with (go_at_call 30; refine (in_any _ _ _ _).mono ?_; rintro e w2 ⟨rfl, hw2⟩; subst hw2)
  go_ret
  exact ⟨rfl, rfl⟩
def lineB (n : Nat) (l : (Int × Int × Int × Int)) : Bool := decide (okL n l)
theorem lineB_true {n : Nat} {l : (Int × Int × Int × Int)} (h : okL n l) : lineB n l = true := decide_eq_true h
theorem lineB_false {n : Nat} {l : (Int × Int × Int × Int)} (h : ¬ okL n l) : lineB n l = false := decide_eq_false h

set_option maxHeartbeats 4000000 in
set_option maxRecDepth 100000 in
theorem sline_any (n : Nat) (x0 x1 x2 x3 : Int) (hn : n ≤ 1048576) (hf : FitL (x0, x1, x2, x3)) (w : World) :
    Calls Try.prog 29 #[.int .i64 n, .agg #[.int .i8 x0, .int .i16 x1, .int .i32 x2, .int .i32 x3]] w fun e w' => e = .returned (.bool (lineB n (x0, x1, x2, x3))) ∧ Below w.heap.size w w' := by
  unfold FitL at hf
  simp only at hf
  obtain ⟨⟨l0, u0⟩, ⟨l1, u1⟩, ⟨l2, u2⟩, l3, u3⟩ := hf
  go_enter Try.func29, Try.ntmps29
  by_cases t1 : 0 ≤ x0 ∧ x0 ≤ (n : Int) - 1
  · have g1 := inB_true t1
    by_cases t2 : 1 ≤ x1 ∧ x1 ≤ 1000
    · have g2 := inB_true t2
      by_cases t3 : 0 ≤ x2 ∧ x2 ≤ 1000000
      · have g3 := inB_true t3
        by_cases t4 : 0 ≤ x3 ∧ x3 ≤ 1000000
        · have g4 := inB_true t4
          go_wp2_with (first | (go_at_call 30; refine (in_any _ _ _ _).mono ?_; rintro e w2 ⟨rfl, hw2⟩; subst hw2) | (go_at_call 17; refine (sdecl_any _ _).mono ?_; rintro e w2 ⟨rfl, hw2⟩; subst hw2))
          go_ret
          exact ⟨(ret_bool (lineB_true ⟨t1, t2, t3, t4⟩)).symm, by repeat (first | exact Below.refl _ _ | refine Below.drew ?_ | refine Below.setCell ?_ (by first | (simp; done) | (simp; omega) | omega) _ | refine Below.alloc ?_ (by first | (simp; done) | (simp; omega) | omega) _)⟩
        · have g4 := inB_false t4
          go_wp2_with (first | (go_at_call 30; refine (in_any _ _ _ _).mono ?_; rintro e w2 ⟨rfl, hw2⟩; subst hw2) | (go_at_call 17; refine (sdecl_any _ _).mono ?_; rintro e w2 ⟨rfl, hw2⟩; subst hw2))
          go_ret
          exact ⟨(ret_bool (lineB_false (fun h => by unfold okL at h; simp only at h; omega))).symm, by repeat (first | exact Below.refl _ _ | refine Below.drew ?_ | refine Below.setCell ?_ (by first | (simp; done) | (simp; omega) | omega) _ | refine Below.alloc ?_ (by first | (simp; done) | (simp; omega) | omega) _)⟩
      · have g3 := inB_false t3
        go_wp2_with (first | (go_at_call 30; refine (in_any _ _ _ _).mono ?_; rintro e w2 ⟨rfl, hw2⟩; subst hw2) | (go_at_call 17; refine (sdecl_any _ _).mono ?_; rintro e w2 ⟨rfl, hw2⟩; subst hw2))
        go_ret
        exact ⟨(ret_bool (lineB_false (fun h => by unfold okL at h; simp only at h; omega))).symm, by repeat (first | exact Below.refl _ _ | refine Below.drew ?_ | refine Below.setCell ?_ (by first | (simp; done) | (simp; omega) | omega) _ | refine Below.alloc ?_ (by first | (simp; done) | (simp; omega) | omega) _)⟩
    · have g2 := inB_false t2
      go_wp2_with (first | (go_at_call 30; refine (in_any _ _ _ _).mono ?_; rintro e w2 ⟨rfl, hw2⟩; subst hw2) | (go_at_call 17; refine (sdecl_any _ _).mono ?_; rintro e w2 ⟨rfl, hw2⟩; subst hw2))
      go_ret
      exact ⟨(ret_bool (lineB_false (fun h => by unfold okL at h; simp only at h; omega))).symm, by repeat (first | exact Below.refl _ _ | refine Below.drew ?_ | refine Below.setCell ?_ (by first | (simp; done) | (simp; omega) | omega) _ | refine Below.alloc ?_ (by first | (simp; done) | (simp; omega) | omega) _)⟩
  · have g1 := inB_false t1
    go_wp2_with (first | (go_at_call 30; refine (in_any _ _ _ _).mono ?_; rintro e w2 ⟨rfl, hw2⟩; subst hw2) | (go_at_call 17; refine (sdecl_any _ _).mono ?_; rintro e w2 ⟨rfl, hw2⟩; subst hw2))
    go_ret
    exact ⟨(ret_bool (lineB_false (fun h => by unfold okL at h; simp only at h; omega))).symm, by repeat (first | exact Below.refl _ _ | refine Below.drew ?_ | refine Below.setCell ?_ (by first | (simp; done) | (simp; omega) | omega) _ | refine Below.alloc ?_ (by first | (simp; done) | (simp; omega) | omega) _)⟩
set_option maxHeartbeats 8000000 in
set_option maxRecDepth 100000 in
theorem svldF_row (b len cap clen : Nat) (a : Option Addr) (ccap : Nat) (cs ls : List (Int × Int × Int × Int)) (hl : ls.length = len) (hcl : cs.length = clen) (h10 : len ≤ 10) (hc8 : clen ≤ 8) (hfit : FitsL ls) (w : World) (hr : ReadsC w (.slice a clen ccap) cs) (hfc : FitsC cs) (hvc : vldC cs = true) (hc : CellsL w b ls) :
    Calls Try.prog 15 #[.slice a clen ccap, .slice (some ⟨b, 0, none⟩) len cap] w fun e w' => e = .returned (.bool (vldF cs ls)) ∧ Below w.heap.size w w' := by
  have HRC := Lib.hid hr
  have HFC := Lib.hid hfc
  clear hr hfc
  have HL := Lib.hid hl
  have HI := Lib.hid hfit
  have HCL := Lib.hid hcl
  have HV := Lib.hid hvc
  clear hl hfit hcl hvc
  have e10 : decide ((10 : Int) < (len : Int)) = false := decide_eq_false (by omega)
  go_enter Try.func15, Try.ntmps15
  go_wp2_with fail
  refine (sclasses_any _ cs _ HRC.out HFC.out (by rw [HCL.out]; omega)).mono ?_
  rintro e w1 ⟨rfl, b1⟩
  rw [HV.out]
  have HB0 := Lib.hid b1
  have hc := hc.below b1
  have hw1 : w.heap.size ≤ w1.heap.size := b1.size
  clear b1
  go_wp2_with fail
  go_loopw [5] (fun i wr => ∃ k : Nat, k ≤ len ∧ i = .int .i64 k ∧ OkLTo cs.length ls k ∧ Below w1.heap.size w1 wr) (fun i _ => len - (intOf i).toNat)
  case atStart => exact ⟨0, Nat.zero_le _, rfl, OkLTo.zero _ ls, Below.refl _ _⟩
  case round =>
    obtain ⟨k, hk, rfl, hr, hnx⟩ := hrel
    have HR := Lib.hid hr
    have HN := Lib.hid hnx
    have HB : Hid (Below w.heap.size w wr) := Lib.hid (HB0.out.trans (hnx.mono hw1))
    by_cases hlt : k < len
    · obtain ⟨c0, c1, c2, c3⟩ := hc.below hnx k (by have := HL.out; omega)

      have hf := HI.out.get k (by have := HL.out; omega)
      obtain ⟨q, hq⟩ : ∃ q, ls.getD k (0, 0, 0, 0) = q := ⟨_, rfl⟩
      rw [hq] at c0 c1 c2 c3 hf
      obtain ⟨x0, x1, x2, x3⟩ := q
      unfold FitL at hf
      simp only at hf
      obtain ⟨⟨l0, u0⟩, ⟨l1, u1⟩, ⟨l2, u2⟩, l3, u3⟩ := hf
      have hwr : w.heap.size ≤ wr.heap.size := HB.out.size
      have hkl : (k : Int) < (len : Int) := by omega
      have HOK : Hid (okL cs.length (ls.getD k (0, 0, 0, 0)) ↔ ((0 ≤ x0 ∧ x0 ≤ (clen : Int) - 1) ∧ (1 ≤ x1 ∧ x1 ≤ 1000) ∧ (0 ≤ x2 ∧ x2 ≤ 1000000) ∧ (0 ≤ x3 ∧ x3 ≤ 1000000))) := Lib.hid (by unfold okL; rw [hq, HCL.out])
      have hwr1 : w1.heap.size ≤ wr.heap.size := hnx.size
      clear hq hr hnx
      by_cases t1 : okL clen (x0, x1, x2, x3)
      · have d1 := lineB_true t1
        have HT := Lib.hid t1
        have HC := Lib.hid hc
        clear t1 hc
        go_wp2_with (go_at_call 29; refine (sline_any clen x0 x1 x2 x3 (by omega) ⟨⟨l0, u0⟩, ⟨l1, u1⟩, ⟨l2, u2⟩, l3, u3⟩ _).mono ?_; rintro e w2 ⟨rfl, b2⟩; rw [d1]; have HN2 : Hid (Below w1.heap.size w1 w2) := Lib.hid (HN.out.trans (b2.mono hwr1)); have HB2 : Hid (Below w.heap.size w w2) := Lib.hid (HB.out.trans (b2.mono hwr)); clear b2)
        go_roundw
        case rel => exact ⟨k + 1, by omega, by go_num, HR.out.succ (HOK.out.2 HT.out), HN2.out⟩
        case measure => simp [intOf]; omega
      · have d1 := lineB_false t1
        have HT := Lib.hid t1
        clear t1 hc
        go_wp2_with (go_at_call 29; refine (sline_any clen x0 x1 x2 x3 (by omega) ⟨⟨l0, u0⟩, ⟨l1, u1⟩, ⟨l2, u2⟩, l3, u3⟩ _).mono ?_; rintro e w2 ⟨rfl, b2⟩; rw [d1]; have HN2 : Hid (Below w1.heap.size w1 w2) := Lib.hid (HN.out.trans (b2.mono hwr1)); have HB2 : Hid (Below w.heap.size w w2) := Lib.hid (HB.out.trans (b2.mono hwr)); clear b2)
        go_ret
        exact ⟨(ret_bool (vldF_bad (k := k) (by have := HL.out; omega) (fun h => HT.out (HOK.out.1 h)))).symm, HB2.out⟩
    · have hk' : k = len := by omega
      have HE := Lib.hid hk'
      clear hk' hc hr hnx
      go_wp2_with fail
      go_ret
      exact ⟨(ret_bool (vldF_true HV.out (by rw [HL.out]; omega) (by rw [HL.out, ← HE.out]; exact HR.out))).symm, HB.out⟩

set_option maxHeartbeats 2000000 in
theorem sok_vldF_no (a : Option Addr) (clen ccap : Nat) (u : Value) (cs ls : List (Int × Int × Int × Int)) (hcl : cs.length = clen) (w : World) (hr : ReadsC w (.slice a clen ccap) cs) (hfc : FitsC cs) (hx : cs.length ≤ 1048576) (hvc : vldC cs = false) :
    Calls Try.prog 15 #[.slice a clen ccap, u] w fun e w' => e = .returned (.bool (vldF cs ls)) ∧ Below w.heap.size w w' := by
  rw [vldF_no hvc]
  have HV := Lib.hid hvc
  clear hvc
  go_enter Try.func15, Try.ntmps15
  go_wp2_with fail
  refine (sclasses_any _ cs _ hr hfc hx).mono ?_
  rintro e w1 ⟨rfl, b1⟩
  rw [HV.out]
  go_wp2_with fail
  go_ret
  exact ⟨rfl, b1⟩
set_option maxHeartbeats 2000000 in
theorem sok_vldF_long (a : Option Addr) (clen ccap : Nat) (c : Option Addr) (len cap : Nat) (cs ls : List (Int × Int × Int × Int)) (hl : ls.length = len) (h10 : 10 < len) (hm : len ≤ 1048576) (w : World) (hr : ReadsC w (.slice a clen ccap) cs) (hfc : FitsC cs) (hx : cs.length ≤ 1048576) (hvc : vldC cs = true) :
    Calls Try.prog 15 #[.slice a clen ccap, .slice c len cap] w fun e w' => e = .returned (.bool (vldF cs ls)) ∧ Below w.heap.size w w' := by
  rw [vldF_len (by omega)]
  have e10 : decide ((10 : Int) < (len : Int)) = true := decide_eq_true (by omega)
  have HV := Lib.hid hvc
  clear hvc hl
  go_enter Try.func15, Try.ntmps15
  go_wp2_with fail
  refine (sclasses_any _ cs _ hr hfc hx).mono ?_
  rintro e w1 ⟨rfl, b1⟩
  rw [HV.out]
  go_wp2_with fail
  go_ret
  exact ⟨rfl, b1⟩
set_option maxHeartbeats 2000000 in
theorem sok_vldF_zero (a : Option Addr) (clen ccap : Nat) (c : Option Addr) (cap : Nat) (cs : List (Int × Int × Int × Int)) (w : World) (hr : ReadsC w (.slice a clen ccap) cs) (hfc : FitsC cs) (hx : cs.length ≤ 1048576) (hvc : vldC cs = true) :
    Calls Try.prog 15 #[.slice a clen ccap, .slice c 0 cap] w fun e w' => e = .returned (.bool (vldF cs [])) ∧ Below w.heap.size w w' := by
  rw [vldF_true hvc (by simp) (OkLTo.zero _ _)]
  have HV := Lib.hid hvc
  clear hvc
  go_enter Try.func15, Try.ntmps15
  go_wp2_with fail
  refine (sclasses_any _ cs _ hr hfc hx).mono ?_
  rintro e w1 ⟨rfl, b1⟩
  rw [HV.out]
  go_wp2_with fail
  refine wp_loop_rounds 1 ?_
  rw [rounds_succ]
  go_wp2_with fail
  go_ret
  exact ⟨rfl, b1⟩
theorem sokF_any (v u : Value) (cs ls : List (Int × Int × Int × Int)) (w : World) (hv : ReadsC w v cs) (hu : ReadsL w u ls) (hfc : FitsC cs) (hfl : FitsL ls) (hx : cs.length ≤ 1048576) (hy : ls.length ≤ 1048576) :
    Calls Try.prog 15 #[v, u] w fun e w' => e = .returned (.bool (vldF cs ls)) ∧ Below w.heap.size w w' := by
  obtain ⟨a, ccap, rfl, ha⟩ := hv
  have hr : ReadsC w (.slice a cs.length ccap) cs := ⟨a, ccap, rfl, ha⟩
  by_cases hvc : vldC cs = true
  · obtain ⟨c, cap, rfl, h⟩ := hu
    by_cases h10 : ls.length ≤ 10
    · by_cases h0 : ls = []
      · subst h0
        exact sok_vldF_zero a cs.length ccap c cap cs w hr hfc hx hvc
      · obtain ⟨b, rfl, hc⟩ := h h0
        exact svldF_row b ls.length cap cs.length a ccap cs ls rfl rfl h10 (vldC_spec hvc).1.2 hfl w hr hfc hvc hc
    · exact sok_vldF_long a cs.length ccap c ls.length cap cs ls rfl (by omega) hy w hr hfc hx hvc
  · exact sok_vldF_no a cs.length ccap u cs ls rfl w hr hfc hx (by simpa using hvc)

end Go.Proofs.Ytocogipejchneaa
