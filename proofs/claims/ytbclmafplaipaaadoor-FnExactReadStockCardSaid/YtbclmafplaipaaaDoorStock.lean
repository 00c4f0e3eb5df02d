/-
  Contracts of both checks whether a stock is valid: each answers 'vldS'.
-/
import Derived.Test.YtbclmafplaipaaaDoorPairs
namespace Go.Proofs.YtbclmafplaipaaaDoor
open Go Go.RowKit
set_option linter.unusedVariables false

/-- Both numbers of each pair fit 16 bits. -/
def I16 (ps : List (Int × Int)) : Prop := ∀ p ∈ ps, -32768 ≤ p.1 ∧ p.1 ≤ 32767 ∧ -32768 ≤ p.2 ∧ p.2 ≤ 32767
theorem I16.get {ps : List (Int × Int)} (h : I16 ps) (i : Nat) (hi : i < ps.length) : -32768 ≤ (ps.getD i (0, 0)).1 ∧ (ps.getD i (0, 0)).1 ≤ 32767 ∧ -32768 ≤ (ps.getD i (0, 0)).2 ∧ (ps.getD i (0, 0)).2 ≤ 32767 := by
  have := h (ps[i]) (List.getElem_mem _)
  simpa [List.getD, hi] using this
def prevS (ps : List (Int × Int)) (i : Nat) : Int := if i = 0 then 0 else (ps.getD (i - 1) (0, 0)).1
def okS (ps : List (Int × Int)) (i : Nat) : Prop := prevS ps i < (ps.getD i (0, 0)).1 ∧ (ps.getD i (0, 0)).1 ≤ 500 ∧ 0 ≤ (ps.getD i (0, 0)).2 ∧ (ps.getD i (0, 0)).2 ≤ 50
def RiseS (ps : List (Int × Int)) (k : Nat) : Prop := ∀ i, i < k → okS ps i
theorem RiseS.zero (ps : List (Int × Int)) : RiseS ps 0 := fun i hi => absurd hi (by omega)
theorem RiseS.succ {ps : List (Int × Int)} {k : Nat} (h : RiseS ps k) (h1 : okS ps k) : RiseS ps (k + 1) := fun i hi => by
  by_cases e : i = k
  · subst e; exact h1
  · exact h i (by omega)
theorem RiseS.prev {ps : List (Int × Int)} {k : Nat} (h : RiseS ps k) : 0 ≤ prevS ps k ∧ prevS ps k ≤ 500 := by
  induction k with
  | zero => simp [prevS]
  | succ k ih =>
    have h0 := h k (by omega)
    have h1 := ih (fun i hi => h i (by omega))
    simp only [okS] at h0
    simp only [prevS, Nat.succ_ne_zero, if_false, Nat.add_sub_cancel]
    omega
instance (ps : List (Int × Int)) (i : Nat) : Decidable (okS ps i) := inferInstanceAs (Decidable (_ ∧ _))
instance (ps : List (Int × Int)) (k : Nat) : Decidable (RiseS ps k) := inferInstanceAs (Decidable (∀ i, i < k → _))
def vldS (ps : List (Int × Int)) : Bool := decide (ps.length ≤ 8 ∧ RiseS ps ps.length)
theorem vldS_true {ps : List (Int × Int)} (h2 : ps.length ≤ 8) (h : RiseS ps ps.length) : vldS ps = true := decide_eq_true ⟨h2, h⟩
theorem vldS_len {ps : List (Int × Int)} (h : ¬ ps.length ≤ 8) : vldS ps = false := decide_eq_false fun k => h k.1
theorem vldS_bad {ps : List (Int × Int)} {k : Nat} (hk : k < ps.length) (h : ¬ okS ps k) : vldS ps = false := decide_eq_false fun q => h (q.2 k hk)
theorem vldS_spec {ps : List (Int × Int)} (h : vldS ps = true) : ps.length ≤ 8 ∧ RiseS ps ps.length := of_decide_eq_true h

set_option maxHeartbeats 1000000 in
theorem istock_long (a : Option Addr) (len cap : Nat) (w : World) (h : 8 < len) (h' : len ≤ 1048576) :
    Calls Tryd.prog 116 #[.slice a len cap] w fun e w' => e = .returned (.bool false) ∧ Below w.heap.size w w' := by
  go_enter Tryd.func116, Tryd.ntmps116
  go_wp2
  go_ret
  exact ⟨rfl, Below.refl _ _⟩
set_option maxHeartbeats 1000000 in
theorem istock_zero (a : Option Addr) (cap : Nat) (w : World) :
    Calls Tryd.prog 116 #[.slice a 0 cap] w fun e w' => e = .returned (.bool true) ∧ Below w.heap.size w w' := by
  go_enter Tryd.func116, Tryd.ntmps116
  go_wp2
  refine wp_loop_rounds 1 ?_
  rw [rounds_succ]
  go_wp2
  go_ret
  exact ⟨rfl, Below.refl _ _⟩

set_option maxHeartbeats 4000000 in
set_option maxRecDepth 100000 in
theorem istock_row (b len cap : Nat) (ps : List (Int × Int)) (hl : ps.length = len) (h8 : len ≤ 8) (w : World) (hc : CellsP w b ps) :
    Calls Tryd.prog 116 #[.slice (some ⟨b, 0, none⟩) len cap] w fun e w' => e = .returned (.bool (vldS ps)) ∧ Below w.heap.size w w' := by
  have HL := Lib.hid hl
  clear hl
  have h8' : decide ((8 : Int) < (len : Int)) = false := by simp; omega
  go_enter Tryd.func116, Tryd.ntmps116
  go_wp2_with fail
  go_loopw [3, 11] (fun p i wr => ∃ k : Nat, k ≤ len ∧ i = .int .i64 k ∧ p = .int .i16 (prevS ps k) ∧ RiseS ps k ∧ Below w.heap.size w wr) (fun _ i _ => len - (intOf i).toNat)
  case atStart => exact ⟨0, Nat.zero_le _, rfl, rfl, RiseS.zero ps, Below.refl _ _⟩
  case round =>
    obtain ⟨k, hk, rfl, rfl, hr, hnx⟩ := hrel
    have HR := Lib.hid hr
    have HB := Lib.hid hnx
    by_cases hlt : k < len
    · obtain ⟨c0, c1⟩ := hc.below hnx k (by have := HL.out; omega)
      obtain ⟨q, hq⟩ : ∃ q, ps.getD k (0, 0) = q := ⟨_, rfl⟩
      rw [hq] at c0 c1
      obtain ⟨x, y⟩ := q
      have HQ := Lib.hid hq
      have HC := Lib.hid hc
      obtain ⟨p, hp⟩ : ∃ p, prevS ps k = p := ⟨_, rfl⟩
      rw [hp]
      have HP := Lib.hid hp
      have hwr : w.heap.size ≤ wr.heap.size := hnx.size
      have HOK : Hid (okS ps k ↔ (p < x ∧ x ≤ 500 ∧ 0 ≤ y ∧ y ≤ 50)) := Lib.hid (by unfold okS; rw [hp, hq])
      clear hc hq hp hr hnx
      by_cases t1 : p < x
      · have d1 : decide (x ≤ p) = false := decide_eq_false (by omega)
        by_cases t2 : x ≤ 500
        · have d2 : decide ((500 : Int) < x) = false := decide_eq_false (by omega)
          by_cases t3 : 0 ≤ y
          · have d3 : decide (y < 0) = false := decide_eq_false (by omega)
            by_cases t4 : y ≤ 50
            · have d4 : decide ((50 : Int) < y) = false := decide_eq_false (by omega)
              go_wp2_with fail
              go_roundw
              case rel => exact ⟨k + 1, by omega, by go_num, by rw [prevS, if_neg (by omega), Nat.add_sub_cancel, HQ.out], HR.out.succ (HOK.out.2 ⟨t1, t2, t3, t4⟩), by repeat (first | exact HB.out | refine Below.setCell ?_ (by first | (simp; done) | (simp; omega)) _ | refine Below.alloc ?_ (by first | (simp; done) | (simp; omega) | omega) _)⟩
              case measure => simp [intOf]; omega
            · have d4 : decide ((50 : Int) < y) = true := decide_eq_true (by omega)
              go_wp2_with fail
              go_ret
              exact ⟨(ret_bool (vldS_bad (k := k) (by have := HL.out; omega) (fun h => by have := HOK.out.1 h; omega))).symm, by repeat (first | exact HB.out | refine Below.setCell ?_ (by first | (simp; done) | (simp; omega)) _ | refine Below.alloc ?_ (by first | (simp; done) | (simp; omega) | omega) _)⟩
          · have d3 : decide (y < 0) = true := decide_eq_true (by omega)
            go_wp2_with fail
            go_ret
            exact ⟨(ret_bool (vldS_bad (k := k) (by have := HL.out; omega) (fun h => by have := HOK.out.1 h; omega))).symm, by repeat (first | exact HB.out | refine Below.setCell ?_ (by first | (simp; done) | (simp; omega)) _ | refine Below.alloc ?_ (by first | (simp; done) | (simp; omega) | omega) _)⟩
        · have d2 : decide ((500 : Int) < x) = true := decide_eq_true (by omega)
          go_wp2_with fail
          go_ret
          exact ⟨(ret_bool (vldS_bad (k := k) (by have := HL.out; omega) (fun h => by have := HOK.out.1 h; omega))).symm, by repeat (first | exact HB.out | refine Below.setCell ?_ (by first | (simp; done) | (simp; omega)) _ | refine Below.alloc ?_ (by first | (simp; done) | (simp; omega) | omega) _)⟩
      · have d1 : decide (x ≤ p) = true := decide_eq_true (by omega)
        go_wp2_with fail
        go_ret
        exact ⟨(ret_bool (vldS_bad (k := k) (by have := HL.out; omega) (fun h => by have := HOK.out.1 h; omega))).symm, by repeat (first | exact HB.out | refine Below.setCell ?_ (by first | (simp; done) | (simp; omega)) _ | refine Below.alloc ?_ (by first | (simp; done) | (simp; omega) | omega) _)⟩
    · have hk' : k = len := by omega
      have HE := Lib.hid hk'
      clear hk' hc hr hnx
      go_wp2_with fail
      go_ret
      exact ⟨(ret_bool (vldS_true (by rw [HL.out]; omega) (by rw [HL.out, ← HE.out]; exact HR.out))).symm, HB.out⟩

theorem istock_any (v : Value) (ps : List (Int × Int)) (w : World) (hv : ReadsP w v ps) (hx : ps.length ≤ 1048576) :
    Calls Tryd.prog 116 #[v] w fun e w' => e = .returned (.bool (vldS ps)) ∧ Below w.heap.size w w' := by
  obtain ⟨a, cap, rfl, h⟩ := hv
  by_cases h8 : ps.length ≤ 8
  · by_cases h0 : ps = []
    · subst h0
      rw [show vldS [] = true from vldS_true (by simp) (RiseS.zero _)]
      exact istock_zero a cap w
    · obtain ⟨b, rfl, hc⟩ := h h0
      exact istock_row b ps.length cap ps rfl h8 w hc
  · rw [vldS_len h8]
    exact istock_long a ps.length cap w (by omega) hx

set_option maxHeartbeats 4000000 in
set_option maxRecDepth 100000 in
theorem sstock_row (b len cap : Nat) (ps : List (Int × Int)) (hl : ps.length = len) (hm : len ≤ 1048576) (hi16 : I16 ps) (w : World) (hc : CellsP w b ps) :
    Calls Tryd.prog 57 #[.slice (some ⟨b, 0, none⟩) len cap] w fun e w' => e = .returned (.bool (vldS ps)) ∧ Below w.heap.size w w' := by
  have HL := Lib.hid hl
  have HI := Lib.hid hi16
  clear hl hi16
  go_enter Tryd.func57, Tryd.ntmps57
  go_wp2_with fail
  go_loopw [3] (fun i wr => ∃ k : Nat, k ≤ len ∧ i = .int .i64 k ∧ RiseS ps k ∧ Below w.heap.size w wr) (fun i _ => len - (intOf i).toNat)
  case atStart => exact ⟨0, Nat.zero_le _, rfl, RiseS.zero ps, Below.refl _ _⟩
  case round =>
    obtain ⟨k, hk, rfl, hr, hnx⟩ := hrel
    have HR := Lib.hid hr
    have HB := Lib.hid hnx
    by_cases hlt : k < len
    · obtain ⟨c0, c1⟩ := hc.below hnx k (by have := HL.out; omega)
      have hb16 := HI.out.get k (by have := HL.out; omega)
      obtain ⟨q, hq⟩ : ∃ q, ps.getD k (0, 0) = q := ⟨_, rfl⟩
      rw [hq] at c0 c1 hb16
      obtain ⟨x, y⟩ := q
      have hx1 := hb16.1
      have hx2 := hb16.2.1
      have hy1 := hb16.2.2.1
      have hy2 := hb16.2.2.2
      simp only at hx1 hx2 hy1 hy2
      have HQ := Lib.hid hq
      have hkl : (k : Int) < (len : Int) := by omega
      have hpv := hr.prev
      obtain ⟨p, hp⟩ : ∃ p, prevS ps k = p := ⟨_, rfl⟩
      rw [hp] at hpv
      have HPV := Lib.hid hpv
      have HOK : Hid (okS ps k ↔ (p < x ∧ x ≤ 500 ∧ 0 ≤ y ∧ y ≤ 50)) := Lib.hid (by unfold okS; rw [hp, hq])
      by_cases t1 : 1 ≤ x ∧ x ≤ 500
      · have g1 := inB_true t1
        by_cases t2 : 0 ≤ y ∧ y ≤ 50
        · have g2 := inB_true t2
          by_cases hk0 : k = 0
          · subst hk0
            have HOK2 : Hid (okS ps 0) := Lib.hid (HOK.out.2 ⟨by rw [← hp]; simp [prevS]; omega, t1.2, t2.1, t2.2⟩)
            have HC := Lib.hid hc
            clear hc hq hp hr hnx hpv t1 t2 hb16
            go_wp2_with (go_at_call 115; refine (in_any _ _ _ _).mono ?_; rintro e w2 ⟨rfl, hw2⟩; subst hw2)
            go_quiet (fail)
            go_wp2_with fail
            go_roundw
            case rel => exact ⟨0 + 1, by omega, by go_num, HR.out.succ HOK2.out, below_drewN HB.out _⟩
            case measure => simp [intOf]; omega
          · have cp := (hc.below hnx (k - 1) (by have := HL.out; omega)).1
            have HPK : Hid ((ps.getD (k - 1) (0, 0)).1 = p) := Lib.hid (by rw [← hp, prevS, if_neg hk0])
            rw [HPK.out] at cp
            have hk1 : 0 < k := by omega
            have hk1b : decide (0 < k) = true := decide_eq_true hk1
            have hkm : ((k : Int) - 1).toNat = k - 1 := by omega
            have hkm2 : (k : Int) - 1 < (len : Int) := by omega
            have hkm3 : 0 ≤ (k : Int) - 1 := by omega
            have HC := Lib.hid hc
            have HT1 := Lib.hid t1
            have HT2 := Lib.hid t2
            clear hc hq hp hr hnx hpv t1 t2 hb16
            by_cases hpx : p < x
            · have d2 : decide (x ≤ p) = false := by simp; omega
              have HOK2 : Hid (okS ps k) := Lib.hid (HOK.out.2 ⟨hpx, HT1.out.2, HT2.out.1, HT2.out.2⟩)
              go_wp2_with (go_at_call 115; refine (in_any _ _ _ _).mono ?_; rintro e w2 ⟨rfl, hw2⟩; subst hw2)
              go_quiet (fail)
              go_wp2_with fail
              go_roundw
              case rel => exact ⟨k + 1, by omega, by go_num, HR.out.succ HOK2.out, below_drewN HB.out _⟩
              case measure => simp [intOf]; omega
            · have d2 : decide (x ≤ p) = true := by simp; omega
              go_wp2_with (go_at_call 115; refine (in_any _ _ _ _).mono ?_; rintro e w2 ⟨rfl, hw2⟩; subst hw2)
              go_quiet (fail)
              go_wp2_with fail
              go_ret
              exact ⟨(ret_bool (vldS_bad (k := k) (by have := HL.out; omega) (fun h => by have := HOK.out.1 h; omega))).symm, below_drewN HB.out _⟩
        · have g2 := inB_false t2
          have HC := Lib.hid hc
          have HT2 := Lib.hid t2
          clear hc hq hp hr hnx hpv t1 t2 hb16
          go_wp2_with (go_at_call 115; refine (in_any _ _ _ _).mono ?_; rintro e w2 ⟨rfl, hw2⟩; subst hw2)
          go_ret
          exact ⟨(ret_bool (vldS_bad (k := k) (by have := HL.out; omega) (fun h => by have := HOK.out.1 h; have := HT2.out; omega))).symm, HB.out⟩
      · have g1 := inB_false t1
        have HC := Lib.hid hc
        have HT1 := Lib.hid t1
        clear hc hq hp hr hnx hpv t1 hb16
        go_wp2_with (go_at_call 115; refine (in_any _ _ _ _).mono ?_; rintro e w2 ⟨rfl, hw2⟩; subst hw2)
        go_ret
        exact ⟨(ret_bool (vldS_bad (k := k) (by have := HL.out; omega) (fun h => by have := HOK.out.1 h; have := HT1.out; have := HPV.out; omega))).symm, HB.out⟩
    · have hk' : k = len := by omega
      have HE := Lib.hid hk'
      clear hk' hc hr hnx
      by_cases h8 : len ≤ 8
      · have d8 : decide ((len : Int) ≤ 8) = true := by simp; omega
        go_wp2_with fail
        go_ret
        exact ⟨(ret_bool (vldS_true (by rw [HL.out]; omega) (by rw [HL.out, ← HE.out]; exact HR.out))).symm, HB.out⟩
      · have d8 : decide ((len : Int) ≤ 8) = false := by simp; omega
        go_wp2_with fail
        go_ret
        exact ⟨(ret_bool (vldS_len (by rw [HL.out]; omega))).symm, HB.out⟩

set_option maxHeartbeats 1000000 in
theorem sstock_zero (a : Option Addr) (cap : Nat) (w : World) :
    Calls Tryd.prog 57 #[.slice a 0 cap] w fun e w' => e = .returned (.bool true) ∧ Below w.heap.size w w' := by
  go_enter Tryd.func57, Tryd.ntmps57
  go_wp2
  refine wp_loop_rounds 1 ?_
  rw [rounds_succ]
  go_wp2
  go_ret
  exact ⟨rfl, Below.refl _ _⟩

theorem sstock_any (v : Value) (ps : List (Int × Int)) (w : World) (hv : ReadsP w v ps) (hi16 : I16 ps) (hx : ps.length ≤ 1048576) :
    Calls Tryd.prog 57 #[v] w fun e w' => e = .returned (.bool (vldS ps)) ∧ Below w.heap.size w w' := by
  obtain ⟨a, cap, rfl, h⟩ := hv
  by_cases h0 : ps = []
  · subst h0
    rw [show vldS [] = true from vldS_true (by simp) (RiseS.zero _)]
    exact sstock_zero a cap w
  · obtain ⟨b, rfl, hc⟩ := h h0
    exact sstock_row b ps.length cap ps rfl hx hi16 w hc

end Go.Proofs.YtbclmafplaipaaaDoor
