/-
  Lists of Voucher: which are valid; both checks answer 'vldVo'.
-/
import Derived.Test.YtbclmafplaipaaaDoorRVoucher
import Derived.Test.YtbclmafplaipaaaDoorReK
namespace Go.Proofs.YtbclmafplaipaaaDoor
open Go Go.RowKit
set_option linter.unusedVariables false


def okVo (c : Int × Int) : Prop := (0 ≤ c.1 ∧ c.1 ≤ 1000000) ∧ (0 ≤ c.2 ∧ c.2 ≤ 1000)
instance (c : Int × Int) : Decidable (okVo c) := inferInstanceAs (Decidable (_ ∧ _))
def OkVoTo (cs : List (Int × Int)) (k : Nat) : Prop := ∀ i, i < k → okVo (cs.getD i (0, 0))
theorem OkVoTo.zero (cs : List (Int × Int)) : OkVoTo cs 0 := fun i hi => absurd hi (by omega)
theorem OkVoTo.succ {cs : List (Int × Int)} {k : Nat} (h : OkVoTo cs k) (h1 : okVo (cs.getD k (0, 0))) : OkVoTo cs (k + 1) := fun i hi => by
  by_cases e : i = k
  · subst e; exact h1
  · exact h i (by omega)
instance (cs : List (Int × Int)) (k : Nat) : Decidable (OkVoTo cs k) := inferInstanceAs (Decidable (∀ i, i < k → _))
def vldVo (cs : List (Int × Int)) : Bool := decide (cs.length ≤ 12 ∧ OkVoTo cs cs.length)
theorem vldVo_true {cs : List (Int × Int)} (h2 : cs.length ≤ 12) (h : OkVoTo cs cs.length) : vldVo cs = true := decide_eq_true ⟨h2, h⟩
theorem vldVo_len {cs : List (Int × Int)} (h : ¬ cs.length ≤ 12) : vldVo cs = false := decide_eq_false fun k => h k.1
theorem vldVo_bad {cs : List (Int × Int)} {k : Nat} (hk : k < cs.length) (h : ¬ okVo (cs.getD k (0, 0))) : vldVo cs = false := decide_eq_false fun q => h (q.2 k hk)
theorem vldVo_spec {cs : List (Int × Int)} (h : vldVo cs = true) : cs.length ≤ 12 ∧ OkVoTo cs cs.length := of_decide_eq_true h
set_option maxHeartbeats 1000000 in
theorem ivldVo_long (a : Option Addr) (len cap : Nat) (w : World) (h : 12 < len) (h' : len ≤ 1048576) :
    Calls Tryd.prog 134 #[.slice a len cap] w fun e w' => e = .returned (.bool false) ∧ Below w.heap.size w w' := by
  go_enter Tryd.func134, Tryd.ntmps134
  go_wp2
  go_ret
  exact ⟨rfl, Below.refl _ _⟩
set_option maxHeartbeats 1000000 in
theorem ivldVo_zero (a : Option Addr) (cap : Nat) (w : World) :
    Calls Tryd.prog 134 #[.slice a 0 cap] w fun e w' => e = .returned (.bool true) ∧ Below w.heap.size w w' := by
  go_enter Tryd.func134, Tryd.ntmps134
  go_wp2
  refine wp_loop_rounds 1 ?_
  rw [rounds_succ]
  go_wp2
  go_ret
  exact ⟨rfl, Below.refl _ _⟩

set_option maxHeartbeats 8000000 in
set_option maxRecDepth 100000 in
theorem ivldVo_row (b len cap : Nat) (ps : List (Int × Int)) (hl : ps.length = len) (h8 : len ≤ 12) (hfit : FitsVo ps) (w : World) (hc : CellsVo w b ps) :
    Calls Tryd.prog 134 #[.slice (some ⟨b, 0, none⟩) len cap] w fun e w' => e = .returned (.bool (vldVo ps)) ∧ Below w.heap.size w w' := by
  have HL := Lib.hid hl
  have HI := Lib.hid hfit
  clear hl hfit
  have h8' : decide ((12 : Int) < (len : Int)) = false := by simp; omega
  go_enter Tryd.func134, Tryd.ntmps134
  go_wp2_with fail
  go_loopw [10] (fun i wr => ∃ k : Nat, k ≤ len ∧ i = .int .i64 k ∧ OkVoTo ps k ∧ Below w.heap.size w wr) (fun i _ => len - (intOf i).toNat)
  case atStart => exact ⟨0, Nat.zero_le _, rfl, OkVoTo.zero ps, Below.refl _ _⟩
  case round =>
    obtain ⟨k, hk, rfl, hr, hnx⟩ := hrel
    have HR := Lib.hid hr
    have HB := Lib.hid hnx
    by_cases hlt : k < len
    · obtain ⟨c0, c1⟩ := hc.below hnx k (by have := HL.out; omega)
      have hf := HI.out.get k (by have := HL.out; omega)
      obtain ⟨q, hq⟩ : ∃ q, ps.getD k (0, 0) = q := ⟨_, rfl⟩
      rw [hq] at c0 c1 hf
      obtain ⟨x0, x1⟩ := q
      unfold FitVo at hf
      simp only at hf
      obtain ⟨⟨l0, u0⟩, l1, u1⟩ := hf
      have hwr : w.heap.size ≤ wr.heap.size := hnx.size
      have hkl : (k : Int) < (len : Int) := by omega
      have HOK : Hid (okVo (ps.getD k (0, 0)) ↔ ((0 ≤ x0 ∧ x0 ≤ 1000000) ∧ (0 ≤ x1 ∧ x1 ≤ 1000))) := Lib.hid (by unfold okVo; rw [hq])
      have HC := Lib.hid hc
      clear hc hq hr hnx
      by_cases t0 : ¬ x0 < (0 : Int)
      · have d0 : decide (x0 < (0 : Int)) = false := decide_eq_false t0
        by_cases t1 : ¬ (1000000 : Int) < x0
        · have d1 : decide ((1000000 : Int) < x0) = false := decide_eq_false t1
          by_cases t2 : (0 : Int) ≤ x1 ∧ x1 ≤ 1000
          · have d2 := dayB_true t2
            go_wp2_with ((go_at_call 156; refine (iday_any _ _).mono ?_; rintro e w2 ⟨rfl, hw2⟩; subst hw2))
            go_roundw
            case rel => exact ⟨k + 1, by omega, by go_num, HR.out.succ (HOK.out.2 (by omega)), by repeat (first | exact HB.out | exact HB.out.trans (b2.mono (by first | omega | (simp; omega))) | refine Below.trans ?_ (b2.mono (by first | omega | (simp; omega))) | refine Below.drew ?_ | refine Below.setCell ?_ (by first | (simp; done) | (simp; omega) | omega) _ | refine Below.alloc ?_ (by first | (simp; done) | (simp; omega) | omega) _)⟩
            case measure => simp [intOf]; omega
          · have d2 := dayB_false t2
            have HT := Lib.hid t2
            clear t2
            go_wp2_with ((go_at_call 156; refine (iday_any _ _).mono ?_; rintro e w2 ⟨rfl, hw2⟩; subst hw2))
            go_ret
            exact ⟨(ret_bool (vldVo_bad (k := k) (by have := HL.out; omega) (fun h => by have := HOK.out.1 h; have := HT.out; omega))).symm, by repeat (first | exact HB.out | exact HB.out.trans (b2.mono (by first | omega | (simp; omega))) | refine Below.trans ?_ (b2.mono (by first | omega | (simp; omega))) | refine Below.drew ?_ | refine Below.setCell ?_ (by first | (simp; done) | (simp; omega) | omega) _ | refine Below.alloc ?_ (by first | (simp; done) | (simp; omega) | omega) _)⟩
        · have d1 : decide ((1000000 : Int) < x0) = true := decide_eq_true (by omega)
          have HT := Lib.hid t1
          go_wp2_with ((go_at_call 156; refine (iday_any _ _).mono ?_; rintro e w2 ⟨rfl, hw2⟩; subst hw2))
          go_ret
          exact ⟨(ret_bool (vldVo_bad (k := k) (by have := HL.out; omega) (fun h => by have := HOK.out.1 h; have := HT.out; omega))).symm, by repeat (first | exact HB.out | exact HB.out.trans (b2.mono (by first | omega | (simp; omega))) | refine Below.trans ?_ (b2.mono (by first | omega | (simp; omega))) | refine Below.drew ?_ | refine Below.setCell ?_ (by first | (simp; done) | (simp; omega) | omega) _ | refine Below.alloc ?_ (by first | (simp; done) | (simp; omega) | omega) _)⟩
      · have d0 : decide (x0 < (0 : Int)) = true := decide_eq_true (by omega)
        have HT := Lib.hid t0
        go_wp2_with ((go_at_call 156; refine (iday_any _ _).mono ?_; rintro e w2 ⟨rfl, hw2⟩; subst hw2))
        go_ret
        exact ⟨(ret_bool (vldVo_bad (k := k) (by have := HL.out; omega) (fun h => by have := HOK.out.1 h; have := HT.out; omega))).symm, by repeat (first | exact HB.out | exact HB.out.trans (b2.mono (by first | omega | (simp; omega))) | refine Below.trans ?_ (b2.mono (by first | omega | (simp; omega))) | refine Below.drew ?_ | refine Below.setCell ?_ (by first | (simp; done) | (simp; omega) | omega) _ | refine Below.alloc ?_ (by first | (simp; done) | (simp; omega) | omega) _)⟩
    · have hk' : k = len := by omega
      have HE := Lib.hid hk'
      clear hk' hc hr hnx
      go_wp2_with fail
      go_ret
      exact ⟨(ret_bool (vldVo_true (by rw [HL.out]; omega) (by rw [HL.out, ← HE.out]; exact HR.out))).symm, HB.out⟩
theorem ivldVo_any (v : Value) (ps : List (Int × Int)) (w : World) (hv : ReadsVo w v ps) (hfit : FitsVo ps) (hx : ps.length ≤ 1048576) :
    Calls Tryd.prog 134 #[v] w fun e w' => e = .returned (.bool (vldVo ps)) ∧ Below w.heap.size w w' := by
  obtain ⟨a, cap, rfl, h⟩ := hv
  by_cases h8 : ps.length ≤ 12
  · by_cases h0 : ps = []
    · subst h0
      rw [show vldVo [] = true from vldVo_true (by simp) (OkVoTo.zero _)]
      exact ivldVo_zero a cap w
    · obtain ⟨b, rfl, hc⟩ := h h0
      exact ivldVo_row b ps.length cap ps rfl h8 hfit w hc
  · rw [vldVo_len h8]
    exact ivldVo_long a ps.length cap w (by omega) hx

set_option maxHeartbeats 8000000 in
set_option maxRecDepth 100000 in
theorem svldVo_row (b len cap : Nat) (ps : List (Int × Int)) (hl : ps.length = len) (hm : len ≤ 1048576) (hfit : FitsVo ps) (w : World) (hc : CellsVo w b ps) :
    Calls Tryd.prog 101 #[.slice (some ⟨b, 0, none⟩) len cap] w fun e w' => e = .returned (.bool (vldVo ps)) ∧ Below w.heap.size w w' := by
  have HL := Lib.hid hl
  have HI := Lib.hid hfit
  clear hl hfit
  go_enter Tryd.func101, Tryd.ntmps101
  go_wp2_with fail
  go_loopw [3] (fun i wr => ∃ k : Nat, k ≤ len ∧ i = .int .i64 k ∧ OkVoTo ps k ∧ Below w.heap.size w wr) (fun i _ => len - (intOf i).toNat)
  case atStart => exact ⟨0, Nat.zero_le _, rfl, OkVoTo.zero ps, Below.refl _ _⟩
  case round =>
    obtain ⟨k, hk, rfl, hr, hnx⟩ := hrel
    have HR := Lib.hid hr
    have HB := Lib.hid hnx
    by_cases hlt : k < len
    · obtain ⟨c0, c1⟩ := hc.below hnx k (by have := HL.out; omega)
      have hf := HI.out.get k (by have := HL.out; omega)
      obtain ⟨q, hq⟩ : ∃ q, ps.getD k (0, 0) = q := ⟨_, rfl⟩
      rw [hq] at c0 c1 hf
      obtain ⟨x0, x1⟩ := q
      unfold FitVo at hf
      simp only at hf
      obtain ⟨⟨l0, u0⟩, l1, u1⟩ := hf
      have hwr : w.heap.size ≤ wr.heap.size := hnx.size
      have hkl : (k : Int) < (len : Int) := by omega
      have HOK : Hid (okVo (ps.getD k (0, 0)) ↔ ((0 ≤ x0 ∧ x0 ≤ 1000000) ∧ (0 ≤ x1 ∧ x1 ≤ 1000))) := Lib.hid (by unfold okVo; rw [hq])
      have HC := Lib.hid hc
      clear hc hq hr hnx
      by_cases t0 : (0 : Int) ≤ x0 ∧ x0 ≤ 1000000
      · have d0 := inB_true t0
        by_cases t1 : (0 : Int) ≤ x1 ∧ x1 ≤ 1000
        · have d1 := dayB_true t1
          go_wp2_with (first | (go_at_call 115; refine (in_any _ _ _ _).mono ?_; rintro e w2 ⟨rfl, hw2⟩; subst hw2) | (go_at_call 100; refine (sdays_any _ _).mono ?_; rintro e w2 ⟨rfl, hw2⟩; subst hw2))
          go_roundw
          case rel => exact ⟨k + 1, by omega, by go_num, HR.out.succ (HOK.out.2 (by omega)), by repeat (first | exact HB.out | exact HB.out.trans (b2.mono (by first | omega | (simp; omega))) | refine Below.trans ?_ (b2.mono (by first | omega | (simp; omega))) | refine Below.drew ?_ | refine Below.setCell ?_ (by first | (simp; done) | (simp; omega) | omega) _ | refine Below.alloc ?_ (by first | (simp; done) | (simp; omega) | omega) _)⟩
          case measure => simp [intOf]; omega
        · have d1 := dayB_false t1
          have HT := Lib.hid t1
          clear t1
          go_wp2_with (first | (go_at_call 115; refine (in_any _ _ _ _).mono ?_; rintro e w2 ⟨rfl, hw2⟩; subst hw2) | (go_at_call 100; refine (sdays_any _ _).mono ?_; rintro e w2 ⟨rfl, hw2⟩; subst hw2))
          go_ret
          exact ⟨(ret_bool (vldVo_bad (k := k) (by have := HL.out; omega) (fun h => by have := HOK.out.1 h; have := HT.out; omega))).symm, by repeat (first | exact HB.out | exact HB.out.trans (b2.mono (by first | omega | (simp; omega))) | refine Below.trans ?_ (b2.mono (by first | omega | (simp; omega))) | refine Below.drew ?_ | refine Below.setCell ?_ (by first | (simp; done) | (simp; omega) | omega) _ | refine Below.alloc ?_ (by first | (simp; done) | (simp; omega) | omega) _)⟩
      · have d0 := inB_false t0
        have HT := Lib.hid t0
        clear t0
        go_wp2_with (first | (go_at_call 115; refine (in_any _ _ _ _).mono ?_; rintro e w2 ⟨rfl, hw2⟩; subst hw2) | (go_at_call 100; refine (sdays_any _ _).mono ?_; rintro e w2 ⟨rfl, hw2⟩; subst hw2))
        go_ret
        exact ⟨(ret_bool (vldVo_bad (k := k) (by have := HL.out; omega) (fun h => by have := HOK.out.1 h; have := HT.out; omega))).symm, by repeat (first | exact HB.out | exact HB.out.trans (b2.mono (by first | omega | (simp; omega))) | refine Below.trans ?_ (b2.mono (by first | omega | (simp; omega))) | refine Below.drew ?_ | refine Below.setCell ?_ (by first | (simp; done) | (simp; omega) | omega) _ | refine Below.alloc ?_ (by first | (simp; done) | (simp; omega) | omega) _)⟩
    · have hk' : k = len := by omega
      have HE := Lib.hid hk'
      clear hk' hc hr hnx
      by_cases h8 : len ≤ 12
      · have d8 : decide ((len : Int) ≤ 12) = true := by simp; omega
        go_wp2_with fail
        go_ret
        exact ⟨(ret_bool (vldVo_true (by rw [HL.out]; omega) (by rw [HL.out, ← HE.out]; exact HR.out))).symm, HB.out⟩
      · have d8 : decide ((len : Int) ≤ 12) = false := by simp; omega
        go_wp2_with fail
        go_ret
        exact ⟨(ret_bool (vldVo_len (by rw [HL.out]; omega))).symm, HB.out⟩
set_option maxHeartbeats 1000000 in
theorem svldVo_zero (a : Option Addr) (cap : Nat) (w : World) :
    Calls Tryd.prog 101 #[.slice a 0 cap] w fun e w' => e = .returned (.bool true) ∧ Below w.heap.size w w' := by
  go_enter Tryd.func101, Tryd.ntmps101
  go_wp2
  refine wp_loop_rounds 1 ?_
  rw [rounds_succ]
  go_wp2
  go_ret
  exact ⟨rfl, Below.refl _ _⟩
theorem sokVo_any (v : Value) (ps : List (Int × Int)) (w : World) (hv : ReadsVo w v ps) (hfit : FitsVo ps) (hx : ps.length ≤ 1048576) :
    Calls Tryd.prog 101 #[v] w fun e w' => e = .returned (.bool (vldVo ps)) ∧ Below w.heap.size w w' := by
  obtain ⟨a, cap, rfl, h⟩ := hv
  by_cases h0 : ps = []
  · subst h0
    rw [show vldVo [] = true from vldVo_true (by simp) (OkVoTo.zero _)]
    exact svldVo_zero a cap w
  · obtain ⟨b, rfl, hc⟩ := h h0
    exact svldVo_row b ps.length cap ps rfl hx hfit w hc
end Go.Proofs.YtbclmafplaipaaaDoor
