/-
  Lists of Return: which are valid; both checks answer 'vldRt'.
-/
import Derived.Test.YtgimpmdiilmkoaaDoorRReturn
import Derived.Test.YtgimpmdiilmkoaaDoorReK
namespace Go.Proofs.YtgimpmdiilmkoaaDoor
open Go Go.RowKit
set_option linter.unusedVariables false


def okRt (c : Int × Int × Int × Int) : Prop := (0 ≤ c.1 ∧ c.1 ≤ 8) ∧ (0 ≤ c.2.1 ∧ c.2.1 ≤ 11) ∧ (1 ≤ c.2.2.1 ∧ c.2.2.1 ≤ 100) ∧ (0 ≤ c.2.2.2 ∧ c.2.2.2 ≤ 1000)
instance (c : Int × Int × Int × Int) : Decidable (okRt c) := inferInstanceAs (Decidable (_ ∧ _))
def OkRtTo (cs : List (Int × Int × Int × Int)) (k : Nat) : Prop := ∀ i, i < k → okRt (cs.getD i (0, 0, 0, 0))
theorem OkRtTo.zero (cs : List (Int × Int × Int × Int)) : OkRtTo cs 0 := fun i hi => absurd hi (by omega)
theorem OkRtTo.succ {cs : List (Int × Int × Int × Int)} {k : Nat} (h : OkRtTo cs k) (h1 : okRt (cs.getD k (0, 0, 0, 0))) : OkRtTo cs (k + 1) := fun i hi => by
  by_cases e : i = k
  · subst e; exact h1
  · exact h i (by omega)
instance (cs : List (Int × Int × Int × Int)) (k : Nat) : Decidable (OkRtTo cs k) := inferInstanceAs (Decidable (∀ i, i < k → _))
def vldRt (cs : List (Int × Int × Int × Int)) : Bool := decide (cs.length ≤ 40 ∧ OkRtTo cs cs.length)
theorem vldRt_true {cs : List (Int × Int × Int × Int)} (h2 : cs.length ≤ 40) (h : OkRtTo cs cs.length) : vldRt cs = true := decide_eq_true ⟨h2, h⟩
theorem vldRt_len {cs : List (Int × Int × Int × Int)} (h : ¬ cs.length ≤ 40) : vldRt cs = false := decide_eq_false fun k => h k.1
theorem vldRt_bad {cs : List (Int × Int × Int × Int)} {k : Nat} (hk : k < cs.length) (h : ¬ okRt (cs.getD k (0, 0, 0, 0))) : vldRt cs = false := decide_eq_false fun q => h (q.2 k hk)
theorem vldRt_spec {cs : List (Int × Int × Int × Int)} (h : vldRt cs = true) : cs.length ≤ 40 ∧ OkRtTo cs cs.length := of_decide_eq_true h
set_option maxHeartbeats 1000000 in
theorem ivldRt_long (a : Option Addr) (len cap : Nat) (w : World) (h : 40 < len) (h' : len ≤ 1048576) :
    Calls Tryd.prog 88 #[.slice a len cap] w fun e w' => e = .returned (.bool false) ∧ Below w.heap.size w w' := by
  go_enter Tryd.func88, Tryd.ntmps88
  go_wp2
  go_ret
  exact ⟨rfl, Below.refl _ _⟩
set_option maxHeartbeats 1000000 in
theorem ivldRt_zero (a : Option Addr) (cap : Nat) (w : World) :
    Calls Tryd.prog 88 #[.slice a 0 cap] w fun e w' => e = .returned (.bool true) ∧ Below w.heap.size w w' := by
  go_enter Tryd.func88, Tryd.ntmps88
  go_wp2
  refine wp_loop_rounds 1 ?_
  rw [rounds_succ]
  go_wp2
  go_ret
  exact ⟨rfl, Below.refl _ _⟩

set_option maxHeartbeats 8000000 in
set_option maxRecDepth 100000 in
theorem ivldRt_row (b len cap : Nat) (ps : List (Int × Int × Int × Int)) (hl : ps.length = len) (h8 : len ≤ 40) (hfit : FitsRt ps) (w : World) (hc : CellsRt w b ps) :
    Calls Tryd.prog 88 #[.slice (some ⟨b, 0, none⟩) len cap] w fun e w' => e = .returned (.bool (vldRt ps)) ∧ Below w.heap.size w w' := by
  have HL := Lib.hid hl
  have HI := Lib.hid hfit
  clear hl hfit
  have h8' : decide ((40 : Int) < (len : Int)) = false := by simp; omega
  have hfg := field_goods
  go_enter Tryd.func88, Tryd.ntmps88
  go_wp2_with fail
  go_loopw [10] (fun i wr => ∃ k : Nat, k ≤ len ∧ i = .int .i64 k ∧ OkRtTo ps k ∧ Below w.heap.size w wr) (fun i _ => len - (intOf i).toNat)
  case atStart => exact ⟨0, Nat.zero_le _, rfl, OkRtTo.zero ps, Below.refl _ _⟩
  case round =>
    obtain ⟨k, hk, rfl, hr, hnx⟩ := hrel
    have HR := Lib.hid hr
    have HB := Lib.hid hnx
    by_cases hlt : k < len
    · obtain ⟨c0, c1, c2, c3⟩ := hc.below hnx k (by have := HL.out; omega)
      have hf := HI.out.get k (by have := HL.out; omega)
      obtain ⟨q, hq⟩ : ∃ q, ps.getD k (0, 0, 0, 0) = q := ⟨_, rfl⟩
      rw [hq] at c0 c1 c2 c3 hf
      obtain ⟨x0, x1, x2, x3⟩ := q
      unfold FitRt at hf
      simp only at hf
      obtain ⟨⟨l0, u0⟩, ⟨l1, u1⟩, ⟨l2, u2⟩, l3, u3⟩ := hf
      have hwr : w.heap.size ≤ wr.heap.size := hnx.size
      have hkl : (k : Int) < (len : Int) := by omega
      have HOK : Hid (okRt (ps.getD k (0, 0, 0, 0)) ↔ ((0 ≤ x0 ∧ x0 ≤ 8) ∧ (0 ≤ x1 ∧ x1 ≤ 11) ∧ (1 ≤ x2 ∧ x2 ≤ 100) ∧ (0 ≤ x3 ∧ x3 ≤ 1000))) := Lib.hid (by unfold okRt; rw [hq])
      have HC := Lib.hid hc
      clear hc hq hr hnx
      by_cases t0 : (0 ≤ x0 ∧ x0 ≤ 8) ∧ (0 ≤ x1 ∧ x1 ≤ 11) ∧ (1 ≤ x2 ∧ x2 ≤ 100) ∧ (0 ≤ x3 ∧ x3 ≤ 1000)
      · have d0 := goodsB_true t0
        go_wp2_with (first | (go_at_call 91; refine (isent_any _ _ _ _ _).mono ?_; rintro e w2 ⟨rfl, b2⟩; have hs2 := b2.size; simp at hs2) | (go_at_call 112; refine (iareV_any _ _ _ _ ⟨l0, u0⟩ ⟨l1, u1⟩ ⟨l3, u3⟩ _).mono ?_; rintro e w3 ⟨rfl, hw3⟩; subst hw3))
        go_roundw
        case rel => exact ⟨k + 1, by omega, by go_num, HR.out.succ (HOK.out.2 (by omega)), by repeat (first | exact HB.out | exact HB.out.trans (b2.mono (by first | omega | (simp; omega))) | refine Below.trans ?_ (b2.mono (by first | omega | (simp; omega))) | refine Below.drew ?_ | refine Below.setCell ?_ (by first | (simp; done) | (simp; omega) | omega) _ | refine Below.alloc ?_ (by first | (simp; done) | (simp; omega) | omega) _)⟩
        case measure => simp [intOf]; omega
      · have d0 := goodsB_false t0
        have HT := Lib.hid t0
        clear t0
        go_wp2_with (first | (go_at_call 91; refine (isent_any _ _ _ _ _).mono ?_; rintro e w2 ⟨rfl, b2⟩; have hs2 := b2.size; simp at hs2) | (go_at_call 112; refine (iareV_any _ _ _ _ ⟨l0, u0⟩ ⟨l1, u1⟩ ⟨l3, u3⟩ _).mono ?_; rintro e w3 ⟨rfl, hw3⟩; subst hw3))
        go_ret
        exact ⟨(ret_bool (vldRt_bad (k := k) (by have := HL.out; omega) (fun h => by have := HOK.out.1 h; have := HT.out; omega))).symm, by repeat (first | exact HB.out | exact HB.out.trans (b2.mono (by first | omega | (simp; omega))) | refine Below.trans ?_ (b2.mono (by first | omega | (simp; omega))) | refine Below.drew ?_ | refine Below.setCell ?_ (by first | (simp; done) | (simp; omega) | omega) _ | refine Below.alloc ?_ (by first | (simp; done) | (simp; omega) | omega) _)⟩
    · have hk' : k = len := by omega
      have HE := Lib.hid hk'
      clear hk' hc hr hnx
      go_wp2_with fail
      go_ret
      exact ⟨(ret_bool (vldRt_true (by rw [HL.out]; omega) (by rw [HL.out, ← HE.out]; exact HR.out))).symm, HB.out⟩
theorem ivldRt_any (v : Value) (ps : List (Int × Int × Int × Int)) (w : World) (hv : ReadsRt w v ps) (hfit : FitsRt ps) (hx : ps.length ≤ 1048576) :
    Calls Tryd.prog 88 #[v] w fun e w' => e = .returned (.bool (vldRt ps)) ∧ Below w.heap.size w w' := by
  obtain ⟨a, cap, rfl, h⟩ := hv
  by_cases h8 : ps.length ≤ 40
  · by_cases h0 : ps = []
    · subst h0
      rw [show vldRt [] = true from vldRt_true (by simp) (OkRtTo.zero _)]
      exact ivldRt_zero a cap w
    · obtain ⟨b, rfl, hc⟩ := h h0
      exact ivldRt_row b ps.length cap ps rfl h8 hfit w hc
  · rw [vldRt_len h8]
    exact ivldRt_long a ps.length cap w (by omega) hx

set_option maxHeartbeats 8000000 in
set_option maxRecDepth 100000 in
theorem svldRt_row (b len cap : Nat) (ps : List (Int × Int × Int × Int)) (hl : ps.length = len) (hm : len ≤ 1048576) (hfit : FitsRt ps) (w : World) (hc : CellsRt w b ps) :
    Calls Tryd.prog 86 #[.slice (some ⟨b, 0, none⟩) len cap] w fun e w' => e = .returned (.bool (vldRt ps)) ∧ Below w.heap.size w w' := by
  have HL := Lib.hid hl
  have HI := Lib.hid hfit
  clear hl hfit
  go_enter Tryd.func86, Tryd.ntmps86
  go_wp2_with fail
  go_loopw [3] (fun i wr => ∃ k : Nat, k ≤ len ∧ i = .int .i64 k ∧ OkRtTo ps k ∧ Below w.heap.size w wr) (fun i _ => len - (intOf i).toNat)
  case atStart => exact ⟨0, Nat.zero_le _, rfl, OkRtTo.zero ps, Below.refl _ _⟩
  case round =>
    obtain ⟨k, hk, rfl, hr, hnx⟩ := hrel
    have HR := Lib.hid hr
    have HB := Lib.hid hnx
    by_cases hlt : k < len
    · obtain ⟨c0, c1, c2, c3⟩ := hc.below hnx k (by have := HL.out; omega)
      have hf := HI.out.get k (by have := HL.out; omega)
      obtain ⟨q, hq⟩ : ∃ q, ps.getD k (0, 0, 0, 0) = q := ⟨_, rfl⟩
      rw [hq] at c0 c1 c2 c3 hf
      obtain ⟨x0, x1, x2, x3⟩ := q
      unfold FitRt at hf
      simp only at hf
      obtain ⟨⟨l0, u0⟩, ⟨l1, u1⟩, ⟨l2, u2⟩, l3, u3⟩ := hf
      have hwr : w.heap.size ≤ wr.heap.size := hnx.size
      have hkl : (k : Int) < (len : Int) := by omega
      have HOK : Hid (okRt (ps.getD k (0, 0, 0, 0)) ↔ ((0 ≤ x0 ∧ x0 ≤ 8) ∧ (0 ≤ x1 ∧ x1 ≤ 11) ∧ (1 ≤ x2 ∧ x2 ≤ 100) ∧ (0 ≤ x3 ∧ x3 ≤ 1000))) := Lib.hid (by unfold okRt; rw [hq])
      have HC := Lib.hid hc
      clear hc hq hr hnx
      by_cases t0 : (0 ≤ x0 ∧ x0 ≤ 8) ∧ (0 ≤ x1 ∧ x1 ≤ 11)
      · have d0 := knownB_true t0
        by_cases t1 : (1 : Int) ≤ x2 ∧ x2 ≤ 100
        · have d1 := inB_true t1
          by_cases t2 : (0 : Int) ≤ x3 ∧ x3 ≤ 1000
          · have d2 := inB_true t2
            go_wp2_with (first | (go_at_call 72; refine (in_any _ _ _ _).mono ?_; rintro e w2 ⟨rfl, hw2⟩; subst hw2) | (go_at_call 51; refine (sknown_any _ _ _).mono ?_; rintro e w2 ⟨rfl, hw2⟩; subst hw2))
            go_roundw
            case rel => exact ⟨k + 1, by omega, by go_num, HR.out.succ (HOK.out.2 (by omega)), by repeat (first | exact HB.out | exact HB.out.trans (b2.mono (by first | omega | (simp; omega))) | refine Below.trans ?_ (b2.mono (by first | omega | (simp; omega))) | refine Below.drew ?_ | refine Below.setCell ?_ (by first | (simp; done) | (simp; omega) | omega) _ | refine Below.alloc ?_ (by first | (simp; done) | (simp; omega) | omega) _)⟩
            case measure => simp [intOf]; omega
          · have d2 := inB_false t2
            have HT := Lib.hid t2
            clear t2
            go_wp2_with (first | (go_at_call 72; refine (in_any _ _ _ _).mono ?_; rintro e w2 ⟨rfl, hw2⟩; subst hw2) | (go_at_call 51; refine (sknown_any _ _ _).mono ?_; rintro e w2 ⟨rfl, hw2⟩; subst hw2))
            go_ret
            exact ⟨(ret_bool (vldRt_bad (k := k) (by have := HL.out; omega) (fun h => by have := HOK.out.1 h; have := HT.out; omega))).symm, by repeat (first | exact HB.out | exact HB.out.trans (b2.mono (by first | omega | (simp; omega))) | refine Below.trans ?_ (b2.mono (by first | omega | (simp; omega))) | refine Below.drew ?_ | refine Below.setCell ?_ (by first | (simp; done) | (simp; omega) | omega) _ | refine Below.alloc ?_ (by first | (simp; done) | (simp; omega) | omega) _)⟩
        · have d1 := inB_false t1
          have HT := Lib.hid t1
          clear t1
          go_wp2_with (first | (go_at_call 72; refine (in_any _ _ _ _).mono ?_; rintro e w2 ⟨rfl, hw2⟩; subst hw2) | (go_at_call 51; refine (sknown_any _ _ _).mono ?_; rintro e w2 ⟨rfl, hw2⟩; subst hw2))
          go_ret
          exact ⟨(ret_bool (vldRt_bad (k := k) (by have := HL.out; omega) (fun h => by have := HOK.out.1 h; have := HT.out; omega))).symm, by repeat (first | exact HB.out | exact HB.out.trans (b2.mono (by first | omega | (simp; omega))) | refine Below.trans ?_ (b2.mono (by first | omega | (simp; omega))) | refine Below.drew ?_ | refine Below.setCell ?_ (by first | (simp; done) | (simp; omega) | omega) _ | refine Below.alloc ?_ (by first | (simp; done) | (simp; omega) | omega) _)⟩
      · have d0 := knownB_false t0
        have HT := Lib.hid t0
        clear t0
        go_wp2_with (first | (go_at_call 72; refine (in_any _ _ _ _).mono ?_; rintro e w2 ⟨rfl, hw2⟩; subst hw2) | (go_at_call 51; refine (sknown_any _ _ _).mono ?_; rintro e w2 ⟨rfl, hw2⟩; subst hw2))
        go_ret
        exact ⟨(ret_bool (vldRt_bad (k := k) (by have := HL.out; omega) (fun h => by have := HOK.out.1 h; have := HT.out; omega))).symm, by repeat (first | exact HB.out | exact HB.out.trans (b2.mono (by first | omega | (simp; omega))) | refine Below.trans ?_ (b2.mono (by first | omega | (simp; omega))) | refine Below.drew ?_ | refine Below.setCell ?_ (by first | (simp; done) | (simp; omega) | omega) _ | refine Below.alloc ?_ (by first | (simp; done) | (simp; omega) | omega) _)⟩
    · have hk' : k = len := by omega
      have HE := Lib.hid hk'
      clear hk' hc hr hnx
      by_cases h8 : len ≤ 40
      · have d8 : decide ((len : Int) ≤ 40) = true := by simp; omega
        go_wp2_with fail
        go_ret
        exact ⟨(ret_bool (vldRt_true (by rw [HL.out]; omega) (by rw [HL.out, ← HE.out]; exact HR.out))).symm, HB.out⟩
      · have d8 : decide ((len : Int) ≤ 40) = false := by simp; omega
        go_wp2_with fail
        go_ret
        exact ⟨(ret_bool (vldRt_len (by rw [HL.out]; omega))).symm, HB.out⟩
set_option maxHeartbeats 1000000 in
theorem svldRt_zero (a : Option Addr) (cap : Nat) (w : World) :
    Calls Tryd.prog 86 #[.slice a 0 cap] w fun e w' => e = .returned (.bool true) ∧ Below w.heap.size w w' := by
  go_enter Tryd.func86, Tryd.ntmps86
  go_wp2
  refine wp_loop_rounds 1 ?_
  rw [rounds_succ]
  go_wp2
  go_ret
  exact ⟨rfl, Below.refl _ _⟩
theorem sokRt_any (v : Value) (ps : List (Int × Int × Int × Int)) (w : World) (hv : ReadsRt w v ps) (hfit : FitsRt ps) (hx : ps.length ≤ 1048576) :
    Calls Tryd.prog 86 #[v] w fun e w' => e = .returned (.bool (vldRt ps)) ∧ Below w.heap.size w w' := by
  obtain ⟨a, cap, rfl, h⟩ := hv
  by_cases h0 : ps = []
  · subst h0
    rw [show vldRt [] = true from vldRt_true (by simp) (OkRtTo.zero _)]
    exact svldRt_zero a cap w
  · obtain ⟨b, rfl, hc⟩ := h h0
    exact svldRt_row b ps.length cap ps rfl hx hfit w hc
end Go.Proofs.YtgimpmdiilmkoaaDoor
