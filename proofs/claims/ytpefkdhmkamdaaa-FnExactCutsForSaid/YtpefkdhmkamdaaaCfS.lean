/-
  CutsFor and LeastCut: the model's.
-/
import Derived.Test.YtpefkdhmkamdaaaCfP
import Derived.Test.YtpefkdhmkamdaaaToI
namespace Go.Proofs.Ytpefkdhmkamdaaa
open Go Go.RowKit
set_option linter.unusedVariables false

theorem ret_tw3 {a b a' b' : Int} (h : a = a' ∧ b = b') : Ending.returned (.tuple #[.int .i64 a, .int .i64 b]) = .returned (.tuple #[.int .i64 a', .int .i64 b']) := by rw [h.1, h.2]
theorem cells_orB {w : World} {v : Value} {ps : List Tri} (h : ReadsB w v ps) : ∃ a b cap, v = .slice a ps.length cap ∧ (ps.length ≠ 0 → a = some ⟨b, 0, none⟩) ∧ CellsB w b ps := by
  obtain ⟨a, cap, rfl, h⟩ := h
  by_cases e : ps = []
  · subst e; exact ⟨a, 0, cap, rfl, fun h => absurd rfl h, fun i hi => absurd hi (by simp)⟩
  · obtain ⟨b, h1, h2⟩ := h e; exact ⟨a, b, cap, rfl, fun _ => h1, h2⟩
/-- The first k cuts. -/
def cutsTo (ps : List Tri) (wide : Int) (k : Nat) : List Int := (List.range k).map (cutAt ps wide)
theorem cutsTo_len (ps : List Tri) (wide : Int) (k : Nat) : (cutsTo ps wide k).length = k := by simp [cutsTo]
theorem cutsTo_succ (ps : List Tri) (wide : Int) (k : Nat) : cutsTo ps wide (k + 1) = cutsTo ps wide k ++ [cutAt ps wide k] := by simp [cutsTo, List.range_succ]
theorem cutsTo_all (ps : List Tri) (wide : Int) : cutsTo ps wide ps.length = rowK ps wide ps.length := by
  unfold cutsTo rowK
  refine List.map_congr_left fun i hi => ?_
  rw [if_pos (List.mem_range.1 hi)]

set_option maxHeartbeats 8000000 in
set_option maxRecDepth 100000 in
theorem scuts_any (v : Value) (ps : List Tri) (wide : Int) (w : World) (hv : ReadsB w v ps) (hfit : All8 ps) (hx : ps.length ≤ 1048576) :
    Calls Try.prog 9 #[v, .int .i64 wide] w fun e w' => ∃ v', e = .returned (.tuple #[v', .int .i64 (cfC ps wide)]) ∧ OwnI w.heap.size w' v' (cfR ps wide) ∧ Below w.heap.size w w' := by
  obtain ⟨i0, hi, hz0, hz1, hz2⟩ := info_parts info_i64
  have HV := Lib.hid hv
  obtain ⟨a, b, cap, rfl, ha, hc⟩ := cells_orB hv
  by_cases g : vldX ps = true
  · have HG := Lib.hid g
    by_cases g2 : inB wide 1 400 = true
    · have HG2 := Lib.hid g2
      obtain ⟨hm, hok⟩ := vldX_spec g
      have HO := Lib.hid hok
      have H6 : Hid (∀ k, k < ps.length → cutAt ps wide k < 0 → cfC ps wide = 6 ∧ cfR ps wide = []) := Lib.hid (fun k hk hf => cf_6 g g2 hk hf)
      have H0 := Lib.hid (fun h => cf_0 (ps := ps) (wide := wide) g g2 h)
      obtain ⟨m, hm'⟩ : ∃ m, ps.length = m := ⟨_, rfl⟩
      have HPM := Lib.hid hm'
      rw [hm'] at hm ha HV ⊢
      have HA := Lib.hid ha
      have HC := Lib.hid hc
      clear g g2 hok hm' ha hc hv
      go_enter Try.func9, Try.ntmps9
      go_wp2_with fail
      refine (svldX_any _ ps _ HV.out hfit hx).mono ?_
      rintro e w1 ⟨rfl, q1⟩
      rw [HG.out]
      have HQ := Lib.hid q1
      have hs01 := q1.size
      clear q1
      go_wp2_with (go_at_call 18; refine (in_any _ _ _ _).mono ?_; rintro e w2 ⟨rfl, hw2⟩; rw [hw2, HG2.out]; clear hw2 w2)
      obtain ⟨W1, e1⟩ : ∃ V, w1.alloc (.cells #[] 2) = V := ⟨_, rfl⟩
      have HO1 : Hid (OwnI w1.heap.size W1 (.slice (some ⟨w1.heap.size, 0, none⟩) 0 0) []) := Lib.hid (by rw [← e1]; exact World.ownsRow_made w1 #[] 0 (Nat.le_refl _) (Nat.zero_le _) rfl)
      have HB1 : Hid (Below w1.heap.size w1 W1) := Lib.hid (by rw [← e1]; exact (Below.refl _ _).alloc (Nat.le_refl _) _)
      rw [e1]
      clear e1
      go_loopw [6, 7] (fun u i wr => ∃ k : Nat, k ≤ m ∧ i = .int .i64 k ∧ OwnI w1.heap.size wr u (cutsTo ps wide k) ∧ hasTo ps wide k ∧ Below w1.heap.size w1 wr) (fun _ i _ => m - (intOf i).toNat)
      case atStart => exact ⟨0, Nat.zero_le _, rfl, HO1.out, fun i hi => absurd hi (by omega), HB1.out⟩
      case round =>
        obtain ⟨k, hk, rfl, hown, hh, hww⟩ := hrel
        have HB := Lib.hid hww
        have HH := Lib.hid hh
        have hwr : w1.heap.size ≤ wr.heap.size := hww.size
        by_cases hlt : k < m
        · obtain rfl := HA.out (by omega)
          have hkp : k < ps.length := by have := HPM.out; omega
          obtain ⟨c0, c1, c2⟩ := ((HC.out.below HQ.out).below hww) k hkp
          have hokk := HO.out k hkp
          unfold okX at hokk
          have hcl := cutsTo_len ps wide k
          have HSU := Lib.hid (cutsTo_succ ps wide k)
          obtain ⟨cs, hcs⟩ : ∃ l, cutsTo ps wide k = l := ⟨_, rfl⟩
          rw [hcs] at hown hcl HSU
          have hcin := cutB_in (wide := wide) hokk
          have HSC : Hid (∀ W, Calls Try.prog 19 #[.agg #[.int .i8 (ps.getD k (0, 0, 0)).1, .int .i8 (ps.getD k (0, 0, 0)).2.1, .int .i8 (ps.getD k (0, 0, 0)).2.2], .int .i64 wide] W fun e w' => e = .returned (.int .i64 (cutAt ps wide k)) ∧ Below W.heap.size W w') := Lib.hid (fun W => scut_any _ _ _ wide hokk W)
          have HCA : Hid (cutB (ps.getD k (0, 0, 0)).1 (ps.getD k (0, 0, 0)).2.1 (ps.getD k (0, 0, 0)).2.2 wide = cutAt ps wide k) := Lib.hid rfl
          rw [HCA.out] at hcin
          clear HCA
          obtain ⟨q, hq⟩ : ∃ q, ps.getD k (0, 0, 0) = q := ⟨_, rfl⟩
          rw [hq] at c0 c1 c2 HSC
          obtain ⟨x0, x1, x2⟩ := q
          simp only at c0 c1 c2 HSC
          obtain ⟨cv, hcv⟩ : ∃ q, cutAt ps wide k = q := ⟨_, rfl⟩
          have H6' : Hid (cv < 0 → cfC ps wide = 6 ∧ cfR ps wide = []) := Lib.hid (fun h => H6.out k hkp (by rw [hcv]; exact h))
          have HHS : Hid (0 ≤ cv → hasTo ps wide (k + 1)) := Lib.hid (fun h => HH.out.succ (by rw [hcv]; exact h))
          rw [hcv] at HSC hcin HSU
          obtain ⟨cl, cu⟩ := hcin
          have HOW := Lib.hid hown
          have HCL := Lib.hid hcl
          have hkl : (k : Int) < (m : Int) := by omega
          clear hq hcs hcv hokk hww hown hcl hh
          by_cases t : cv < 0
          · have d1 : decide (cv < 0) = true := decide_eq_true t
            have HR := Lib.hid (H6'.out t)
            go_wp2_with fail
            refine (HSC.out _).mono ?_
            rintro e w2 ⟨rfl, b2⟩
            go_wp2_with fail
            go_ret2
            exact ⟨_, by rw [HR.out.1]; rfl, by rw [HR.out.2]; exact (show OwnI w2.heap.size _ _ [] from World.ownsRow_made w2 #[] 0 (Nat.le_refl _) (Nat.zero_le _) rfl).mono (by have := b2.size; omega), ((HQ.out.trans (HB.out.mono hs01)).trans (b2.mono (by omega))).alloc (by have := b2.size; omega) _⟩
          · have d1 : decide (cv < 0) = false := decide_eq_false t
            have HS2 := Lib.hid (HHS.out (by omega))
            go_wp2_with fail
            refine (HSC.out _).mono ?_
            rintro e w2 ⟨rfl, b2⟩
            have ho2 : Hid (OwnI w1.heap.size w2 u6 cs) := Lib.hid (HOW.out.below b2)
            have hs2 := b2.size
            have HB2 : Hid (Below w1.heap.size w1 w2) := Lib.hid (HB.out.trans (b2.mono hwr))
            go_wp2_with (at_builtin; refine wpList_append_own _ rfl _ _ 32 rfl w1.heap.size 2 i0 (.int .i64 0) 1 8 Try.underlying32 hi hz0 hz1 hz2 rfl (by decide) _ _ _ rfl (ho2.out.alloc _) ⟨w2.heap.size, 0, none⟩ 1 1 [.int .i64 cv] rfl rfl (cell_one_new w2 _ _) (ints_oneCell .i64 [cv]) (by have := HCL.out; unfold maxLen; omega) (by have := HCL.out; omega) (by simp; omega) ?_)
            intro v' w3 hown' hgrow _
            have HO3 : Hid (OwnI w1.heap.size w3 v' (cutsTo ps wide (k + 1))) := Lib.hid (by rw [HSU.out]; unfold OwnI; rw [List.map_append, List.length_append]; exact hown')
            have HB3 : Hid (Below w1.heap.size w1 w3) := Lib.hid ((HB2.out.alloc (by omega) _).grown hgrow (by simp; omega) (fun k e => (ho2.out.block k e).1))
            clear hown' hgrow
            go_wp2_with fail
            go_roundw
            case rel => exact ⟨k + 1, by omega, by go_num, HO3.out, HS2.out, HB3.out⟩
            case measure => simp [intOf]; omega
        · have hk' : k = m := by omega
          have HAL : Hid (hasTo ps wide ps.length) := Lib.hid (by rw [HPM.out, ← hk']; exact hh)
          have HR := Lib.hid (H0.out HAL.out)
          have HOF : Hid (OwnI w.heap.size wr u6 (cfR ps wide)) := Lib.hid (by rw [HR.out.2, ← cutsTo_all, HPM.out, ← hk']; exact hown.mono hs01)
          clear hk' hown hh hww
          go_wp2_with fail
          go_ret2
          exact ⟨_, by rw [HR.out.1]; rfl, HOF.out, HQ.out.trans (HB.out.mono hs01)⟩
    · have g2 : inB wide 1 400 = false := by simpa using g2
      have HG2 := Lib.hid g2
      have HR := Lib.hid (cf_2 g g2)
      clear g g2 ha hc hv
      go_enter Try.func9, Try.ntmps9
      go_wp2_with fail
      refine (svldX_any _ ps _ HV.out hfit hx).mono ?_
      rintro e w1 ⟨rfl, q1⟩
      rw [HG.out]
      go_wp2_with (go_at_call 18; refine (in_any _ _ _ _).mono ?_; rintro e w2 ⟨rfl, hw2⟩; rw [hw2, HG2.out]; clear hw2 w2)
      go_ret2
      exact ⟨_, by rw [HR.out.1]; rfl, by rw [HR.out.2]; exact (show OwnI w1.heap.size _ _ [] from World.ownsRow_made w1 #[] 0 (Nat.le_refl _) (Nat.zero_le _) rfl).mono q1.size, q1.alloc q1.size _⟩
  · have g : vldX ps = false := by simpa using g
    have HG := Lib.hid g
    have HR := Lib.hid (cf_1 (wide := wide) g)
    clear g ha hc hv
    go_enter Try.func9, Try.ntmps9
    go_wp2_with fail
    refine (svldX_any _ ps _ HV.out hfit hx).mono ?_
    rintro e w1 ⟨rfl, q1⟩
    rw [HG.out]
    go_wp2_with fail
    go_ret2
    exact ⟨_, by rw [HR.out.1]; rfl, by rw [HR.out.2]; exact (show OwnI w1.heap.size _ _ [] from World.ownsRow_made w1 #[] 0 (Nat.le_refl _) (Nat.zero_le _) rfl).mono q1.size, q1.alloc q1.size _⟩
end Go.Proofs.Ytpefkdhmkamdaaa
