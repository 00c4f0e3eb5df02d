/-
  PayVouchers: both sides, whatever the arguments are.
-/
import Derived.Test.YtgimpmdiilmkoaaDoorPvZ
import Derived.Test.YtgimpmdiilmkoaaDoorKeepO
namespace Go.Proofs.YtgimpmdiilmkoaaDoor
open Go Go.RowKit
set_option linter.unusedVariables false

theorem pay_none (day due : Int) : payL [] day due = [] ∧ payD [] day due = due := ⟨rfl, rfl⟩
theorem cells_vo {w : World} {v : Value} {ps : List (Int × Int)} (h : ReadsVo w v ps) (hn : ps ≠ []) : ∃ b cap, v = .slice (some ⟨b, 0, none⟩) ps.length cap ∧ CellsVo w b ps := by
  obtain ⟨a, cap, rfl, h⟩ := h
  obtain ⟨b, rfl, hc⟩ := h hn
  exact ⟨b, cap, rfl, hc⟩
theorem spay_all (v : Value) (ps : List (Int × Int)) (day due : Int) (h12 : ps.length ≤ 12) (hok : OkVoTo ps ps.length) (h0 : 0 ≤ due) (hM : due ≤ 1000000) (w : World) (hv : ReadsVo w v ps) :
    Calls Tryd.prog 70 #[v, .int .i64 day, .int .i64 due] w fun e w' => ∃ u, e = .returned (.tuple #[u, .int .i64 (payD ps day due)]) ∧ OwnVo 101 w.heap.size w' u (payL ps day due) ∧ Below w.heap.size w w' := by
  by_cases h : ps = []
  · subst h
    obtain ⟨a, cap, rfl, _⟩ := hv
    exact spay_nil a cap day due w
  · obtain ⟨b, cap, rfl, hc⟩ := cells_vo hv h
    have hp : 1 ≤ ps.length := by cases ps with | nil => exact absurd rfl h | cons => simp
    exact spay_row b ps.length cap ps day due rfl h12 hp hok h0 hM w hc
theorem ipay_all (v : Value) (ps : List (Int × Int)) (day due : Int) (h12 : ps.length ≤ 12) (hok : OkVoTo ps ps.length) (h0 : 0 ≤ due) (hM : due ≤ 1000000) (w : World) (hv : ReadsVo w v ps) :
    Calls Tryd.prog 71 #[v, .int .i64 day, .int .i64 due] w fun e w' => ∃ u, e = .returned (.tuple #[u, .int .i64 (payD ps day due)]) ∧ OwnVo 101 w.heap.size w' u (payL ps day due) ∧ Below w.heap.size w w' := by
  by_cases h : ps = []
  · subst h
    obtain ⟨a, cap, rfl, _⟩ := hv
    exact ipayWith_nil a cap day due w
  · obtain ⟨b, cap, rfl, hc⟩ := cells_vo hv h
    have hp : 1 ≤ ps.length := by cases ps with | nil => exact absurd rfl h | cons => simp
    refine (ipayWith_row b ps.length cap ps day due rfl h12 hp hok h0 hM w hc).mono ?_
    rintro e w' ⟨u, ms, rfl, hp, hs, ho, hb⟩
    obtain rfl := sorted_is hp hs
    exact ⟨u, rfl, ho, hb⟩

/-- The answer. -/
def pvC (ps : List (Int × Int)) (day due : Int) : Int := askC ps day [due]
def pvL (ps : List (Int × Int)) (day due : Int) : List (Int × Int) := if pvC ps day due = 0 then payL ps day due else []
def pvD (ps : List (Int × Int)) (day due : Int) : Int := if pvC ps day due = 0 then payD ps day due else 0
theorem pvL_len (ps : List (Int × Int)) (day due : Int) : (pvL ps day due).length ≤ 12 := by
  unfold pvL
  split
  · rename_i h
    rw [payL_len]
    cases hq : vldVo ps
    · unfold pvC at h; rw [askC_1 hq] at h; exact absurd h (by decide)
    · exact (vldVo_spec hq).1
  · simp
theorem OwnVo.out {T : TypeId} {B lo hi : Nat} {w w' : World} {v : Value} {ps : List (Int × Int)} (h : OwnVo T B w v ps) (K : KeepsOut lo hi w w') (hd : ∀ k, v.ownBlock = some k → k < lo ∨ hi ≤ k) : OwnVo T B w' v ps := row_out h K hd
theorem pv_no {ps : List (Int × Int)} {day due c : Int} (h : pvC ps day due = c) (hc : c ≠ 0) : pvL ps day due = [] ∧ pvD ps day due = 0 := ⟨if_neg (by rw [h]; exact hc), if_neg (by rw [h]; exact hc)⟩
theorem pv_ok {ps : List (Int × Int)} {day due : Int} (h : pvC ps day due = 0) : pvL ps day due = payL ps day due ∧ pvD ps day due = payD ps day due := ⟨if_pos h, if_pos h⟩
theorem ret_pv {v : Value} {a b c d : Int} (h : a = c ∧ b = d) : Ending.returned (.tuple #[v, .int .i64 a, .int .i64 b]) = .returned (.tuple #[v, .int .i64 c, .int .i64 d]) := by rw [h.1, h.2]

theorem samt_any (n : Int) (w : World) : Calls Tryd.prog 69 #[.int .i64 n] w fun e w' => e = .returned (.bool (betwB [n] 0 1000000)) ∧ w' = w := by
  have HE : Hid (betwB [n] 0 1000000 = inB n 0 1000000) := Lib.hid (by rw [betw1]; rfl)
  go_enter Tryd.func69, Tryd.ntmps69
  go_wp2_with (go_at_call 72; refine (in_any _ _ _ _).mono ?_; rintro e w2 ⟨rfl, hw2⟩; subst hw2)
  go_ret
  exact ⟨(ret_bool HE.out).symm, rfl⟩

set_option maxHeartbeats 4000000 in
set_option maxRecDepth 100000 in
theorem spv_any (v : Value) (ps : List (Int × Int)) (day due : Int) (w : World) (hv : ReadsVo w v ps) (hfit : FitsVo ps) (hx : ps.length ≤ 1048576) :
    Calls Tryd.prog 27 #[v, .int .i64 day, .int .i64 due] w fun e w' => ∃ u, e = .returned (.tuple #[u, .int .i64 (pvD ps day due), .int .i64 (pvC ps day due)]) ∧ OwnVo 101 w.heap.size w' u (pvL ps day due) ∧ Below w.heap.size w w' := by
  have HV := Lib.hid hv
  by_cases h : vldVo ps = true
  · have HVL := Lib.hid h
    obtain ⟨h12, hok⟩ := vldVo_spec h
    obtain ⟨B, hB⟩ : ∃ B, betwB [due] 0 1000000 = B := ⟨_, rfl⟩
    obtain ⟨D, hD⟩ : ∃ D, dayB day = D := ⟨_, rfl⟩
    have HBB := Lib.hid hB
    have HDD := Lib.hid hD
    by_cases g : (D && B) = true
    · obtain ⟨rfl, rfl⟩ : D = true ∧ B = true := by simpa using g
      have hc : pvC ps day due = 0 := askC_0 h (by simp) (by rw [hB, hD]; rfl)
      rw [hc, (pv_ok hc).1, (pv_ok hc).2]
      rw [betw1] at hB
      have hd := of_decide_eq_true hB
      clear h g hB hD hc hv
      go_enter Tryd.func27, Tryd.ntmps27
      go_wp2_with fail
      refine (sokVo_any _ ps _ HV.out hfit hx).mono ?_
      rintro e w2 ⟨rfl, b2⟩
      rw [HVL.out]
      go_wp2_with (first | (go_at_call 68; refine (sdays_any _ _).mono ?_; rintro e w3 ⟨rfl, hw3⟩; rw [hw3, HDD.out]; clear hw3 w3) | (go_at_call 69; refine (samt_any _ _).mono ?_; rintro e w3 ⟨rfl, hw3⟩; rw [hw3, HBB.out]; clear hw3 w3))
      refine (spay_all _ ps day due h12 hok hd.1 hd.2 _ (HV.out.below b2)).mono ?_
      rintro e w4 ⟨u, rfl, ho, b4⟩
      obtain ⟨xa, xl, xc, rfl⟩ : ∃ a l c, u = .slice a l c := by
        rcases ho.2 with ⟨rfl, _⟩ | ⟨g, cap, cur, rfl, _⟩
        · exact ⟨_, _, _, rfl⟩
        · exact ⟨_, _, _, rfl⟩
      have HO := Lib.hid (OwnVo.mono ho b2.size)
      have HB := Lib.hid (blink b2 b4)
      clear ho b4
      go_wp2_with fail
      go_ret3
      exact ⟨_, rfl, HO.out, HB.out⟩
    · have g : (D && B) = false := by simpa using g
      have hc : pvC ps day due = 2 := askC_2 h (by simp) (by rw [hB, hD]; exact g)
      rw [hc, (pv_no hc (by decide)).1, (pv_no hc (by decide)).2]
      clear h hB hD hc hv
      cases D
      · clear g
        go_enter Tryd.func27, Tryd.ntmps27
        go_wp2_with fail
        refine (sokVo_any _ ps _ HV.out hfit hx).mono ?_
        rintro e w2 ⟨rfl, b2⟩
        rw [HVL.out]
        have HO : Hid ((w2.alloc (.cells #[] 101)).ownsRow w2.heap.size 101 2 (.slice (some ⟨w2.heap.size, 0, none⟩) 0 0) 0 []) := Lib.hid (World.ownsRow_made w2 #[] 0 (Nat.le_refl _) (Nat.zero_le _) rfl)
        go_wp2_with (first | (go_at_call 68; refine (sdays_any _ _).mono ?_; rintro e w3 ⟨rfl, hw3⟩; rw [hw3, HDD.out]; clear hw3 w3) | (go_at_call 69; refine (samt_any _ _).mono ?_; rintro e w3 ⟨rfl, hw3⟩; rw [hw3, HBB.out]; clear hw3 w3))
        go_ret3
        exact ⟨_, rfl, OwnVo.mono (show OwnVo 101 w2.heap.size _ _ [] from HO.out) b2.size, b2.alloc b2.size _⟩
      · have hBf : B = false := by simpa using g
        subst hBf
        clear g
        go_enter Tryd.func27, Tryd.ntmps27
        go_wp2_with fail
        refine (sokVo_any _ ps _ HV.out hfit hx).mono ?_
        rintro e w2 ⟨rfl, b2⟩
        rw [HVL.out]
        have HO : Hid ((w2.alloc (.cells #[] 101)).ownsRow w2.heap.size 101 2 (.slice (some ⟨w2.heap.size, 0, none⟩) 0 0) 0 []) := Lib.hid (World.ownsRow_made w2 #[] 0 (Nat.le_refl _) (Nat.zero_le _) rfl)
        go_wp2_with (first | (go_at_call 68; refine (sdays_any _ _).mono ?_; rintro e w3 ⟨rfl, hw3⟩; rw [hw3, HDD.out]; clear hw3 w3) | (go_at_call 69; refine (samt_any _ _).mono ?_; rintro e w3 ⟨rfl, hw3⟩; rw [hw3, HBB.out]; clear hw3 w3))
        go_ret3
        exact ⟨_, rfl, OwnVo.mono (show OwnVo 101 w2.heap.size _ _ [] from HO.out) b2.size, b2.alloc b2.size _⟩
  · have h : vldVo ps = false := by simpa using h
    have HVL := Lib.hid h
    have hc : pvC ps day due = 1 := askC_1 h
    rw [hc, (pv_no hc (by decide)).1, (pv_no hc (by decide)).2]
    clear h hc hv
    go_enter Tryd.func27, Tryd.ntmps27
    go_wp2_with fail
    refine (sokVo_any _ ps _ HV.out hfit hx).mono ?_
    rintro e w2 ⟨rfl, b2⟩
    rw [HVL.out]
    have HO : Hid ((w2.alloc (.cells #[] 101)).ownsRow w2.heap.size 101 2 (.slice (some ⟨w2.heap.size, 0, none⟩) 0 0) 0 []) := Lib.hid (World.ownsRow_made w2 #[] 0 (Nat.le_refl _) (Nat.zero_le _) rfl)
    go_wp2_with fail
    go_ret3
    exact ⟨_, rfl, OwnVo.mono (show OwnVo 101 w2.heap.size _ _ [] from HO.out) b2.size, b2.alloc b2.size _⟩

set_option maxHeartbeats 4000000 in
set_option maxRecDepth 100000 in
theorem ipv_any (v : Value) (ps : List (Int × Int)) (day due : Int) (w : World) (hv : ReadsVo w v ps) (hfit : FitsVo ps) (hx : ps.length ≤ 1048576) :
    Calls Tryd.prog 28 #[v, .int .i64 day, .int .i64 due] w fun e w' => ∃ u, e = .returned (.tuple #[u, .int .i64 (pvD ps day due), .int .i64 (pvC ps day due)]) ∧ OwnVo 101 w.heap.size w' u (pvL ps day due) ∧ Below w.heap.size w w' := by
  have HV := Lib.hid hv
  have hin := askC_in ps day [due]
  obtain ⟨c, hc⟩ : ∃ c, askC ps day [due] = c := ⟨_, rfl⟩
  have hpc : pvC ps day due = c := hc
  rw [hc] at hin
  have HIN := Lib.hid hin
  have HAC := Lib.hid hc
  rw [hpc]
  have hB1 : Below w.heap.size w (w.alloc (.cells #[.int .i64 due] 2)) := (Below.refl _ _).alloc (Nat.le_refl _) _
  have HCK := Lib.hid (icheckV_any v (.slice (some ⟨w.heap.size, 0, none⟩) 1 1) ps day [due] _ (hv.below hB1) hfit hx (reads1 rfl) (by simp))
  rw [hc] at HCK
  by_cases h : c = 0
  · subst h
    have hvl : vldVo ps = true := by
      cases hq : vldVo ps
      · rw [askC_1 hq] at hc; exact absurd hc (by decide)
      · rfl
    obtain ⟨h12, hok⟩ := vldVo_spec hvl
    have hbd : (dayB day && betwB [due] 0 1000000) = true := by
      cases hq : (dayB day && betwB [due] 0 1000000)
      · rw [askC_2 hvl (by simp) hq] at hc; exact absurd hc (by decide)
      · rfl
    have hb2 : betwB [due] 0 1000000 = true := by
      cases hq : betwB [due] 0 1000000
      · rw [hq] at hbd; simp at hbd
      · rfl
    rw [betw1] at hb2
    have hd := of_decide_eq_true hb2
    rw [(pv_ok hpc).1, (pv_ok hpc).2]
    clear hin hc hpc hv hvl hbd hb2 hB1
    go_enter Tryd.func28, Tryd.ntmps28
    go_wp2_with fail
    refine HCK.out.mono ?_
    rintro e w2 ⟨rfl, b2⟩
    have HB2 : Hid (Below w.heap.size w w2) := Lib.hid (((Below.refl _ _).alloc (Nat.le_refl _) _).trans (b2.mono (by simp)))
    clear b2
    go_wp2_with fail
    refine (code_any 0 (.inl rfl) _).mono ?_
    rintro e w3 ⟨rfl, b3⟩
    have HB3 : Hid (Below w.heap.size w w3) := Lib.hid (blink HB2.out b3)
    clear b3
    go_wp2_with fail
    refine (ipay_all _ ps day due h12 hok hd.1 hd.2 _ (HV.out.below HB3.out)).mono ?_
    rintro e w4 ⟨u, rfl, ho, b4⟩
    obtain ⟨xa, xl, xc, rfl⟩ : ∃ a l c, u = .slice a l c := by
      rcases ho.2 with ⟨rfl, _⟩ | ⟨g, cap, cur, rfl, _⟩
      · exact ⟨_, _, _, rfl⟩
      · exact ⟨_, _, _, rfl⟩
    have HO := Lib.hid (OwnVo.mono ho HB3.out.size)
    have HB := Lib.hid (blink HB3.out b4)
    clear ho b4
    go_wp2_with fail
    go_ret3
    exact ⟨_, rfl, HO.out, HB.out⟩
  · rw [(pv_no hpc h).1, (pv_no hpc h).2]
    have hcz : (c == 0) = false := by simpa using h
    clear hin hc hpc hv hB1 h
    go_enter Tryd.func28, Tryd.ntmps28
    go_wp2_with fail
    refine HCK.out.mono ?_
    rintro e w2 ⟨rfl, b2⟩
    have HB2 : Hid (Below w.heap.size w w2) := Lib.hid (((Below.refl _ _).alloc (Nat.le_refl _) _).trans (b2.mono (by simp)))
    clear b2
    go_wp2_with fail
    refine (code_any c HIN.out _).mono ?_
    rintro e w3 ⟨rfl, b3⟩
    have HB3 : Hid (Below w.heap.size w w3) := Lib.hid (blink HB2.out b3)
    clear b3
    go_wp2_with fail
    go_ret3
    exact ⟨_, rfl, World.ownsRow_nil _ _ _ _, HB3.out⟩
end Go.Proofs.YtgimpmdiilmkoaaDoor
