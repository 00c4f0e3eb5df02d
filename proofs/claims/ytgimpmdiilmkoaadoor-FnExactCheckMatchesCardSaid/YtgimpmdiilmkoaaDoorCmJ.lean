/-
  CheckMatches: the program's, whatever the arguments are.
-/
import Derived.Test.YtgimpmdiilmkoaaDoorCmR
import Derived.Test.YtgimpmdiilmkoaaDoorSwJ
namespace Go.Proofs.YtgimpmdiilmkoaaDoor
open Go Go.RowKit
set_option linter.unusedVariables false

theorem ret_cmJ {a b : Bool} {c d : Int} (h : a = b) (g : c = d) : Ending.returned (.tuple #[.bool a, .int .i64 c]) = .returned (.tuple #[.bool b, .int .i64 d]) := by rw [h, g]
set_option maxHeartbeats 8000000 in
set_option maxRecDepth 100000 in
theorem icheck_any (v u x : Value) (ps : List Q5) (rs : List Q4) (ms : List Q3) (days : Int) (w : World) (hv : ReadsOd w v ps) (hu : ReadsRt w u rs) (hxr : ReadsMa w x ms) (hfo : FitsOd ps) (hfr : FitsRt rs) (hfm : FitsMa ms) (hx : ps.length ≤ 1048576) (hy : rs.length ≤ 1048576) (hz : ms.length ≤ 1048576) :
    Calls Tryd.prog 38 #[v, u, .int .i64 days, x] w fun e w' => e = .returned (.tuple #[.bool (cmR ps rs days ms), .int .i64 (cmC ps rs days ms)]) ∧ Below w.heap.size w w' := by
  have HV := Lib.hid hv
  have HU := Lib.hid hu
  obtain ⟨a3, b3, cap3, rfl, ha3, hc3⟩ := cells_orM hxr
  obtain ⟨l, hl'⟩ : ∃ l, ms.length = l := ⟨_, rfl⟩
  rw [hl'] at hz ha3 ⊢
  have HPL := Lib.hid hl'
  have HA3 := Lib.hid ha3
  have HC3 := Lib.hid hc3
  by_cases hb : bkC ps rs (dayB days) = 0
  · obtain ⟨g1, g2, g3⟩ := bkC_ok hb
    obtain ⟨hm, hok⟩ := vldOd_spec g1
    obtain ⟨hn, hok2⟩ := vldRt_spec g2
    have HG1 := Lib.hid g1
    have HG2 := Lib.hid g2
    have HG3 := Lib.hid g3
    by_cases hl : 100 < ms.length
    · have hc := cm_long hb hl
      rw [hc, cm_no hc (by decide)]
      have hd100 : decide ((100 : Int) < (l : Int)) = true := decide_eq_true (by omega)
      clear hl' ha3 hc3 hxr hv hu hb hc hl g1 g2 g3 hok hok2
      go_enter Tryd.func38, Tryd.ntmps38
      go_wp2_with fail
      refine (ibooks_ok _ _ ps rs days _ HV.out HU.out hfo hfr HG1.out HG2.out HG3.out).mono ?_
      rintro e w1 ⟨v0, v1, rfl, ho0, ho1, q1⟩
      obtain ⟨a, b, cap, rfl, ha, hc⟩ := cells_orS ho0.reads
      obtain ⟨a2, b2, cap2, rfl, ha2, hc2⟩ := cells_orE ho1.reads
      have HQ := Lib.hid q1
      have hs01 := q1.size
      clear ho0 ho1 q1 ha hc ha2 hc2
      go_wp2_with (go_at_call 57; refine (code_C _).mono ?_; rintro e w4 ⟨rfl, b4⟩)
      go_ret2
      exact ⟨rfl, (HQ.out.trans (Below.alloc (Below.refl _ _) hs01 _)).trans (b4.mono (by simp; omega))⟩
    · obtain ⟨e1, e2⟩ := cm_ok hb hl
      rw [e1, e2]
      have hd100 : decide ((100 : Int) < (l : Int)) = false := decide_eq_false (by omega)
      have hl100 : l ≤ 100 := by omega
      have HNR : Hid (∀ r : Nat, r < rs.length → 0 ≤ numR rs r) := Lib.hid (fun r hr => by have h := (hok2 r hr).2.2.1.1; unfold numR; omega)
      have HNO : Hid (∀ o : Nat, o < ps.length → 0 ≤ numO ps o) := Lib.hid (fun o ho => by have h := (hok o ho).2.2.1.1; unfold numO; omega)
      obtain ⟨RB, hRB⟩ : ∃ B, rightB ps rs days ms = B := ⟨_, rfl⟩
      rw [hRB]
      have HRB := Lib.hid hRB
      clear hRB
      obtain ⟨m, hm'⟩ : ∃ m, ps.length = m := ⟨_, rfl⟩
      obtain ⟨n, hn'⟩ : ∃ n, rs.length = n := ⟨_, rfl⟩
      rw [hm'] at hm HNO
      rw [hn'] at hn HNR
      have HPM := Lib.hid hm'
      have HPN := Lib.hid hn'
      clear hl' ha3 hc3 hxr hv hu hb hl g1 g2 g3 hok hok2 e1 e2 hm' hn'
      go_enter Tryd.func38, Tryd.ntmps38
      go_wp2_with fail
      refine (ibooks_ok _ _ ps rs days _ HV.out HU.out hfo hfr HG1.out HG2.out HG3.out).mono ?_
      rintro e w1 ⟨v0, v1, rfl, ho0, ho1, q1⟩
      obtain ⟨a, b, cap, rfl, ha, hc⟩ := cells_orS ho0.reads
      obtain ⟨a2, b2, cap2, rfl, ha2, hc2⟩ := cells_orE ho1.reads
      have HA : Hid (m ≠ 0 → a = some ⟨b, 0, none⟩) := Lib.hid (fun h => ha (by simpa [HPM.out] using h))
      have HA2 : Hid (n ≠ 0 → a2 = some ⟨b2, 0, none⟩) := Lib.hid (fun h => ha2 (by simpa [HPN.out] using h))
      rw [show (ps.map soldO).length = m by simpa using HPM.out, HPN.out]
      have HQ := Lib.hid q1
      have hs01 := q1.size
      have hB1 : Below w1.heap.size w1 (w1.alloc (.cells #[.slice a m cap, .slice a2 n cap2, .int .i64 days] 84)) := (Below.refl _ _).alloc (Nat.le_refl _) _
      have HR := Lib.hid (iright_any a a2 a3 b b2 b3 m cap n cap2 l cap3 days ps rs ms HPM.out HPN.out HPL.out hm hn hl100 HA.out HA2.out HA3.out hfo hfr hfm HNR.out HNO.out _ (hc.below hB1) (hc2.below hB1) ((HC3.out.below q1).below (hB1.mono (by omega))))
      clear ho0 ho1 q1 ha hc ha2 hc2 hB1
      rw [HRB.out] at HR
      go_wp2_with (go_at_call 75; refine HR.out.mono ?_; rintro e w4 ⟨rfl, b4⟩)
      go_ret2
      exact ⟨rfl, (HQ.out.trans (Below.alloc (Below.refl _ _) hs01 _)).trans (b4.mono (by simp; omega))⟩
  · obtain ⟨c, hc⟩ : ∃ c, bkC ps rs (dayB days) = c := ⟨_, rfl⟩
    have hb : ¬ c = 0 := by rw [← hc]; exact hb
    have h1 := cm_bk (ms := ms) hc hb
    have hin := bkC_in ps rs (dayB days)
    rw [cm_no h1 hb, h1]
    have HB0 := Lib.hid hc
    rw [hc] at hin
    clear h1 hc hl' ha3 hc3 hxr hv hu
    rcases hin with rfl | rfl | rfl | rfl
    · exact absurd rfl hb
    all_goals
      clear hb
      go_enter Tryd.func38, Tryd.ntmps38
      go_wp2_with fail
      refine (ibooks_no _ _ ps rs days _ _ HV.out HU.out hfo hfr hx hy HB0.out (by decide)).mono ?_
      rintro e w1 ⟨rfl, q1⟩
      first | rw [errV_1] | rw [errV_2] | rw [errV_3]
      unfold noBooks
      have HQ := Lib.hid q1
      have hs01 := q1.size
      clear q1
      go_wp2_with (go_at_call 57; (first | refine (code_A _).mono ?_ | refine (code_B _).mono ?_ | refine (code_C _).mono ?_); rintro e w4 ⟨rfl, b4⟩)
      go_ret2
      exact ⟨rfl, (HQ.out.trans (Below.alloc (Below.refl _ _) hs01 _)).trans (b4.mono (by simp; omega))⟩
end Go.Proofs.YtgimpmdiilmkoaaDoor
