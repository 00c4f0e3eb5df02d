/-
  RefundOf: the program's, whatever the arguments are.
-/
import Derived.Test.YtgimpmdiilmkoaaDoorRfT
namespace Go.Proofs.YtgimpmdiilmkoaaDoor
open Go Go.RowKit
set_option linter.unusedVariables false

set_option maxHeartbeats 4000000 in
theorem iclos_any (bx bz : Nat) (a a2 a3 : Option Addr) (b b3 m cap n cap2 l cap3 : Nat) (days : Int) (ps : List Q5) (ms : List Q3) (hpm : ps.length = m) (hpl : ms.length = l) (hm : m ≤ 40) (hn : n ≤ 40) (hl : l ≤ 1048576)
    (ha : m ≠ 0 → a = some ⟨b, 0, none⟩) (ha3 : l ≠ 0 → a3 = some ⟨b3, 0, none⟩) (hok : OkOdTo ps ps.length) (hfm : FitsMa ms) (w : World) (hc : CellsSo w b (ps.map soldO)) (hc3 : CellsMa w b3 ms)
    (x0 : w.cell? ⟨bx, 0, none⟩ = some (.slice a m cap)) (x1 : w.cell? ⟨bx, 1, none⟩ = some (.slice a2 n cap2)) (x2 : w.cell? ⟨bx, 2, none⟩ = some (.int .i64 days)) (z0 : w.cell? ⟨bz, 0, none⟩ = some (.slice a3 l cap3)) :
    Calls Tryd.prog 83 #[.pointer (some ⟨bx, 0, none⟩), .pointer (some ⟨bz, 0, none⟩)] w fun e w' => e = refEnd ps ms (allMa m n ms) ∧ Below w.heap.size w w' := by
  have hrf := (irefund_any a a2 a3 b b3 m cap n cap2 l cap3 days ps ms hpm hpl hm hn hl ha ha3 hok hfm w hc hc3)
  clear hpm hpl ha ha3 hok hfm hc hc3
  cases hA : allMa m n ms
  · rw [hA, refEnd_no] at hrf
    rw [refEnd_no]
    have HR := Lib.hid hrf
    clear hA hrf
    go_enter Tryd.func83, Tryd.ntmps83
    go_wp2_with (go_at_call 84; refine HR.out.mono ?_; rintro e w2 ⟨rfl, b2⟩)
    exact ⟨rfl, rfl, b2⟩
  · rw [hA, refEnd_ok] at hrf
    rw [refEnd_ok]
    have HR := Lib.hid hrf
    clear hA hrf
    go_enter Tryd.func83, Tryd.ntmps83
    go_wp2_with (go_at_call 84; refine HR.out.mono ?_; rintro e w2 ⟨rfl, b2⟩)
    go_ret
    exact ⟨rfl, b2⟩

set_option maxHeartbeats 8000000 in
set_option maxRecDepth 100000 in
theorem irefOf_any (v u x : Value) (ps : List Q5) (rs : List Q4) (ms : List Q3) (w : World) (hv : ReadsOd w v ps) (hu : ReadsRt w u rs) (hxr : ReadsMa w x ms) (hfo : FitsOd ps) (hfr : FitsRt rs) (hfm : FitsMa ms) (hx : ps.length ≤ 1048576) (hy : rs.length ≤ 1048576) (hz : ms.length ≤ 1048576) :
    Calls Tryd.prog 49 #[v, u, x] w fun e w' => e = .returned (.tuple #[.int .i64 (rfRes ps rs ms), .int .i64 (rfC ps rs ms)]) ∧ Below w.heap.size w w' := by
  have hmf : ∀ (fn : Fn) (first cap : Array Value) (w : World), (Instr.makeFunc fn first cap).run Tryd.prog w = .ok (.func fn first cap) w := fun _ _ _ _ => rfl
  have HV := Lib.hid hv
  have HU := Lib.hid hu
  obtain ⟨a3, b3, cap3, rfl, ha3, hc3⟩ := cells_orM hxr
  obtain ⟨l, hl'⟩ : ∃ l, ms.length = l := ⟨_, rfl⟩
  rw [hl'] at hz ha3 ⊢
  have HPL := Lib.hid hl'
  have HA3 := Lib.hid ha3
  have HC3 := Lib.hid hc3
  clear hl' ha3 hc3 hxr hv hu
  by_cases g : (vldOd ps && vldRt rs) = true
  · obtain ⟨g1, g2⟩ : vldOd ps = true ∧ vldRt rs = true := by simpa using g
    obtain ⟨hm, hok⟩ := vldOd_spec g1
    obtain ⟨hn, hok2⟩ := vldRt_spec g2
    have HO := Lib.hid hok
    have HG1 := Lib.hid g1
    have HG2 := Lib.hid g2
    obtain ⟨m, hm'⟩ : ∃ m, ps.length = m := ⟨_, rfl⟩
    obtain ⟨n, hn'⟩ : ∃ n, rs.length = n := ⟨_, rfl⟩
    have HPM := Lib.hid hm'
    have HPN := Lib.hid hn'
    have HV2 : Hid (tryV ps ms (allMa m n ms) = .tuple #[.int .i64 (rfRes ps rs ms), .int .i64 (rfC ps rs ms)]) := Lib.hid (by
      cases hA : allMa m n ms
      · obtain ⟨q1, q2⟩ := rf_2 (ms := ms) g (by rw [hm', hn']; exact hA)
        rw [tryV_no, q1, q2]
      · obtain ⟨q1, q2⟩ := rf_0 (ms := ms) g (by rw [hm', hn']; exact hA)
        rw [tryV_ok, q1, q2])
    obtain ⟨r0, hr0⟩ : ∃ q, rfRes ps rs ms = q := ⟨_, rfl⟩
    obtain ⟨r1, hr1⟩ : ∃ q, rfC ps rs ms = q := ⟨_, rfl⟩
    rw [hr0, hr1] at HV2 ⊢
    rw [hm'] at hm
    rw [hn'] at hn
    clear g g1 g2 hok hok2 hm' hn' hr0 hr1
    go_enter Tryd.func49, Tryd.ntmps49
    go_wp2_with fail
    obtain ⟨w0, e0⟩ : ∃ V, w.alloc (.cells #[.slice a3 l cap3] 55) = V := ⟨_, rfl⟩
    have s0 : w0.heap.size = w.heap.size + 1 := by rw [← e0]; simp
    have y0 : w0.cell? ⟨w.heap.size, 0, none⟩ = some (.slice a3 l cap3) := by rw [← e0]; simp
    have hB0 : Below w.heap.size w w0 := by rw [← e0]; exact (Below.refl _ _).alloc (Nat.le_refl _) _
    rw [e0]
    clear e0
    refine (ibooks_ok _ _ ps rs 0 _ (HV.out.below hB0) (HU.out.below hB0) hfo hfr HG1.out HG2.out (by decide)).mono ?_
    rintro e w1 ⟨v0, v1, rfl, ho0, ho1, q1⟩
    obtain ⟨a, b, cap, rfl, ha, hc⟩ := cells_orS ho0.reads
    obtain ⟨a2, b2, cap2, rfl, ha2, hc2⟩ := cells_orE ho1.reads
    have HA : Hid (m ≠ 0 → a = some ⟨b, 0, none⟩) := Lib.hid (fun h => ha (by simpa [HPM.out] using h))
    rw [show (ps.map soldO).length = m by simpa using HPM.out, HPN.out]
    have HC := Lib.hid hc
    have hs01 := q1.size
    have y1 : w1.cell? ⟨w.heap.size, 0, none⟩ = some (.slice a3 l cap3) := (q1.cell (p := ⟨w.heap.size, 0, none⟩) (by simp only; omega)).trans y0
    have HQ : Hid (Below w.heap.size w w1) := Lib.hid (blink hB0 q1)
    clear hc hc2 ha ha2 ho0 ho1 q1 hB0 y0
    obtain ⟨W1, e1⟩ : ∃ V, w1.alloc (.cells #[.slice a m cap, .slice a2 n cap2, .int .i64 0] 84) = V := ⟨_, rfl⟩
    have s1 : W1.heap.size = w1.heap.size + 1 := by rw [← e1]; simp
    have z0 : W1.cell? ⟨w1.heap.size, 0, none⟩ = some (.slice a m cap) := by rw [← e1]; simp
    have z1 : W1.cell? ⟨w1.heap.size, 1, none⟩ = some (.slice a2 n cap2) := by rw [← e1]; simp
    have z2 : W1.cell? ⟨w1.heap.size, 2, none⟩ = some (.int .i64 0) := by rw [← e1]; simp
    have hB1 : Below w1.heap.size w1 W1 := by rw [← e1]; exact (Below.refl _ _).alloc (Nat.le_refl _) _
    have y2 : W1.cell? ⟨w.heap.size, 0, none⟩ = some (.slice a3 l cap3) := (hB1.cell (p := ⟨w.heap.size, 0, none⟩) (by simp only; omega)).trans y1
    have HE1 := Lib.hid e1
    have HT := Lib.hid (itry_any ⟨w1.heap.size, 0, none⟩ ⟨w.heap.size, 0, none⟩ ps ms (allMa m n ms) W1 (fun W hb =>
      iclos_any w1.heap.size w.heap.size a a2 a3 b b3 m cap n cap2 l cap3 0 ps ms HPM.out HPL.out hm hn hz HA.out HA3.out HO.out hfm W ((HC.out.below hB1).below hb) (((HC3.out.below HQ.out).below hB1).below hb)
        ((hb.cell (p := ⟨w1.heap.size, 0, none⟩) (by simp only; omega)).trans z0) ((hb.cell (p := ⟨w1.heap.size, 1, none⟩) (by simp only; omega)).trans z1) ((hb.cell (p := ⟨w1.heap.size, 2, none⟩) (by simp only; omega)).trans z2) ((hb.cell (p := ⟨w.heap.size, 0, none⟩) (by simp only; omega)).trans y2)))
    have HB1 := Lib.hid hB1
    clear e1 z0 z1 z2 y1 y2 hB1
    go_wp2_with (go_at_call 82; rw [HE1.out]; refine HT.out.mono ?_; rintro e w4 ⟨rfl, b4⟩; rw [HV2.out])
    go_ret2
    exact ⟨rfl, (HQ.out.trans (HB1.out.mono (by omega))).trans (b4.mono (by omega))⟩
  · have g : (vldOd ps && vldRt rs) = false := by simpa using g
    have hb0 : bkC ps rs (dayB 0) = 1 := bkC_1 g
    have H1 := Lib.hid (rf_1 (ms := ms) g)
    have HB0 := Lib.hid hb0
    clear g hb0
    go_enter Tryd.func49, Tryd.ntmps49
    go_wp2_with fail
    have hB0 : Below w.heap.size w (w.alloc (.cells #[.slice a3 l cap3] 55)) := (Below.refl _ _).alloc (Nat.le_refl _) _
    refine (ibooks_no _ _ ps rs 0 1 _ (HV.out.below hB0) (HU.out.below hB0) hfo hfr hx hy HB0.out (by decide)).mono ?_
    rintro e w1 ⟨rfl, q1⟩
    rw [errV_1]
    unfold noBooks
    have HQ : Hid (Below w.heap.size w w1) := Lib.hid (blink hB0 q1)
    have hs01 := HQ.out.size
    clear q1 hB0
    go_wp2_with (go_at_call 57; refine (code_A _).mono ?_; rintro e w4 ⟨rfl, b4⟩)
    go_ret2
    exact ⟨ret_tw' ⟨H1.out.2.symm, H1.out.1.symm⟩, (HQ.out.trans (Below.alloc (Below.refl _ _) hs01 _)).trans (b4.mono (by simp; omega))⟩
end Go.Proofs.YtgimpmdiilmkoaaDoor
