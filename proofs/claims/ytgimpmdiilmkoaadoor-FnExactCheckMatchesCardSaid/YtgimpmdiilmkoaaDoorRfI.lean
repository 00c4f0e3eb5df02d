/-
  RefundOf: the program's: hasBoth, refund (a sum, or a panic with a refusal), try (the refusal is recovered).
-/
import Derived.Test.YtgimpmdiilmkoaaDoorRfP
import Derived.Test.YtgimpmdiilmkoaaDoorSwJ
import Derived.Defers
import Derived.Recover
namespace Go.Proofs.YtgimpmdiilmkoaaDoor
open Go Go.RowKit Go.Extern.Stop Go.Stop
set_option linter.unusedVariables false

def hasB (r o n m : Int) : Bool := decide ((0 ≤ r ∧ r < n) ∧ (0 ≤ o ∧ o < m))
theorem hasB_true {r o n m : Int} (h : (0 ≤ r ∧ r < n) ∧ (0 ≤ o ∧ o < m)) : hasB r o n m = true := decide_eq_true h
theorem hasB_false {r o n m : Int} (h : ¬ ((0 ≤ r ∧ r < n) ∧ (0 ≤ o ∧ o < m))) : hasB r o n m = false := decide_eq_false h

set_option maxHeartbeats 4000000 in
theorem ihas_any (a a2 : Option Addr) (m cap n cap2 : Nat) (days r o x : Int) (hm : m ≤ 40) (hn : n ≤ 40) (hr : -128 ≤ r ∧ r ≤ 127) (ho : -128 ≤ o ∧ o ≤ 127) (w : World) :
    Calls Tryd.prog 101 #[.agg #[.slice a m cap, .slice a2 n cap2, .int .i64 days], .agg #[.int .i8 r, .int .i8 o, .int .i16 x]] w fun e w' => e = .returned (.bool (hasB r o n m)) ∧ Below w.heap.size w w' := by
  obtain ⟨hr1, hr2⟩ := hr
  obtain ⟨ho1, ho2⟩ := ho
  by_cases t1 : 0 ≤ r
  · have d1 : decide (0 ≤ r) = true := decide_eq_true t1
    by_cases t2 : r < (n : Int)
    · have d2 : decide (r < (n : Int)) = true := decide_eq_true t2
      by_cases t3 : 0 ≤ o
      · have d3 : decide (0 ≤ o) = true := decide_eq_true t3
        by_cases t4 : o < (m : Int)
        · have d4 : decide (o < (m : Int)) = true := decide_eq_true t4
          have H := Lib.hid (hasB_true ⟨⟨t1, t2⟩, t3, t4⟩)
          go_enter Tryd.func101, Tryd.ntmps101
          go_wp2_with fail
          go_ret
          exact ⟨(ret_bool H.out).symm, by repeat (first | exact Below.refl _ _ | refine Below.drew ?_ | refine Below.setCell ?_ (by first | (simp; done) | (simp; omega) | omega) _ | refine Below.alloc ?_ (by first | (simp; done) | (simp; omega) | omega) _)⟩
        · have d4 : decide (o < (m : Int)) = false := decide_eq_false t4
          have H := Lib.hid (hasB_false (r := r) (o := o) (n := n) (m := m) (fun h => t4 h.2.2))
          clear t4
          go_enter Tryd.func101, Tryd.ntmps101
          go_wp2_with fail
          go_ret
          exact ⟨(ret_bool H.out).symm, by repeat (first | exact Below.refl _ _ | refine Below.drew ?_ | refine Below.setCell ?_ (by first | (simp; done) | (simp; omega) | omega) _ | refine Below.alloc ?_ (by first | (simp; done) | (simp; omega) | omega) _)⟩
      · have d3 : decide (0 ≤ o) = false := decide_eq_false t3
        have H := Lib.hid (hasB_false (r := r) (o := o) (n := n) (m := m) (fun h => t3 h.2.1))
        clear t3
        go_enter Tryd.func101, Tryd.ntmps101
        go_wp2_with fail
        go_ret
        exact ⟨(ret_bool H.out).symm, by repeat (first | exact Below.refl _ _ | refine Below.drew ?_ | refine Below.setCell ?_ (by first | (simp; done) | (simp; omega) | omega) _ | refine Below.alloc ?_ (by first | (simp; done) | (simp; omega) | omega) _)⟩
    · have d2 : decide (r < (n : Int)) = false := decide_eq_false t2
      have H := Lib.hid (hasB_false (r := r) (o := o) (n := n) (m := m) (fun h => t2 h.1.2))
      clear t2
      go_enter Tryd.func101, Tryd.ntmps101
      go_wp2_with fail
      go_ret
      exact ⟨(ret_bool H.out).symm, by repeat (first | exact Below.refl _ _ | refine Below.drew ?_ | refine Below.setCell ?_ (by first | (simp; done) | (simp; omega) | omega) _ | refine Below.alloc ?_ (by first | (simp; done) | (simp; omega) | omega) _)⟩
  · have d1 : decide (0 ≤ r) = false := decide_eq_false t1
    have H := Lib.hid (hasB_false (r := r) (o := o) (n := n) (m := m) (fun h => t1 h.1.1))
    clear t1
    go_enter Tryd.func101, Tryd.ntmps101
    go_wp2_with fail
    go_ret
    exact ⟨(ret_bool H.out).symm, by repeat (first | exact Below.refl _ _ | refine Below.drew ?_ | refine Below.setCell ?_ (by first | (simp; done) | (simp; omega) | omega) _ | refine Below.alloc ?_ (by first | (simp; done) | (simp; omega) | omega) _)⟩

/-- What refund ends with: the sum, or a panic with the refusal of a match that is none. -/
def refEnd (ps : List Q5) (ms : List Q3) (ok : Bool) : Ending := if ok = true then .returned (.int .i64 (refTo ps ms ms.length)) else .panicked [{ v := .iface 163 (.agg #[]), recovered := false }]
theorem refEnd_ok (ps : List Q5) (ms : List Q3) : refEnd ps ms true = .returned (.int .i64 (refTo ps ms ms.length)) := if_pos rfl
theorem refEnd_no (ps : List Q5) (ms : List Q3) : refEnd ps ms false = .panicked [{ v := .iface 163 (.agg #[]), recovered := false }] := if_neg (by simp)

set_option maxHeartbeats 16000000 in
set_option maxRecDepth 100000 in
theorem irefund_any (a a2 a3 : Option Addr) (b b3 m cap n cap2 l cap3 : Nat) (days : Int) (ps : List Q5) (ms : List Q3) (hpm : ps.length = m) (hpl : ms.length = l) (hm : m ≤ 40) (hn : n ≤ 40) (hl : l ≤ 1048576)
    (ha : m ≠ 0 → a = some ⟨b, 0, none⟩) (ha3 : l ≠ 0 → a3 = some ⟨b3, 0, none⟩) (hok : OkOdTo ps ps.length) (hfm : FitsMa ms) (w : World) (hc : CellsSo w b (ps.map soldO)) (hc3 : CellsMa w b3 ms) :
    Calls Tryd.prog 84 #[.agg #[.slice a m cap, .slice a2 n cap2, .int .i64 days], .slice a3 l cap3] w fun e w' => e = refEnd ps ms (allMa m n ms) ∧ Below w.heap.size w w' := by
  have HPM := Lib.hid hpm
  have HPL := Lib.hid hpl
  have HA := Lib.hid ha
  have HA3 := Lib.hid ha3
  have HO := Lib.hid hok
  have HC := Lib.hid hc
  have HC3 := Lib.hid hc3
  clear hpm hpl ha ha3 hok hc hc3
  go_enter Tryd.func84, Tryd.ntmps84
  go_wp2_with fail
  obtain ⟨W1, e1⟩ : ∃ V, w.alloc (.cells #[.slice a m cap, .slice a2 n cap2, .int .i64 days] 84) = V := ⟨_, rfl⟩
  have s1 : W1.heap.size = w.heap.size + 1 := by rw [← e1]; simp
  have z0 : W1.cell? ⟨w.heap.size, 0, none⟩ = some (.slice a m cap) := by rw [← e1]; simp
  have z1 : W1.cell? ⟨w.heap.size, 1, none⟩ = some (.slice a2 n cap2) := by rw [← e1]; simp
  have z2 : W1.cell? ⟨w.heap.size, 2, none⟩ = some (.int .i64 days) := by rw [← e1]; simp
  have hB1 : Below w.heap.size w W1 := by rw [← e1]; exact (Below.refl _ _).alloc (Nat.le_refl _) _
  have HZ := Lib.hid (And.intro z0 (And.intro z1 z2))
  have HB1 := Lib.hid hB1
  rw [e1]
  clear e1 hB1 z0 z1 z2
  go_loopw [5, 10] (fun s i wr => ∃ k : Nat, k ≤ l ∧ i = .int .i64 k ∧ s = .int .i64 (refTo ps ms k) ∧ OkMaTo m n ms k ∧ Below W1.heap.size W1 wr) (fun _ i _ => l - (intOf i).toNat)
  case atStart => exact ⟨0, Nat.zero_le _, rfl, rfl, OkMaTo.zero _ _ _, Below.refl _ _⟩
  case round =>
    obtain ⟨k, hk, rfl, rfl, hr, hww⟩ := hrel
    have HR := Lib.hid hr
    have HB := Lib.hid hww
    have hwr : W1.heap.size ≤ wr.heap.size := hww.size
    obtain ⟨p0, p1⟩ := refTo_in (k := k) HO.out (by have := HPL.out; omega) hr hfm
    obtain ⟨wt, hwt⟩ : ∃ x, refTo ps ms k = x := ⟨_, rfl⟩
    rw [hwt] at p0 p1 ⊢
    by_cases hlt : k < l
    · obtain rfl := HA3.out (by omega)
      obtain ⟨c0, c1, c2⟩ := ((HC3.out.below HB1.out).below hww) k (by have := HPL.out; omega)
      have hf := hfm.get k (by have := HPL.out; omega)
      obtain ⟨q, hq⟩ : ∃ q, ms.getD k (0, 0, 0) = q := ⟨_, rfl⟩
      rw [hq] at c0 c1 c2 hf
      obtain ⟨x0, x1, x2⟩ := q
      unfold FitMa at hf
      simp only at hf
      obtain ⟨⟨l0, u0⟩, ⟨l1, u1⟩, l2, u2⟩ := hf
      have hkl : (k : Int) < (l : Int) := by omega
      have HOK : Hid (okMa m n (ms.getD k (0, 0, 0)) ↔ ((0 ≤ x0 ∧ x0 ≤ (n : Int) - 1) ∧ (0 ≤ x1 ∧ x1 ≤ (m : Int) - 1) ∧ 0 ≤ x2)) := Lib.hid (by unfold okMa; rw [hq])
      have HQK := Lib.hid hq
      have HWT := Lib.hid hwt
      have z0 : wr.cell? ⟨w.heap.size, 0, none⟩ = some (.slice a m cap) := (hww.cell (p := ⟨w.heap.size, 0, none⟩) (by simp only; omega)).trans HZ.out.1
      have z1 : wr.cell? ⟨w.heap.size, 1, none⟩ = some (.slice a2 n cap2) := (hww.cell (p := ⟨w.heap.size, 1, none⟩) (by simp only; omega)).trans HZ.out.2.1
      have z2 : wr.cell? ⟨w.heap.size, 2, none⟩ = some (.int .i64 days) := (hww.cell (p := ⟨w.heap.size, 2, none⟩) (by simp only; omega)).trans HZ.out.2.2
      clear hq hr hwt hww
      by_cases t : (0 ≤ x0 ∧ x0 < (n : Int)) ∧ (0 ≤ x1 ∧ x1 < (m : Int))
      · have HT := Lib.hid (hasB_true t)
        obtain ⟨⟨t0, t1⟩, t2, t3⟩ := t
        by_cases t4 : x2 < 0
        · have d4 : decide (x2 < 0) = true := decide_eq_true t4
          have HBAD : Hid (allMa m n ms = false) := Lib.hid (allMa_bad (k := k) (by have := HPL.out; omega) (fun h => by have := HOK.out.1 h; omega))
          have hal : Below wr.heap.size wr (wr.alloc (.cells #[.int .i8 x0, .int .i8 x1, .int .i16 x2] 111)) := (Below.refl _ _).alloc (Nat.le_refl _) _
          have za0 := (hal.cell (p := ⟨w.heap.size, 0, none⟩) (by simp only; omega)).trans z0
          have za1 := (hal.cell (p := ⟨w.heap.size, 1, none⟩) (by simp only; omega)).trans z1
          have za2 := (hal.cell (p := ⟨w.heap.size, 2, none⟩) (by simp only; omega)).trans z2
          have xl1 : w.heap.size < wr.heap.size := by omega
          have xl2 : w.heap.size ≠ wr.heap.size := by omega
          go_wp2_with fail
          obtain ⟨W2, e2⟩ : ∃ V, wr.alloc (.cells #[.int .i8 x0, .int .i8 x1, .int .i16 x2] 111) = V := ⟨_, rfl⟩
          have s2 : W2.heap.size = wr.heap.size + 1 := by rw [← e2]; simp
          have hB2 : Below wr.heap.size wr W2 := by rw [← e2]; exact (Below.refl _ _).alloc (Nat.le_refl _) _
          have f1 : W2.cell? ⟨wr.heap.size, 1, none⟩ = some (.int .i8 x1) := by rw [← e2]; simp
          have f2 : W2.cell? ⟨wr.heap.size, 2, none⟩ = some (.int .i16 x2) := by rw [← e2]; simp
          have y0 := (hB2.cell (p := ⟨w.heap.size, 0, none⟩) (by simp only; omega)).trans z0
          rw [e2]
          clear e2 z0 z1 z2 c0 c1 c2 hal za0 za1 za2 xl1 xl2
          refine (ihas_any _ _ _ _ _ _ _ _ _ _ hm hn ⟨l0, u0⟩ ⟨by omega, u1⟩ _).mono ?_
          rintro e w2 ⟨rfl, b2⟩
          rw [HT.out]
          have hs2 := b2.size
          have g1 := (b2.cell (p := ⟨wr.heap.size, 1, none⟩) (by simp only; omega)).trans f1
          have g2 := (b2.cell (p := ⟨wr.heap.size, 2, none⟩) (by simp only; omega)).trans f2
          have g0 := (b2.cell (p := ⟨w.heap.size, 0, none⟩) (by simp only; omega)).trans y0
          have HB2 : Hid (Below W1.heap.size W1 w2) := Lib.hid ((HB.out.trans (hB2.mono hwr)).trans (b2.mono (by omega)))
          have HFB : Hid (Below w.heap.size w w2) := Lib.hid (HB1.out.trans (HB2.out.mono (by omega)))
          clear f1 f2 y0 b2 hB2
          go_wp2_with fail
          exact ⟨rfl, by rw [HBAD.out, refEnd_no], HFB.out⟩
        · have d4 : decide (x2 < 0) = false := decide_eq_false t4
          have HS := Lib.hid (HR.out.succ (HOK.out.2 (by omega)))
          obtain ⟨j, rfl⟩ := Int.eq_ofNat_of_zero_le t2
          have hjm : j < m := by omega
          have hjp : j < ps.length := by have := HPM.out; omega
          obtain rfl := HA.out (by omega)
          have pr := (price_in HO.out j)
          have HE3 : Hid (∀ W, Below W1.heap.size W1 W → W.cell? ⟨b, j * 5 + 4, none⟩ = some (.int .i16 (ps.getD j (0, 0, 0, 0, 0)).2.2.2.1)) := Lib.hid (fun W hb => by
            have h := ((HC.out.below HB1.out).below hb) j (by simpa using hjp)
            rw [soldO_get hjp] at h
            exact h.2.2.2.2)
          obtain ⟨pc, hpc⟩ : ∃ x, (ps.getD j (0, 0, 0, 0, 0)).2.2.2.1 = x := ⟨_, rfl⟩
          rw [hpc] at HE3 pr
          obtain ⟨pr0, pr1⟩ := pr
          have hmul := mul_in (show 0 ≤ x2 by omega) u2 pr0 pr1
          obtain ⟨pd, hpd⟩ : ∃ x, x2 * pc = x := ⟨_, rfl⟩
          rw [hpd] at hmul
          obtain ⟨hml0, hml1⟩ := hmul
          have hjl : (j : Int) < (m : Int) := by omega
          have HPD := Lib.hid hpd
          have HN : Hid (refTo ps ms (k + 1) = wt + pd) := Lib.hid (by rw [refTo, HQK.out, HWT.out]; simp only; rw [Int.toNat_natCast, hpc, hpd])
          clear hpc hpd t0 t1 t3 l1
          have hal : Below wr.heap.size wr (wr.alloc (.cells #[.int .i8 x0, .int .i8 j, .int .i16 x2] 111)) := (Below.refl _ _).alloc (Nat.le_refl _) _
          have za0 := (hal.cell (p := ⟨w.heap.size, 0, none⟩) (by simp only; omega)).trans z0
          have za1 := (hal.cell (p := ⟨w.heap.size, 1, none⟩) (by simp only; omega)).trans z1
          have za2 := (hal.cell (p := ⟨w.heap.size, 2, none⟩) (by simp only; omega)).trans z2
          have xl1 : w.heap.size < wr.heap.size := by omega
          have xl2 : w.heap.size ≠ wr.heap.size := by omega
          go_wp2_with fail
          obtain ⟨W2, e2⟩ : ∃ V, wr.alloc (.cells #[.int .i8 x0, .int .i8 j, .int .i16 x2] 111) = V := ⟨_, rfl⟩
          have s2 : W2.heap.size = wr.heap.size + 1 := by rw [← e2]; simp
          have hB2 : Below wr.heap.size wr W2 := by rw [← e2]; exact (Below.refl _ _).alloc (Nat.le_refl _) _
          have f1 : W2.cell? ⟨wr.heap.size, 1, none⟩ = some (.int .i8 j) := by rw [← e2]; simp
          have f2 : W2.cell? ⟨wr.heap.size, 2, none⟩ = some (.int .i16 x2) := by rw [← e2]; simp
          have y0 := (hB2.cell (p := ⟨w.heap.size, 0, none⟩) (by simp only; omega)).trans z0
          rw [e2]
          clear e2 z0 z1 z2 c0 c1 c2 hal za0 za1 za2 xl1 xl2
          refine (ihas_any _ _ _ _ _ _ _ _ _ _ hm hn ⟨l0, u0⟩ ⟨by omega, u1⟩ _).mono ?_
          rintro e w2 ⟨rfl, b2⟩
          rw [HT.out]
          have hs2 := b2.size
          have g1 := (b2.cell (p := ⟨wr.heap.size, 1, none⟩) (by simp only; omega)).trans f1
          have g2 := (b2.cell (p := ⟨wr.heap.size, 2, none⟩) (by simp only; omega)).trans f2
          have g0 := (b2.cell (p := ⟨w.heap.size, 0, none⟩) (by simp only; omega)).trans y0
          have HB2 : Hid (Below W1.heap.size W1 w2) := Lib.hid ((HB.out.trans (hB2.mono hwr)).trans (b2.mono (by omega)))
          have HFB : Hid (Below w.heap.size w w2) := Lib.hid (HB1.out.trans (HB2.out.mono (by omega)))
          clear f1 f2 y0 b2 hB2
          have e3 := HE3.out w2 (HB2.out)
          go_wp2_with fail
          go_quiet (fail)
          go_wp2_with fail
          go_roundw
          case rel => exact ⟨k + 1, by omega, by go_num, by rw [HN.out, HPD.out, wr64 pd (by omega), wr64 (wt + pd) (by omega)], HS.out, by repeat (first | exact HB2.out | exact below_drewN HB2.out _ | refine Below.drew ?_)⟩
          case measure => simp [intOf]; omega
      · have HT := Lib.hid (hasB_false t)
        have HBAD : Hid (allMa m n ms = false) := Lib.hid (allMa_bad (k := k) (by have := HPL.out; omega) (fun h => by have := HOK.out.1 h; omega))
        clear t
        have hal : Below wr.heap.size wr (wr.alloc (.cells #[.int .i8 x0, .int .i8 x1, .int .i16 x2] 111)) := (Below.refl _ _).alloc (Nat.le_refl _) _
        have za0 := (hal.cell (p := ⟨w.heap.size, 0, none⟩) (by simp only; omega)).trans z0
        have za1 := (hal.cell (p := ⟨w.heap.size, 1, none⟩) (by simp only; omega)).trans z1
        have za2 := (hal.cell (p := ⟨w.heap.size, 2, none⟩) (by simp only; omega)).trans z2
        have xl1 : w.heap.size < wr.heap.size := by omega
        have xl2 : w.heap.size ≠ wr.heap.size := by omega
        go_wp2_with fail
        obtain ⟨W2, e2⟩ : ∃ V, wr.alloc (.cells #[.int .i8 x0, .int .i8 x1, .int .i16 x2] 111) = V := ⟨_, rfl⟩
        have s2 : W2.heap.size = wr.heap.size + 1 := by rw [← e2]; simp
        have hB2 : Below wr.heap.size wr W2 := by rw [← e2]; exact (Below.refl _ _).alloc (Nat.le_refl _) _
        have f1 : W2.cell? ⟨wr.heap.size, 1, none⟩ = some (.int .i8 x1) := by rw [← e2]; simp
        have f2 : W2.cell? ⟨wr.heap.size, 2, none⟩ = some (.int .i16 x2) := by rw [← e2]; simp
        have y0 := (hB2.cell (p := ⟨w.heap.size, 0, none⟩) (by simp only; omega)).trans z0
        rw [e2]
        clear e2 z0 z1 z2 c0 c1 c2 hal za0 za1 za2 xl1 xl2
        refine (ihas_any _ _ _ _ _ _ _ _ _ _ hm hn ⟨l0, u0⟩ ⟨by omega, u1⟩ _).mono ?_
        rintro e w2 ⟨rfl, b2⟩
        rw [HT.out]
        have hs2 := b2.size
        have g1 := (b2.cell (p := ⟨wr.heap.size, 1, none⟩) (by simp only; omega)).trans f1
        have g2 := (b2.cell (p := ⟨wr.heap.size, 2, none⟩) (by simp only; omega)).trans f2
        have g0 := (b2.cell (p := ⟨w.heap.size, 0, none⟩) (by simp only; omega)).trans y0
        have HB2 : Hid (Below W1.heap.size W1 w2) := Lib.hid ((HB.out.trans (hB2.mono hwr)).trans (b2.mono (by omega)))
        have HFB : Hid (Below w.heap.size w w2) := Lib.hid (HB1.out.trans (HB2.out.mono (by omega)))
        clear f1 f2 y0 b2 hB2
        go_wp2_with fail
        exact ⟨rfl, by rw [HBAD.out, refEnd_no], HFB.out⟩
    · have hk' : k = l := by omega
      have HALL : Hid (allMa m n ms = true) := Lib.hid (allMa_true (by rw [HPL.out, ← hk']; exact hr))
      have HE : Hid (wt = refTo ps ms ms.length) := Lib.hid (by rw [HPL.out, ← hk', hwt])
      clear hk' hwt hr hww
      go_wp2_with fail
      go_ret
      exact ⟨by rw [HALL.out, refEnd_ok]; exact ret_int HE.out, HB1.out.trans (HB.out.mono (by omega))⟩
end Go.Proofs.YtgimpmdiilmkoaaDoor
