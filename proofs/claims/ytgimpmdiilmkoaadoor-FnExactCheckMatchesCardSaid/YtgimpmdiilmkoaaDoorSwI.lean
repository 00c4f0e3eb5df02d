/-
  StillWith: the program's.
-/
import Derived.Test.YtgimpmdiilmkoaaDoorSwS
import Derived.Test.YtgimpmdiilmkoaaDoorBkI
namespace Go.Proofs.YtgimpmdiilmkoaaDoor
open Go Go.RowKit
set_option linter.unusedVariables false

set_option maxHeartbeats 2000000 in
theorem ipieces_any (b i n d buyer item : Int) (hb : -128 ≤ b ∧ b ≤ 127) (hi : -128 ≤ i ∧ i ≤ 127) (hn : -32768 ≤ n ∧ n ≤ 32767) (w : World) :
    Calls Tryd.prog 58 #[.agg #[.int .i8 b, .int .i8 i, .int .i16 n, .int .i16 d], .int .i64 buyer, .int .i64 item] w fun e w' => e = .returned (.int .i64 (pcs b i n buyer item)) ∧ w' = w.alloc (.cells #[.int .i8 b, .int .i8 i, .int .i16 n, .int .i16 d] 92) := by
  obtain ⟨hb1, hb2⟩ := hb
  obtain ⟨hi1, hi2⟩ := hi
  obtain ⟨hn1, hn2⟩ := hn
  by_cases t1 : b = buyer
  · by_cases t2 : i = item
    · have H := Lib.hid (pcs_yes (n := n) t1 t2)
      subst t1
      subst t2
      go_enter Tryd.func58, Tryd.ntmps58
      go_wp2_with fail
      go_ret
      exact ⟨ret_int H.out.symm, rfl⟩
    · have H := Lib.hid (pcs_no (n := n) (fun h : b = buyer ∧ i = item => t2 h.2))
      have d2 : (i == item) = false := by simpa using t2
      subst t1
      clear t2
      go_enter Tryd.func58, Tryd.ntmps58
      go_wp2_with fail
      go_ret
      exact ⟨ret_int H.out.symm, rfl⟩
  · have H := Lib.hid (pcs_no (n := n) (fun h : b = buyer ∧ i = item => t1 h.1))
    have d1 : (b == buyer) = false := by simpa using t1
    clear t1
    go_enter Tryd.func58, Tryd.ntmps58
    go_wp2_with fail
    go_ret
    exact ⟨ret_int H.out.symm, rfl⟩

/-- A row's cells, or none where the list is empty. -/
theorem cells_orS {w : World} {v : Value} {ps : List Q5} (h : ReadsSo w v ps) : ∃ a b cap, v = .slice a ps.length cap ∧ (ps.length ≠ 0 → a = some ⟨b, 0, none⟩) ∧ CellsSo w b ps := by
  obtain ⟨a, cap, rfl, h⟩ := h
  by_cases e : ps = []
  · subst e; exact ⟨a, 0, cap, rfl, fun h => absurd rfl h, fun i hi => absurd hi (by simp)⟩
  · obtain ⟨b, h1, h2⟩ := h e; exact ⟨a, b, cap, rfl, fun _ => h1, h2⟩
theorem cells_orE {w : World} {v : Value} {ps : List Q4} (h : ReadsSe w v ps) : ∃ a b cap, v = .slice a ps.length cap ∧ (ps.length ≠ 0 → a = some ⟨b, 0, none⟩) ∧ CellsSe w b ps := by
  obtain ⟨a, cap, rfl, h⟩ := h
  by_cases e : ps = []
  · subst e; exact ⟨a, 0, cap, rfl, fun h => absurd rfl h, fun i hi => absurd hi (by simp)⟩
  · obtain ⟨b, h1, h2⟩ := h e; exact ⟨a, b, cap, rfl, fun _ => h1, h2⟩

set_option maxHeartbeats 8000000 in
set_option maxRecDepth 100000 in
theorem istill_ok (v u : Value) (ps : List Q5) (rs : List Q4) (buyer item : Int) (w : World) (hv : ReadsOd w v ps) (hu : ReadsRt w u rs) (hfo : FitsOd ps) (hfr : FitsRt rs) (g1 : vldOd ps = true) (g2 : vldRt rs = true) (g3 : knownB buyer item = true) :
    Calls Tryd.prog 17 #[v, u, .int .i64 buyer, .int .i64 item] w fun e w' => e = .returned (.tuple #[.int .i64 (mx0 (gotTo ps buyer item ps.length - backTo rs buyer item rs.length)), .int .i64 0]) ∧ Below w.heap.size w w' := by
  have HKN := Lib.hid g3
  obtain ⟨hm, hok⟩ := vldOd_spec g1
  obtain ⟨hn, hok2⟩ := vldRt_spec g2
  have HO := Lib.hid hok
  have HO2 := Lib.hid hok2
  have HG1 := Lib.hid g1
  have HG2 := Lib.hid g2
  have HV := Lib.hid hv
  have HU := Lib.hid hu
  obtain ⟨m, hm'⟩ : ∃ m, ps.length = m := ⟨_, rfl⟩
  obtain ⟨n, hn'⟩ : ∃ n, rs.length = n := ⟨_, rfl⟩
  have HPM := Lib.hid hm'
  have HPN := Lib.hid hn'
  rw [hm'] at hm
  rw [hn'] at hn
  rw [hm', hn']
  clear g1 g2 g3 hok hok2 hm' hn' hv hu
  go_enter Tryd.func17, Tryd.ntmps17
  go_wp2_with fail
  refine (ibooks_ok _ _ ps rs 0 _ HV.out HU.out hfo hfr HG1.out HG2.out (by decide)).mono ?_
  rintro e w1 ⟨v0, v1, rfl, ho0, ho1, q1⟩
  obtain ⟨a, b, cap, rfl, ha, hc⟩ := cells_orS ho0.reads
  obtain ⟨a2, b2, cap2, rfl, ha2, hc2⟩ := cells_orE ho1.reads
  have HA : Hid (m ≠ 0 → a = some ⟨b, 0, none⟩) := Lib.hid (fun h => ha (by simpa [HPM.out] using h))
  have HA2 : Hid (n ≠ 0 → a2 = some ⟨b2, 0, none⟩) := Lib.hid (fun h => ha2 (by simpa [HPN.out] using h))
  rw [show (ps.map soldO).length = m by simpa using HPM.out, HPN.out]
  have HC := Lib.hid hc
  have HCC := Lib.hid hc2
  have HQ := Lib.hid q1
  clear hc hc2 ha ha2 ho0 ho1
  go_wp2_with (go_at_call 56; refine (iknown_any _ _ _).mono ?_; rintro e w3 ⟨rfl, hw3⟩; rw [hw3, HKN.out]; clear hw3 w3)
  obtain ⟨W1, e1⟩ : ∃ V, w1.alloc (.cells #[.slice a m cap, .slice a2 n cap2, .int .i64 0] 84) = V := ⟨_, rfl⟩
  have s1 : W1.heap.size = w1.heap.size + 1 := by rw [← e1]; simp
  have z0 : W1.cell? ⟨w1.heap.size, 0, none⟩ = some (.slice a m cap) := by rw [← e1]; simp
  have z1 : W1.cell? ⟨w1.heap.size, 1, none⟩ = some (.slice a2 n cap2) := by rw [← e1]; simp
  have hB1 : Below w1.heap.size w1 W1 := by rw [← e1]; exact (Below.refl _ _).alloc (Nat.le_refl _) _
  have HZ1 := Lib.hid z1
  have HB1 := Lib.hid hB1
  have hs01 := q1.size
  clear q1
  rw [e1]
  clear e1 hB1
  go_wp2_with fail
  go_loopw [12, 40] (fun s i wr => ∃ k : Nat, k ≤ m ∧ i = .int .i64 k ∧ s = .int .i64 (gotTo ps buyer item k) ∧ Below W1.heap.size W1 wr) (fun _ i _ => m - (intOf i).toNat)
  case atStart => exact ⟨0, Nat.zero_le _, rfl, rfl, Below.refl _ _⟩
  case round =>
    obtain ⟨k, hk, rfl, rfl, hww⟩ := hrel
    have HB := Lib.hid hww
    have hwr : W1.heap.size ≤ wr.heap.size := hww.size
    obtain ⟨p0, p1⟩ := gotTo_in (ps := ps) (buyer := buyer) (item := item) (k := k) (fun i hi => HO.out i (by have := HPM.out; omega))
    obtain ⟨wt, hwt⟩ : ∃ x, gotTo ps buyer item k = x := ⟨_, rfl⟩
    rw [hwt] at p0 p1 ⊢
    by_cases hlt : k < m
    · obtain rfl := HA.out (by omega)
      have hkp : k < ps.length := by have := HPM.out; omega
      obtain ⟨c0, c1, c2, c3, c4⟩ := ((HC.out.below HB1.out).below hww) k (by simpa using hkp)
      rw [soldO_get hkp] at c0 c1 c2 c3 c4
      have hf := hfo.get k hkp
      obtain ⟨q, hq⟩ : ∃ q, ps.getD k (0, 0, 0, 0, 0) = q := ⟨_, rfl⟩
      rw [hq] at c0 c1 c2 c3 c4 hf
      obtain ⟨x0, x1, x2, x3, x4⟩ := q
      unfold FitOd at hf
      unfold soldO at c0 c1 c2 c3 c4
      simp only at hf c0 c1 c2 c3 c4
      obtain ⟨⟨l0, u0⟩, ⟨l1, u1⟩, ⟨l2, u2⟩, ⟨l3, u3⟩, l4, u4⟩ := hf
      have hkl : (k : Int) < (m : Int) := by omega
      have hm40 : k < 40 := by omega
      have hpc : -32768 ≤ pcs x0 x1 x2 buyer item ∧ pcs x0 x1 x2 buyer item ≤ 32767 := by unfold pcs; split <;> omega
      obtain ⟨pc, hpcv⟩ : ∃ x, pcs x0 x1 x2 buyer item = x := ⟨_, rfl⟩
      rw [hpcv] at hpc
      obtain ⟨pc0, pc1⟩ := hpc
      have HPC := Lib.hid hpcv
      have HN : Hid (gotTo ps buyer item (k + 1) = wt + pc) := Lib.hid (by rw [gotTo, hq, hwt]; simp only; rw [hpcv])
      clear hq hwt hww hpcv
      go_wp2_with (go_at_call 58; refine (ipieces_any _ _ _ _ _ _ ⟨l0, u0⟩ ⟨l1, u1⟩ ⟨l2, u2⟩ _).mono ?_; rintro e w3 ⟨rfl, hw3⟩; rw [hw3, HPC.out]; clear hw3 w3)
      go_roundw
      case rel => exact ⟨k + 1, by omega, by go_num, by rw [HN.out], by repeat (first | exact HB.out | refine Below.drew ?_ | refine Below.setCell ?_ (by first | (simp; done) | (simp; omega) | omega) _ | refine Below.alloc ?_ (by first | (simp; done) | (simp; omega) | omega) _)⟩
      case measure => simp [intOf]; omega
    · have hk' : k = m := by omega
      have HE : Hid (wt = gotTo ps buyer item m) := Lib.hid (by rw [← hk', hwt])
      have hwt2 : 0 ≤ wt ∧ wt ≤ 4000 := by omega
      obtain ⟨wt0, wt1⟩ := hwt2
      have z1' : wr.cell? ⟨w1.heap.size, 1, none⟩ = some (.slice a2 n cap2) := (hww.cell (p := ⟨w1.heap.size, 1, none⟩) (by simp only; omega)).trans HZ1.out
      clear hk' hwt p0 p1 hww z0 z1
      go_wp2_with fail
      go_loopw [12, 55] (fun s i wx => ∃ k : Nat, k ≤ n ∧ i = .int .i64 k ∧ s = .int .i64 (wt - backTo rs buyer item k) ∧ Below W1.heap.size W1 wx) (fun _ i _ => n - (intOf i).toNat)
      case atStart => exact ⟨0, Nat.zero_le _, rfl, by simp [backTo], HB.out⟩
      case round =>
        clear z1'
        obtain ⟨k, hk, rfl, rfl, hww⟩ := hrel
        have HB2 := Lib.hid hww
        have hwr2 := hww.size
        obtain ⟨p0, p1⟩ := backTo_in (rs := rs) (buyer := buyer) (item := item) (k := k) (fun i hi => HO2.out i (by have := HPN.out; omega))
        obtain ⟨bt, hbt⟩ : ∃ x, backTo rs buyer item k = x := ⟨_, rfl⟩
        rw [hbt] at p0 p1 ⊢
        by_cases hlt : k < n
        · obtain rfl := HA2.out (by omega)
          have hkp : k < rs.length := by have := HPN.out; omega
          obtain ⟨c0, c1, c2, c3⟩ := ((HCC.out.below HB1.out).below hww) k hkp
          have hf := hfr.get k hkp
          obtain ⟨q, hq⟩ : ∃ q, rs.getD k (0, 0, 0, 0) = q := ⟨_, rfl⟩
          rw [hq] at c0 c1 c2 c3 hf
          obtain ⟨x0, x1, x2, x3⟩ := q
          unfold FitRt at hf
          simp only at hf
          obtain ⟨⟨l0, u0⟩, ⟨l1, u1⟩, ⟨l2, u2⟩, l3, u3⟩ := hf
          have hkl : (k : Int) < (n : Int) := by omega
          have hm40 : k < 40 := by omega
          have hpc : -32768 ≤ pcs x0 x1 x2 buyer item ∧ pcs x0 x1 x2 buyer item ≤ 32767 := by unfold pcs; split <;> omega
          obtain ⟨pc, hpcv⟩ : ∃ x, pcs x0 x1 x2 buyer item = x := ⟨_, rfl⟩
          rw [hpcv] at hpc
          obtain ⟨pc0, pc1⟩ := hpc
          have HPC := Lib.hid hpcv
          have HN : Hid (backTo rs buyer item (k + 1) = bt + pc) := Lib.hid (by rw [backTo, hq, hbt]; simp only; rw [hpcv])
          clear hq hbt hww hpcv
          go_wp2_with (go_at_call 58; refine (ipieces_any _ _ _ _ _ _ ⟨l0, u0⟩ ⟨l1, u1⟩ ⟨l2, u2⟩ _).mono ?_; rintro e w3 ⟨rfl, hw3⟩; rw [hw3, HPC.out]; clear hw3 w3)
          go_roundw
          case rel => exact ⟨k + 1, by omega, by go_num, by rw [HN.out]; go_num, by repeat (first | exact HB2.out | refine Below.drew ?_ | refine Below.setCell ?_ (by first | (simp; done) | (simp; omega) | omega) _ | refine Below.alloc ?_ (by first | (simp; done) | (simp; omega) | omega) _)⟩
          case measure => simp [intOf]; omega
        · have hk' : k = n := by omega
          have HE2 : Hid (bt = backTo rs buyer item n) := Lib.hid (by rw [← hk', hbt])
          have HFB : Hid (Below w.heap.size w wr) := Lib.hid ((HQ.out.trans (HB1.out.mono hs01)).trans (hww.mono (by omega)))
          clear hk' hbt hww
          obtain ⟨df, hdf⟩ : ∃ x, wt - bt = x := ⟨_, rfl⟩
          have hdr : -10000 ≤ df ∧ df ≤ 10000 := by omega
          obtain ⟨dr0, dr1⟩ := hdr
          rw [hdf]
          have HDF : Hid (gotTo ps buyer item m - backTo rs buyer item n = df) := Lib.hid (by rw [← HE.out, ← HE2.out]; exact hdf)
          clear hdf
          by_cases t : df < 0
          · have d1 : decide (df < 0) = true := decide_eq_true t
            have d2 : decide (0 < df) = false := decide_eq_false (by omega)
            have HM := Lib.hid (mx0_neg t)
            go_wp2_with fail
            go_ret2
            exact ⟨ret_tw' ⟨by rw [HDF.out, HM.out], rfl⟩, HFB.out⟩
          · have d1 : decide (df < 0) = false := decide_eq_false t
            have HM := Lib.hid (mx0_pos t)
            by_cases t2 : 0 < df
            · have d2 : decide (0 < df) = true := decide_eq_true t2
              go_wp2_with fail
              go_ret2
              exact ⟨ret_tw' ⟨by rw [HDF.out, HM.out], rfl⟩, HFB.out⟩
            · have HZ : df = 0 := by omega
              subst HZ
              clear t t2 d1
              go_wp2_with fail
              go_ret2
              exact ⟨ret_tw' ⟨by rw [HDF.out, HM.out], rfl⟩, HFB.out⟩
end Go.Proofs.YtgimpmdiilmkoaaDoor
