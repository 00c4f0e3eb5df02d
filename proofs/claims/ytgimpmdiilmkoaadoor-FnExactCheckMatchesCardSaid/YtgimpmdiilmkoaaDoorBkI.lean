/-
  impl.booksOf: the books of orders and returns, or the refusal of these or of the days.
-/
import Derived.Test.YtgimpmdiilmkoaaDoorBkP
import Derived.Test.YtgimpmdiilmkoaaDoorCoI
import Derived.Deep.RegionLaw
namespace Go.Proofs.YtgimpmdiilmkoaaDoor
open Go Go.RowKit
set_option linter.unusedVariables false

theorem row_is {w : World} {B n k : Nat} {T : TypeId} {v : Value} {xs : List Value} (h : w.ownsRow B T n v k xs) : ∃ a l c, v = .slice a l c := by
  rcases h.2 with ⟨rfl, _⟩ | ⟨g, cap, cur, rfl, _⟩
  · exact ⟨_, _, _, rfl⟩
  · exact ⟨_, _, _, rfl⟩
/-- A row's cells, or none where the list is empty. -/
theorem read_cells0 {w : World} {a : Option Addr} {ps : List Q5} (h : ps ≠ [] → ∃ b, a = some ⟨b, 0, none⟩ ∧ CellsOd w b ps) : ∃ b, (ps ≠ [] → a = some ⟨b, 0, none⟩) ∧ CellsOd w b ps := by
  by_cases e : ps = []
  · subst e; exact ⟨0, fun h => absurd rfl h, fun i hi => absurd hi (by simp)⟩
  · obtain ⟨b, h1, h2⟩ := h e; exact ⟨b, fun _ => h1, h2⟩
theorem read_cells1 {w : World} {a : Option Addr} {ps : List Q4} (h : ps ≠ [] → ∃ b, a = some ⟨b, 0, none⟩ ∧ CellsRt w b ps) : ∃ b, (ps ≠ [] → a = some ⟨b, 0, none⟩) ∧ CellsRt w b ps := by
  by_cases e : ps = []
  · subst e; exact ⟨0, fun h => absurd rfl h, fun i hi => absurd hi (by simp)⟩
  · obtain ⟨b, h1, h2⟩ := h e; exact ⟨b, fun _ => h1, h2⟩

set_option maxHeartbeats 16000000 in
set_option maxRecDepth 100000 in
theorem ibooks_ok (v u : Value) (ps : List Q5) (rs : List Q4) (days : Int) (w : World) (hv : ReadsOd w v ps) (hu : ReadsRt w u rs) (hfo : FitsOd ps) (hfr : FitsRt rs) (h1 : vldOd ps = true) (h2 : vldRt rs = true) (h3 : dayB days = true) :
    Calls Tryd.prog 55 #[v, u, .int .i64 days] w fun e w' => ∃ v0 v1, e = .returned (.tuple #[.agg #[v0, v1, .int .i64 days], .nilIface]) ∧ OwnSo 94 w.heap.size w' v0 (ps.map soldO) ∧ OwnSe 96 w.heap.size w' v1 rs ∧ Below w.heap.size w w' := by
  obtain ⟨i0, hi, hiz0, hiz1, hiz2⟩ := info_parts info_sold
  obtain ⟨j0, hj, hjz0, hjz1, hjz2⟩ := info_parts info_sent
  have HV := Lib.hid hv
  have HU := Lib.hid hu
  obtain ⟨av, cv, rfl, gv⟩ := hv
  obtain ⟨au, cu, rfl, gu⟩ := hu
  obtain ⟨bv, hbv, hc0⟩ := read_cells0 gv
  obtain ⟨bu, hbu, hc1⟩ := read_cells1 gu
  have hm := (vldOd_spec h1).1
  have hn := (vldRt_spec h2).1
  obtain ⟨m, hm'⟩ : ∃ m, ps.length = m := ⟨_, rfl⟩
  obtain ⟨n, hn'⟩ : ∃ n, rs.length = n := ⟨_, rfl⟩
  rw [hm'] at hm HV ⊢
  rw [hn'] at hn HU ⊢
  have HL0 := Lib.hid hm'
  have HL1 := Lib.hid hn'
  have HBV : Hid (m ≠ 0 → av = some ⟨bv, 0, none⟩) := Lib.hid (fun h => hbv (fun e => h (by rw [← HL0.out, e]; rfl)))
  have HBU : Hid (n ≠ 0 → au = some ⟨bu, 0, none⟩) := Lib.hid (fun h => hbu (fun e => h (by rw [← HL1.out, e]; rfl)))
  have HO := Lib.hid h1
  have HR := Lib.hid h2
  have HD := Lib.hid h3
  have HPM : Hid (ps.length = m ∧ rs.length = n) := Lib.hid ⟨hm', hn'⟩
  clear gv gu hbv hbu h1 h2 h3 hm' hn'
  go_enter Tryd.func55, Tryd.ntmps55
  go_wp2_with fail
  obtain ⟨w0, e0⟩ : ∃ V, w.alloc (.cells #[.slice none 0 0, .slice none 0 0, .int .i64 0] 84) = V := ⟨_, rfl⟩
  have s0 : w0.heap.size = w.heap.size + 1 := by rw [← e0]; simp
  have r0 : w0.cell? ⟨w.heap.size, 0, none⟩ = some (.slice none 0 0) := by rw [← e0]; simp
  have r1 : w0.cell? ⟨w.heap.size, 1, none⟩ = some (.slice none 0 0) := by rw [← e0]; simp
  have r2 : w0.cell? ⟨w.heap.size, 2, none⟩ = some (.int .i64 0) := by rw [← e0]; simp
  have rf : ∀ j, w0.frozen? ⟨w.heap.size, j, none⟩ = false := fun j => by rw [← e0]; simp
  have hw0 : Below w.heap.size w w0 := by rw [← e0]; exact (Below.refl _ _).alloc (Nat.le_refl _) _
  rw [e0]
  clear e0
  refine (ivldOd_any _ ps _ (HV.out.below hw0) hfo (by have := HPM.out.1; omega)).mono ?_
  rintro e w1 ⟨rfl, b1⟩
  rw [HO.out]
  have hw01 := blink hw0 b1
  go_wp2_with fail
  refine (ivldRt_any _ rs _ (HU.out.below hw01) hfr (by have := HPM.out.2; omega)).mono ?_
  rintro e w2 ⟨rfl, b2⟩
  rw [HR.out]
  have b12 : Below w0.heap.size w0 w2 := blink b1 b2
  have hw02 : Below w.heap.size w w2 := blink hw0 b12
  have hs2 := b12.size
  have q0 : w2.cell? ⟨w.heap.size, 0, none⟩ = some (.slice none 0 0) := (b12.cell (p := ⟨w.heap.size, 0, none⟩) (by simp only; omega)).trans r0
  have q1 : w2.cell? ⟨w.heap.size, 1, none⟩ = some (.slice none 0 0) := (b12.cell (p := ⟨w.heap.size, 1, none⟩) (by simp only; omega)).trans r1
  have q2 : w2.cell? ⟨w.heap.size, 2, none⟩ = some (.int .i64 0) := (b12.cell (p := ⟨w.heap.size, 2, none⟩) (by simp only; omega)).trans r2
  have qf : ∀ j, w2.frozen? ⟨w.heap.size, j, none⟩ = false := fun j => by rw [World.frozen?_of_block (w := w0) (a := ⟨w.heap.size, j, none⟩) (b12.block w.heap.size (by omega))]; exact rf j
  clear r0 r1 r2 rf b1 b2 hw01 hw0
  go_wp2_with (go_at_call 89; refine (iday_any _ _).mono ?_; rintro e w3 ⟨rfl, hw3⟩; rw [hw3, HD.out]; clear hw3 w3)
  obtain ⟨Ws, es⟩ : ∃ V, w2.alloc (.cells #[.slice none 0 0, .slice none 0 0, .int .i64 days] 84) = V := ⟨_, rfl⟩
  have HS : Hid (BkInv w2.heap.size days w2 Ws (.slice none 0 0) (.slice none 0 0) [] []) := Lib.hid (by rw [← es]; exact BkInv.start)
  rw [es]
  clear es
  go_loopw [34] (fun i wr => ∃ (k : Nat) (v0 v1 : Value), k ≤ m ∧ i = .int .i64 k ∧ v1 = .slice none 0 0 ∧ BkInv w2.heap.size days w2 wr v0 v1 (soldTo ps k) []) (fun i _ => m - (intOf i).toNat)
  case atStart => exact ⟨0, _, _, Nat.zero_le _, rfl, rfl, by simpa [soldTo] using HS.out⟩
  case round =>
    obtain ⟨k, v0, v1, hk, rfl, hv1, hinv⟩ := hrel
    have HI := Lib.hid hinv
    have HV1 := Lib.hid hv1
    clear hv1
    by_cases hlt : k < m
    · obtain rfl := HBV.out (by omega)
      have hwr := HI.out.lt
      obtain ⟨c0, c1, c2, c3, c4⟩ := (hc0.below (hw02.trans (HI.out.be.mono hw02.size))) k (by have := HL0.out; omega)
      obtain ⟨q, hq⟩ : ∃ q, ps.getD k (0, 0, 0, 0, 0) = q := ⟨_, rfl⟩
      rw [hq] at c0 c1 c2 c3 c4
      have HQ := Lib.hid hq
      obtain ⟨x0, x1, x2, x3, x4⟩ := q
      have hkl : (k : Int) < (m : Int) := by omega
      have hk40 : k < 40 := by omega
      have HSU := Lib.hid (soldTo_succ (ps := ps) (k := k) (by have := HL0.out; omega))
      have HLN := Lib.hid (soldTo_len (ps := ps) (k := k) (by have := HL0.out; omega))
      clear hq hinv
      go_wp2_with fail
      obtain ⟨W1, e1⟩ : ∃ V, wr.alloc (.cells #[.int .i8 x0, .int .i8 x1, .int .i16 x2, .int .i16 x3, .int .i16 x4] 73) = V := ⟨_, rfl⟩
      have s1 : W1.heap.size = wr.heap.size + 1 := by rw [← e1]; simp
      have HI1 : Hid (BkInv w2.heap.size days w2 W1 v0 v1 (soldTo ps k) []) := Lib.hid (by rw [← e1]; exact HI.out.alloc _)
      have f0 := HI1.out.c0
      have f1 := HI1.out.fz 0
      have flt := HI1.out.lt
      have hneB : some w2.heap.size ≠ v0.ownBlock := fun e => by have := (HI1.out.o0.block _ e.symm).1; omega
      have t0 : W1.cell? ⟨wr.heap.size, 0, none⟩ = some (.int .i8 x0) := by rw [← e1]; simp
      have t1 : W1.cell? ⟨wr.heap.size, 1, none⟩ = some (.int .i8 x1) := by rw [← e1]; simp
      have t2 : W1.cell? ⟨wr.heap.size, 2, none⟩ = some (.int .i16 x2) := by rw [← e1]; simp
      have t3 : W1.cell? ⟨wr.heap.size, 3, none⟩ = some (.int .i16 x3) := by rw [← e1]; simp
      have t4 : W1.cell? ⟨wr.heap.size, 4, none⟩ = some (.int .i16 x4) := by rw [← e1]; simp
      rw [e1]
      clear e1 c0 c1 c2 c3 c4
      have HCA : Hid (∀ W, Calls Tryd.prog 90 #[.agg #[.int .i8 x0, .int .i8 x1, .int .i16 x2, .int .i16 x3, .int .i16 x4]] W fun e w' => e = .returned (.agg #[.int .i8 x0, .int .i8 x1, .int .i16 x2, .int .i16 x4, .int .i16 x3]) ∧ Below W.heap.size W w') := Lib.hid (fun W => isold_any _ _ _ _ _ W)
      have HN : Hid (∀ (W : World), ∀ j u, ([.int .i8 x0, .int .i8 x1, .int .i16 x2, .int .i16 x4, .int .i16 x3] : List Value)[j]? = some u → (W.alloc (.cells #[.int .i8 x0, .int .i8 x1, .int .i16 x2, .int .i16 x4, .int .i16 x3] 94)).cell? ((⟨W.heap.size, 0, none⟩ : Addr).add j) = some u) := Lib.hid (fun W j u hj => by
        rw [addr_add, Nat.zero_add, World.cell?_alloc_at _ _ _ _ rfl]
        simpa using hj)
      have H1 : Hid (∀ u ∈ ([.int .i8 x0, .int .i8 x1, .int .i16 x2, .int .i16 x4, .int .i16 x3] : List Value), u.oneCell' = true) := Lib.hid (by intro u hu; simp at hu; rcases hu with rfl | rfl | rfl | rfl | rfl <;> rfl)
      have HOW : Hid (∀ W2 o, Below W1.heap.size W1 W2 → (W2.alloc o).ownsRow (w2.heap.size + 1) 94 5 v0 k (flatSo (soldTo ps k))) := Lib.hid (fun W2 o hb => by
        have h := ((HI1.out.below hb).alloc o).o0
        unfold OwnSo at h
        rw [HLN.out] at h
        exact h)
      go_region_law (first
        | (refine step_append_lies _ rfl (.tmp 39) (.tmp 42) 81 rfl (w2.heap.size + 1) 94 i0 (.agg #[.int .i8 0, .int .i8 0, .int .i16 0, .int .i16 0, .int .i16 0]) 5 8 Tryd.underlying81 hi hiz0 hiz1 hiz2 rfl (by decide) v0 k (flatSo (soldTo ps k)) (by simp [Act.eval]) (HOW.out w3 _ HB3.out) ⟨w3.heap.size, 0, none⟩ 1 1 [.int .i8 x0, .int .i8 x1, .int .i16 x2, .int .i16 x4, .int .i16 x3] (by simp [Act.eval]) rfl (HN.out w3) H1.out (by omega) (by unfold maxLen; omega) (by omega) (by simp; omega) (w3.heap.size + 1) (by simp) ?_; intro gg gcap wz hown hgrow hat hwz; have q0 : wz.cell? ⟨w2.heap.size, 0, none⟩ = some v0 := (hgrow.cell_far ⟨w2.heap.size, 0, none⟩ (by simp; omega) hneB).trans (g0' _); have q1 : wz.frozen? ⟨w2.heap.size, 0, none⟩ = false := (hgrow.frozen_far ⟨w2.heap.size, 0, none⟩ (by simp; omega) hneB).trans (((HI1.out.below HB3.out).alloc _).fz 0); have HST := Lib.hid (((HI1.out.below HB3.out).alloc _).step0 (s := soldO (x0, x1, x2, x3, x4)) hown (by rw [HLN.out]) hgrow (by rcases hat with h | h; exact .inl h; exact .inr (by simpa using h))); clear hown hgrow hat)
        | (go_simp; go_at_call 90; refine (HCA.out _).mono ?_; rintro e w3 ⟨rfl, b3⟩; have b3' : Below W1.heap.size W1 w3 := (Below.drew (Below.refl W1.heap.size W1)).trans b3; have g0 : w3.cell? ⟨w2.heap.size, 0, none⟩ = some v0 := (HI1.out.below b3').c0; have g0' : ∀ o, (w3.alloc o).cell? ⟨w2.heap.size, 0, none⟩ = some v0 := fun o => ((HI1.out.below b3').alloc o).c0; have hs3 : W1.heap.size ≤ w3.heap.size := b3'.size; have HB3 := Lib.hid b3'; clear b3 b3'))
      all_goals
        go_wp2_with fail
        go_roundw
        case rel => exact ⟨k + 1, _, _, by omega, by go_num, HV1.out, by rw [HSU.out, HQ.out]; exact HST.out⟩
        case measure => simp [intOf]; omega
    · have hk' : k = m := by omega
      have HE : Hid (soldTo ps k = ps.map soldO) := Lib.hid (by rw [hk', ← HPM.out.1]; exact soldTo_all)
      clear hk' hinv
      have HI2 : Hid (BkInv w2.heap.size days w2 wr v0 v1 (ps.map soldO) []) := Lib.hid (by rw [← HE.out]; exact HI.out)
      clear HI HE
      go_wp2_with fail
      go_loopw [48] (fun i wr => ∃ (k : Nat) (v0 v1 : Value), k ≤ n ∧ i = .int .i64 k ∧ BkInv w2.heap.size days w2 wr v0 v1 (ps.map soldO) (rs.take k)) (fun i _ => n - (intOf i).toNat)
      case atStart => exact ⟨0, _, _, Nat.zero_le _, rfl, by simpa using HI2.out⟩
      case round =>
        obtain ⟨k, v0, v1, hk, rfl, hinv⟩ := hrel
        have HI := Lib.hid hinv
        clear HI2
        by_cases hlt : k < n
        · obtain rfl := HBU.out (by omega)
          have hwr := HI.out.lt
          obtain ⟨c0, c1, c2, c3⟩ := (hc1.below (hw02.trans (HI.out.be.mono hw02.size))) k (by have := HL1.out; omega)
          obtain ⟨q, hq⟩ : ∃ q, rs.getD k (0, 0, 0, 0) = q := ⟨_, rfl⟩
          rw [hq] at c0 c1 c2 c3
          have HQ := Lib.hid hq
          obtain ⟨x0, x1, x2, x3⟩ := q
          have hkl : (k : Int) < (n : Int) := by omega
          have hk40 : k < 40 := by omega
          have HSU := Lib.hid (sentTo_succ (rs := rs) (k := k) (by have := HL1.out; omega))
          have HLN := Lib.hid (show (rs.take k).length = k by have := HL1.out; simp; omega)
          clear hq hinv
          go_wp2_with fail
          obtain ⟨W1, e1⟩ : ∃ V, wr.alloc (.cells #[.int .i8 x0, .int .i8 x1, .int .i16 x2, .int .i16 x3] 75) = V := ⟨_, rfl⟩
          have s1 : W1.heap.size = wr.heap.size + 1 := by rw [← e1]; simp
          have HI1 : Hid (BkInv w2.heap.size days w2 W1 v0 v1 (ps.map soldO) (rs.take k)) := Lib.hid (by rw [← e1]; exact HI.out.alloc _)
          have f0 := HI1.out.c1
          have f1 := HI1.out.fz 1
          have flt := HI1.out.lt
          have hneB : some w2.heap.size ≠ v1.ownBlock := fun e => by have := (HI1.out.o1.block _ e.symm).1; omega
          have t0 : W1.cell? ⟨wr.heap.size, 0, none⟩ = some (.int .i8 x0) := by rw [← e1]; simp
          have t1 : W1.cell? ⟨wr.heap.size, 1, none⟩ = some (.int .i8 x1) := by rw [← e1]; simp
          have t2 : W1.cell? ⟨wr.heap.size, 2, none⟩ = some (.int .i16 x2) := by rw [← e1]; simp
          have t3 : W1.cell? ⟨wr.heap.size, 3, none⟩ = some (.int .i16 x3) := by rw [← e1]; simp
          rw [e1]
          clear e1 c0 c1 c2 c3
          have HCA : Hid (∀ W, Calls Tryd.prog 91 #[.agg #[.int .i8 x0, .int .i8 x1, .int .i16 x2, .int .i16 x3]] W fun e w' => e = .returned (.agg #[.int .i8 x0, .int .i8 x1, .int .i16 x2, .int .i16 x3]) ∧ Below W.heap.size W w') := Lib.hid (fun W => isent_any _ _ _ _ W)
          have HN : Hid (∀ (W : World), ∀ j u, ([.int .i8 x0, .int .i8 x1, .int .i16 x2, .int .i16 x3] : List Value)[j]? = some u → (W.alloc (.cells #[.int .i8 x0, .int .i8 x1, .int .i16 x2, .int .i16 x3] 96)).cell? ((⟨W.heap.size, 0, none⟩ : Addr).add j) = some u) := Lib.hid (fun W j u hj => by
            rw [addr_add, Nat.zero_add, World.cell?_alloc_at _ _ _ _ rfl]
            simpa using hj)
          have H1 : Hid (∀ u ∈ ([.int .i8 x0, .int .i8 x1, .int .i16 x2, .int .i16 x3] : List Value), u.oneCell' = true) := Lib.hid (by intro u hu; simp at hu; rcases hu with rfl | rfl | rfl | rfl <;> rfl)
          have HOW : Hid (∀ W2 o, Below W1.heap.size W1 W2 → (W2.alloc o).ownsRow (w2.heap.size + 1) 96 4 v1 k (flatSe (rs.take k))) := Lib.hid (fun W2 o hb => by
            have h := ((HI1.out.below hb).alloc o).o1
            unfold OwnSe at h
            rw [HLN.out] at h
            exact h)
          go_region_law (first
            | (refine step_append_lies _ rfl (.tmp 53) (.tmp 56) 82 rfl (w2.heap.size + 1) 96 j0 (.agg #[.int .i8 0, .int .i8 0, .int .i16 0, .int .i16 0]) 4 6 Tryd.underlying82 hj hjz0 hjz1 hjz2 rfl (by decide) v1 k (flatSe (rs.take k)) (by simp [Act.eval]) (HOW.out w3 _ HB3.out) ⟨w3.heap.size, 0, none⟩ 1 1 [.int .i8 x0, .int .i8 x1, .int .i16 x2, .int .i16 x3] (by simp [Act.eval]) rfl (HN.out w3) H1.out (by omega) (by unfold maxLen; omega) (by omega) (by simp; omega) (w3.heap.size + 1) (by simp) ?_; intro gg gcap wz hown hgrow hat hwz; have q0 : wz.cell? ⟨w2.heap.size, 1, none⟩ = some v1 := (hgrow.cell_far ⟨w2.heap.size, 1, none⟩ (by simp; omega) hneB).trans (g0' _); have q1 : wz.frozen? ⟨w2.heap.size, 1, none⟩ = false := (hgrow.frozen_far ⟨w2.heap.size, 1, none⟩ (by simp; omega) hneB).trans (((HI1.out.below HB3.out).alloc _).fz 1); have HST := Lib.hid (((HI1.out.below HB3.out).alloc _).step1 (s := (x0, x1, x2, x3)) hown (by rw [HLN.out]) hgrow (by rcases hat with h | h; exact .inl h; exact .inr (by simpa using h))); clear hown hgrow hat)
            | (go_simp; go_at_call 91; refine (HCA.out _).mono ?_; rintro e w3 ⟨rfl, b3⟩; have b3' : Below W1.heap.size W1 w3 := (Below.drew (Below.refl W1.heap.size W1)).trans b3; have g0 : w3.cell? ⟨w2.heap.size, 1, none⟩ = some v1 := (HI1.out.below b3').c1; have g0' : ∀ o, (w3.alloc o).cell? ⟨w2.heap.size, 1, none⟩ = some v1 := fun o => ((HI1.out.below b3').alloc o).c1; have hs3 : W1.heap.size ≤ w3.heap.size := b3'.size; have HB3 := Lib.hid b3'; clear b3 b3'))
          all_goals
            go_wp2_with fail
            go_roundw
            case rel => exact ⟨k + 1, _, _, by omega, by go_num, by rw [HSU.out, HQ.out]; exact HST.out⟩
            case measure => simp [intOf]; omega
        · have hk' : k = n := by omega
          have HE : Hid (BkInv w2.heap.size days w2 wr v0 v1 (ps.map soldO) rs) := Lib.hid (by have h := HI.out; rw [hk', ← HPM.out.2, List.take_length] at h; exact h)
          clear hk' hinv HI
          obtain ⟨p0, p1, p2, rfl⟩ := row_is HE.out.o0
          obtain ⟨p3, p4, p5, rfl⟩ := row_is HE.out.o1
          have z0 := HE.out.c0
          have z1 := HE.out.c1
          have z2 := HE.out.c2
          have y0 : wr.cell? ⟨w.heap.size, 0, none⟩ = some (.slice none 0 0) := (HE.out.be.cell (p := ⟨w.heap.size, 0, none⟩) (by simp only; omega)).trans q0
          have y1 : wr.cell? ⟨w.heap.size, 1, none⟩ = some (.slice none 0 0) := (HE.out.be.cell (p := ⟨w.heap.size, 1, none⟩) (by simp only; omega)).trans q1
          have y2 : wr.cell? ⟨w.heap.size, 2, none⟩ = some (.int .i64 0) := (HE.out.be.cell (p := ⟨w.heap.size, 2, none⟩) (by simp only; omega)).trans q2
          have yf : ∀ j, wr.frozen? ⟨w.heap.size, j, none⟩ = false := fun j => by rw [World.frozen?_of_block (w := w2) (a := ⟨w.heap.size, j, none⟩) (HE.out.be.block w.heap.size (by omega))]; exact qf j
          have u0 := yf 0
          have u1 := yf 1
          have u2 := yf 2
          go_wp2_with fail
          obtain ⟨W9, e9⟩ : ∃ V, ((wr.setCell ⟨w.heap.size, 0, none⟩ (.slice p0 p1 p2)).setCell ⟨w.heap.size, 1, none⟩ (.slice p3 p4 p5)).setCell ⟨w.heap.size, 2, none⟩ (.int .i64 days) = V := ⟨_, rfl⟩
          have x0 : W9.cell? ⟨w.heap.size, 0, none⟩ = some (.slice p0 p1 p2) := by rw [← e9]; exact bset_off (by decide) (bset_off (by decide) (World.cell?_setCell_same _ _ _ y0))
          have x1 : W9.cell? ⟨w.heap.size, 1, none⟩ = some (.slice p3 p4 p5) := by rw [← e9]; exact bset_off (by decide) (World.cell?_setCell_same _ _ _ (bset_off (by decide) y1))
          have x2 : W9.cell? ⟨w.heap.size, 2, none⟩ = some (.int .i64 days) := by rw [← e9]; exact World.cell?_setCell_same _ _ _ (bset_off (by decide) (bset_off (by decide) y2))
          have HX0 : Hid (OwnSo 94 w.heap.size W9 (.slice p0 p1 p2) (ps.map soldO)) := Lib.hid (by rw [← e9]; exact OwnSo.mono (own_set (own_set (own_set HE.out.o0 _ (by simp; omega)) _ (by simp; omega)) _ (by simp; omega)) (by omega))
          have HX1 : Hid (OwnSe 96 w.heap.size W9 (.slice p3 p4 p5) rs) := Lib.hid (by rw [← e9]; exact OwnSe.mono (own_set (own_set (own_set HE.out.o1 _ (by simp; omega)) _ (by simp; omega)) _ (by simp; omega)) (by omega))
          have HB9 : Hid (Below w.heap.size w W9) := Lib.hid (by rw [← e9]; exact (((hw02.trans (HE.out.be.mono (by omega))).setCell (Nat.le_refl _) _).setCell (Nat.le_refl _) _).setCell (Nat.le_refl _) _)
          rw [e9]
          clear e9 HE y0 y1 y2 yf u0 u1 u2 z0 z1 z2
          exact bodyPost_ret (v := .tuple #[.agg #[.slice p0 p1 p2, .slice p3 p4 p5, .int .i64 days], .nilIface]) (by simp [results, Tryd.results55, go_sem, x0, x1, x2]) rfl ⟨_, _, rfl, HX0.out, HX1.out, HB9.out⟩

/-- The books' value and the error of them, where there are none. -/
def noBooks : Value := .agg #[.slice none 0 0, .slice none 0 0, .int .i64 0]
set_option maxHeartbeats 2000000 in
theorem ibooks_no (v u : Value) (ps : List Q5) (rs : List Q4) (days c : Int) (w : World) (hv : ReadsOd w v ps) (hu : ReadsRt w u rs) (hfo : FitsOd ps) (hfr : FitsRt rs) (hx : ps.length ≤ 1048576) (hy : rs.length ≤ 1048576) (hc : bkC ps rs (dayB days) = c) (hz : c ≠ 0) :
    Calls Tryd.prog 55 #[v, u, .int .i64 days] w fun e w' => e = .returned (.tuple #[noBooks, errV c]) ∧ Below w.heap.size w w' := by
  have HV := Lib.hid hv
  have HU := Lib.hid hu
  obtain ⟨w0, e0⟩ : ∃ V, w.alloc (.cells #[.slice none 0 0, .slice none 0 0, .int .i64 0] 84) = V := ⟨_, rfl⟩
  have s0 : w0.heap.size = w.heap.size + 1 := by rw [← e0]; simp
  have r0 : w0.cell? ⟨w.heap.size, 0, none⟩ = some (.slice none 0 0) := by rw [← e0]; simp
  have r1 : w0.cell? ⟨w.heap.size, 1, none⟩ = some (.slice none 0 0) := by rw [← e0]; simp
  have r2 : w0.cell? ⟨w.heap.size, 2, none⟩ = some (.int .i64 0) := by rw [← e0]; simp
  have rf : ∀ j, w0.frozen? ⟨w.heap.size, j, none⟩ = false := fun j => by rw [← e0]; simp
  have hw0 : Below w.heap.size w w0 := by rw [← e0]; exact (Below.refl _ _).alloc (Nat.le_refl _) _
  have HE0 := Lib.hid e0
  have HFIN : Hid (∀ W, Below w0.heap.size w0 W → (((W.setCell ⟨w.heap.size, 0, none⟩ (.slice none 0 0)).setCell ⟨w.heap.size, 1, none⟩ (.slice none 0 0)).setCell ⟨w.heap.size, 2, none⟩ (.int .i64 0)).cell? ⟨w.heap.size, 0, none⟩ = some (.slice none 0 0) ∧ (((W.setCell ⟨w.heap.size, 0, none⟩ (.slice none 0 0)).setCell ⟨w.heap.size, 1, none⟩ (.slice none 0 0)).setCell ⟨w.heap.size, 2, none⟩ (.int .i64 0)).cell? ⟨w.heap.size, 1, none⟩ = some (.slice none 0 0) ∧ (((W.setCell ⟨w.heap.size, 0, none⟩ (.slice none 0 0)).setCell ⟨w.heap.size, 1, none⟩ (.slice none 0 0)).setCell ⟨w.heap.size, 2, none⟩ (.int .i64 0)).cell? ⟨w.heap.size, 2, none⟩ = some (.int .i64 0) ∧ Below w.heap.size w (((W.setCell ⟨w.heap.size, 0, none⟩ (.slice none 0 0)).setCell ⟨w.heap.size, 1, none⟩ (.slice none 0 0)).setCell ⟨w.heap.size, 2, none⟩ (.int .i64 0))) := Lib.hid (fun W hb => by
    have y0 := (hb.cell (p := ⟨w.heap.size, 0, none⟩) (by simp only; omega)).trans r0
    have y1 := (hb.cell (p := ⟨w.heap.size, 1, none⟩) (by simp only; omega)).trans r1
    have y2 := (hb.cell (p := ⟨w.heap.size, 2, none⟩) (by simp only; omega)).trans r2
    exact ⟨bset_off (by decide) (bset_off (by decide) (World.cell?_setCell_same _ _ _ y0)), bset_off (by decide) (World.cell?_setCell_same _ _ _ (bset_off (by decide) y1)), World.cell?_setCell_same _ _ _ (bset_off (by decide) (bset_off (by decide) y2)),
      (((hw0.trans (hb.mono (by omega))).setCell (Nat.le_refl _) _).setCell (Nat.le_refl _) _).setCell (Nat.le_refl _) _⟩)
  have HCE : Hid (∀ W, Below w0.heap.size w0 W → W.cell? ⟨w.heap.size, 0, none⟩ = some (.slice none 0 0) ∧ W.cell? ⟨w.heap.size, 1, none⟩ = some (.slice none 0 0) ∧ W.cell? ⟨w.heap.size, 2, none⟩ = some (.int .i64 0) ∧ W.frozen? ⟨w.heap.size, 0, none⟩ = false ∧ W.frozen? ⟨w.heap.size, 1, none⟩ = false ∧ W.frozen? ⟨w.heap.size, 2, none⟩ = false) := Lib.hid (fun W hb => by
    have ff : ∀ j, W.frozen? ⟨w.heap.size, j, none⟩ = false := fun j => by rw [World.frozen?_of_block (w := w0) (a := ⟨w.heap.size, j, none⟩) (hb.block w.heap.size (by omega))]; exact rf j
    exact ⟨(hb.cell (p := ⟨w.heap.size, 0, none⟩) (by simp only; omega)).trans r0, (hb.cell (p := ⟨w.heap.size, 1, none⟩) (by simp only; omega)).trans r1, (hb.cell (p := ⟨w.heap.size, 2, none⟩) (by simp only; omega)).trans r2, ff 0, ff 1, ff 2⟩)
  clear r0 r1 r2 rf e0
  by_cases g1 : vldOd ps = true
  · by_cases g2 : vldRt rs = true
    · have g3 : dayB days = false := by
        cases h : dayB days with
        | false => rfl
        | true => rw [h, bkC_0 (by rw [g1, g2]; rfl)] at hc; exact absurd hc.symm hz
      have hc2 : c = 2 := by rw [← hc, g3, bkC_2 (by rw [g1, g2]; rfl)]
      subst hc2
      rw [errV_2]
      have HO := Lib.hid g1
      have HR := Lib.hid g2
      have HD := Lib.hid g3
      clear g1 g2 g3 hc hz
      go_enter Tryd.func55, Tryd.ntmps55
      go_wp2_with fail
      rw [HE0.out]
      refine (ivldOd_any _ ps _ (HV.out.below hw0) hfo hx).mono ?_
      rintro e w1 ⟨rfl, b1⟩
      rw [HO.out]
      have hw01 := blink hw0 b1
      go_wp2_with fail
      refine (ivldRt_any _ rs _ (HU.out.below hw01) hfr hy).mono ?_
      rintro e w2 ⟨rfl, b2⟩
      rw [HR.out]
      have b12 : Below w0.heap.size w0 w2 := blink b1 b2
      obtain ⟨y0, y1, y2, u0, u1, u2⟩ := HCE.out w2 b12
      have HF := Lib.hid (HFIN.out w2 b12)
      clear b1 b2 hw01 hw0 b12
      go_wp2_with (go_at_call 89; refine (iday_any _ _).mono ?_; rintro e w3 ⟨rfl, hw3⟩; rw [hw3, HD.out]; clear hw3 w3)
      obtain ⟨x0, x1, x2, x3⟩ := HF.out
      exact bodyPost_ret (v := .tuple #[noBooks, .iface 90 (.agg #[])]) (by simp [results, Tryd.results55, go_sem, noBooks, x0, x1, x2]) rfl ⟨rfl, x3⟩
    · have g2 : vldRt rs = false := by simpa using g2
      have hc1 : c = 1 := by rw [← hc, bkC_1 (by rw [g1, g2]; rfl)]
      subst hc1
      rw [errV_1]
      have HO := Lib.hid g1
      have HR := Lib.hid g2
      clear g1 g2 hc hz
      go_enter Tryd.func55, Tryd.ntmps55
      go_wp2_with fail
      rw [HE0.out]
      refine (ivldOd_any _ ps _ (HV.out.below hw0) hfo hx).mono ?_
      rintro e w1 ⟨rfl, b1⟩
      rw [HO.out]
      have hw01 := blink hw0 b1
      go_wp2_with fail
      refine (ivldRt_any _ rs _ (HU.out.below hw01) hfr hy).mono ?_
      rintro e w2 ⟨rfl, b2⟩
      rw [HR.out]
      have b12 : Below w0.heap.size w0 w2 := blink b1 b2
      obtain ⟨y0, y1, y2, u0, u1, u2⟩ := HCE.out w2 b12
      have HF := Lib.hid (HFIN.out w2 b12)
      clear b1 b2 hw01 hw0 b12
      go_wp2_with fail
      obtain ⟨x0, x1, x2, x3⟩ := HF.out
      exact bodyPost_ret (v := .tuple #[noBooks, .iface 128 (.agg #[])]) (by simp [results, Tryd.results55, go_sem, noBooks, x0, x1, x2]) rfl ⟨rfl, x3⟩
  · have g1 : vldOd ps = false := by simpa using g1
    have hc1 : c = 1 := by rw [← hc, bkC_1 (by rw [g1]; rfl)]
    subst hc1
    rw [errV_1]
    have HO := Lib.hid g1
    clear g1 hc hz
    go_enter Tryd.func55, Tryd.ntmps55
    go_wp2_with fail
    rw [HE0.out]
    refine (ivldOd_any _ ps _ (HV.out.below hw0) hfo hx).mono ?_
    rintro e w1 ⟨rfl, b1⟩
    rw [HO.out]
    obtain ⟨y0, y1, y2, u0, u1, u2⟩ := HCE.out w1 b1
    have HF := Lib.hid (HFIN.out w1 b1)
    clear b1 hw0
    go_wp2_with fail
    obtain ⟨x0, x1, x2, x3⟩ := HF.out
    exact bodyPost_ret (v := .tuple #[noBooks, .iface 128 (.agg #[])]) (by simp [results, Tryd.results55, go_sem, noBooks, x0, x1, x2]) rfl ⟨rfl, x3⟩
end Go.Proofs.YtgimpmdiilmkoaaDoor
