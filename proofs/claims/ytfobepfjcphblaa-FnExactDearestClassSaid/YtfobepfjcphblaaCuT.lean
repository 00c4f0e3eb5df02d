/-
  Sums of forms; WorthOf and GramsOf on both sides.
-/
import Derived.Test.YtfobepfjcphblaaCuW
import Derived.Test.YtfobepfjcphblaaCuS
namespace Go.Proofs.Ytfobepfjcphblaa
open Go Go.RowKit
set_option linter.unusedVariables false

theorem keep3 {W : World} {B : Nat} {T : TypeId} {a b c : Value} (h : BlkA W B T #[a, b, c]) (x y z : Value) : BlkA (((W.setCell ⟨B, 0, none⟩ x).setCell ⟨B, 1, none⟩ y).setCell ⟨B, 2, none⟩ z) B T #[x, y, z] := ((h.set 0 x).set 1 y).set 2 z

set_option maxHeartbeats 2000000 in
theorem iwith_any (a b c x0 x1 x2 x3 : Int) (hf : FitL (x0, x1, x2, x3)) (ha : 0 ≤ a ∧ a ≤ 1000000000000) (hb : 0 ≤ b ∧ b ≤ 1000000000000) (hc : 0 ≤ c ∧ c ≤ 1000000000000) (w : World) :
    Calls Try.prog 74 #[.agg #[.int .i64 a, .int .i64 b, .int .i64 c], .agg #[.int .i8 x0, .int .i16 x1, .int .i32 x2, .int .i32 x3]] w fun e w' => e = .returned (.agg #[.int .i64 (a + x1), .int .i64 (b + x2), .int .i64 (c + x3)]) ∧ Below w.heap.size w w' := by
  unfold FitL at hf
  simp only at hf
  obtain ⟨⟨l0, u0⟩, ⟨l1, u1⟩, ⟨l2, u2⟩, l3, u3⟩ := hf
  obtain ⟨a0, a1⟩ := ha
  obtain ⟨b0, b1⟩ := hb
  obtain ⟨c0, c1⟩ := hc
  go_enter Try.func74, Try.ntmps74
  go_wp2
  exact bodyPost_ret (v := .agg #[.int .i64 (a + x1), .int .i64 (b + x2), .int .i64 (c + x3)]) (by simp [results, Try.results74, go_sem]) rfl ⟨rfl, by repeat (first | exact Below.refl _ _ | refine Below.drew ?_ | refine Below.setCell ?_ (by first | (simp; done) | (simp; omega) | omega) _ | refine Below.alloc ?_ (by first | (simp; done) | (simp; omega) | omega) _)⟩

set_option maxHeartbeats 8000000 in
set_option maxRecDepth 100000 in
theorem isums_row (b len cap n : Nat) (ls : List (Int × Int × Int × Int)) (hl : ls.length = len) (h10 : len ≤ 10) (hfit : FitsL ls) (hok : OkLTo n ls ls.length) (w : World) (hc : CellsL w b ls) :
    Calls Try.prog 61 #[.slice (some ⟨b, 0, none⟩) len cap] w fun e w' => e = .returned (.agg #[.int .i64 (countTo ls len), .int .i64 (worthTo ls len), .int .i64 (gramsTo ls len)]) ∧ Below w.heap.size w w' := by
  have HL := Lib.hid hl
  have HI := Lib.hid hfit
  have HO := Lib.hid hok
  clear hl hfit hok
  go_enter Try.func61, Try.ntmps61
  go_wp2_with fail
  go_loopw [8] (fun i wr => ∃ k : Nat, k ≤ len ∧ i = .int .i64 k ∧ BlkA wr w.heap.size 80 #[.int .i64 0, .int .i64 0, .int .i64 0] ∧ BlkA wr (w.heap.size + 1) 80 #[.int .i64 (countTo ls k), .int .i64 (worthTo ls k), .int .i64 (gramsTo ls k)] ∧ Below w.heap.size w wr) (fun i _ => len - (intOf i).toNat)
  case atStart =>
    exact ⟨0, Nat.zero_le _, rfl, (BlkA.new rfl _ _).alloc _, BlkA.new (by simp) _ _, ((Below.refl _ _).alloc (Nat.le_refl _) _).alloc (by simp) _⟩
  case round =>
    obtain ⟨k, hk, rfl, hres, hall, hnx⟩ := hrel
    have HB := Lib.hid hnx
    have HRES := Lib.hid hres
    have HALL := Lib.hid hall
    have hsz := hall.lt
    have hwr : w.heap.size ≤ wr.heap.size := by omega
    have s0 := hall.at 0
    have s1 := hall.at 1
    have s2 := hall.at 2
    simp at s0 s1 s2
    obtain ⟨⟨k0, k1⟩, ⟨v0, v1⟩, g0, g1⟩ := sums_in (n := n) (ls := ls) (k := k) (fun i hi => HO.out i (by have := HL.out; omega))
    obtain ⟨ct, hct⟩ : ∃ x, countTo ls k = x := ⟨_, rfl⟩
    obtain ⟨wt, hwt⟩ : ∃ x, worthTo ls k = x := ⟨_, rfl⟩
    obtain ⟨gt, hgt⟩ : ∃ x, gramsTo ls k = x := ⟨_, rfl⟩
    rw [hct] at s0 k0 k1
    rw [hwt] at s1 v0 v1
    rw [hgt] at s2 g0 g1
    have HCT := Lib.hid hct
    have HWT := Lib.hid hwt
    have HGT := Lib.hid hgt
    by_cases hlt : k < len
    · obtain ⟨c0, c1, c2, c3⟩ := hc.below hnx k (by have := HL.out; omega)
      have hf := HI.out.get k (by have := HL.out; omega)
      obtain ⟨q, hq⟩ : ∃ q, ls.getD k (0, 0, 0, 0) = q := ⟨_, rfl⟩
      rw [hq] at c0 c1 c2 c3 hf
      obtain ⟨x0, x1, x2, x3⟩ := q
      have HF := Lib.hid hf
      have hkl : (k : Int) < (len : Int) := by omega
      have HC := Lib.hid hc
      have HN1 : Hid (countTo ls (k + 1) = ct + x1) := Lib.hid (by rw [countTo, hq, hct])
      have HN2 : Hid (worthTo ls (k + 1) = wt + x2) := Lib.hid (by rw [worthTo, hq, hwt])
      have HN3 : Hid (gramsTo ls (k + 1) = gt + x3) := Lib.hid (by rw [gramsTo, hq, hgt])
      have HK1 : Hid (k ≤ 10) := Lib.hid (by omega)
      clear hq hnx hc hf hres hall hct hwt hgt
      go_wp2_with fail
      refine (iwith_any ct wt gt x0 x1 x2 x3 HF.out ⟨k0, by have := HK1.out; omega⟩ ⟨v0, by have := HK1.out; omega⟩ ⟨g0, by have := HK1.out; omega⟩ _).mono ?_
      rintro e w2 ⟨rfl, b2⟩
      have q2 := (HALL.out.alloc (.cells #[.int .i8 x0, .int .i16 x1, .int .i32 x2, .int .i32 x3] 46)).below b2
      have r2 := (HRES.out.alloc (.cells #[.int .i8 x0, .int .i16 x1, .int .i32 x2, .int .i32 x3] 46)).below b2
      have bb : Below w.heap.size w w2 := (HB.out.alloc hwr _).trans (b2.mono (by simp; omega))
      have f0 := q2.frozen 0
      have f1 := q2.frozen 1
      have f2 := q2.frozen 2
      have p0 := q2.at 0
      have p1 := q2.at 1
      have p2 := q2.at 2
      simp at p0 p1 p2
      have HQ2 := Lib.hid q2
      have HR2 := Lib.hid r2
      have HB2 := Lib.hid bb
      clear q2 r2 bb b2
      go_wp2_with fail
      go_roundw
      case rel =>
        refine ⟨k + 1, by omega, by go_num, ((HR2.out.other _ _ (by simp)).other _ _ (by simp)).other _ _ (by simp), ?_, ((HB2.out.setCell (by simp) _).setCell (by simp) _).setCell (by simp) _⟩
        rw [HN1.out, HN2.out, HN3.out]
        exact keep3 HQ2.out _ _ _
      case measure => simp [intOf]; omega
    · have hk' : k = len := by omega
      have HE := Lib.hid hk'
      have r0 := hres.at 0
      have r1 := hres.at 1
      have r2 := hres.at 2
      simp at r0 r1 r2
      have f0 := hres.frozen 0
      have f1 := hres.frozen 1
      have f2 := hres.frozen 2
      clear hk' hc hnx hres hall hct hwt hgt
      have HV : Hid (ct = countTo ls len ∧ wt = worthTo ls len ∧ gt = gramsTo ls len) := Lib.hid ⟨by rw [← HE.out, HCT.out], by rw [← HE.out, HWT.out], by rw [← HE.out, HGT.out]⟩
      obtain ⟨WZ, hWZ⟩ : ∃ W, ((wr.setCell ⟨w.heap.size, 0, none⟩ (.int .i64 ct)).setCell ⟨w.heap.size, 1, none⟩ (.int .i64 wt)).setCell ⟨w.heap.size, 2, none⟩ (.int .i64 gt) = W := ⟨_, rfl⟩
      have z := keep3 HRES.out (.int .i64 ct) (.int .i64 wt) (.int .i64 gt)
      have HBZ : Hid (Below w.heap.size w WZ) := Lib.hid (by rw [← hWZ]; exact ((HB.out.setCell (by simp) _).setCell (by simp) _).setCell (by simp) _)
      rw [hWZ] at z
      have HZ := Lib.hid hWZ
      have z0 : WZ.cell? ⟨w.heap.size, 0, none⟩ = some (.int .i64 ct) := z.at 0
      have z1 : WZ.cell? ⟨w.heap.size, 1, none⟩ = some (.int .i64 wt) := z.at 1
      have z2 : WZ.cell? ⟨w.heap.size, 2, none⟩ = some (.int .i64 gt) := z.at 2
      clear z hWZ
      go_wp2_with fail
      rw [HZ.out]
      exact bodyPost_ret (v := .agg #[.int .i64 ct, .int .i64 wt, .int .i64 gt]) (by simp [results, Try.results61, go_sem, z0, z1, z2]) rfl ⟨by rw [HV.out.1, HV.out.2.1, HV.out.2.2], HBZ.out⟩

set_option maxHeartbeats 2000000 in
theorem isums_zero (a : Option Addr) (cap : Nat) (w : World) :
    Calls Try.prog 61 #[.slice a 0 cap] w fun e w' => e = .returned (.agg #[.int .i64 0, .int .i64 0, .int .i64 0]) ∧ Below w.heap.size w w' := by
  go_enter Try.func61, Try.ntmps61
  go_wp2_with fail
  refine wp_loop_rounds 1 ?_
  rw [rounds_succ]
  go_wp2_with fail
  exact bodyPost_ret (v := .agg #[.int .i64 0, .int .i64 0, .int .i64 0]) (by simp [results, Try.results61, go_sem]) rfl ⟨rfl, by repeat (first | exact Below.refl _ _ | refine Below.drew ?_ | refine Below.setCell ?_ (by first | (simp; done) | (simp; omega) | omega) _ | refine Below.alloc ?_ (by first | (simp; done) | (simp; omega) | omega) _)⟩
theorem isums_any (v : Value) (n : Nat) (ls : List (Int × Int × Int × Int)) (w : World) (hv : ReadsL w v ls) (hfit : FitsL ls) (h10 : ls.length ≤ 10) (hok : OkLTo n ls ls.length) :
    Calls Try.prog 61 #[v] w fun e w' => e = .returned (.agg #[.int .i64 (countTo ls ls.length), .int .i64 (worthTo ls ls.length), .int .i64 (gramsTo ls ls.length)]) ∧ Below w.heap.size w w' := by
  obtain ⟨a, cap, rfl, h⟩ := hv
  by_cases h0 : ls = []
  · subst h0
    exact isums_zero a cap w
  · obtain ⟨b, rfl, hc⟩ := h h0
    exact isums_row b ls.length cap n ls rfl h10 hfit hok w hc

theorem field_worth (a b c : Int) (w : World) : (Instr.field 80 (.agg #[.int .i64 a, .int .i64 b, .int .i64 c]) 1).run Try.prog w = .ok (.int .i64 b) w := by kernel_rfl
theorem field_grams (a b c : Int) (w : World) : (Instr.field 80 (.agg #[.int .i64 a, .int .i64 b, .int .i64 c]) 2).run Try.prog w = .ok (.int .i64 c) w := by kernel_rfl
/-! ### WorthOf, GramsOf -/
def codeF (cs ls : List (Int × Int × Int × Int)) : Int := if vldF cs ls = true then 0 else 1
def worthR (cs ls : List (Int × Int × Int × Int)) : Int := if vldF cs ls = true then worthTo ls ls.length else 0
def gramsR (cs ls : List (Int × Int × Int × Int)) : Int := if vldF cs ls = true then gramsTo ls ls.length else 0
theorem worth_ok {cs ls : List (Int × Int × Int × Int)} (h : vldF cs ls = true) : worthR cs ls = worthTo ls ls.length ∧ codeF cs ls = 0 := by unfold worthR codeF; rw [if_pos h, if_pos h]; exact ⟨rfl, rfl⟩
theorem worth_no {cs ls : List (Int × Int × Int × Int)} (h : vldF cs ls = false) : worthR cs ls = 0 ∧ codeF cs ls = 1 := by unfold worthR codeF; rw [if_neg (by rw [h]; simp), if_neg (by rw [h]; simp)]; exact ⟨rfl, rfl⟩
theorem grams_ok {cs ls : List (Int × Int × Int × Int)} (h : vldF cs ls = true) : gramsR cs ls = gramsTo ls ls.length ∧ codeF cs ls = 0 := by unfold gramsR codeF; rw [if_pos h, if_pos h]; exact ⟨rfl, rfl⟩
theorem grams_no {cs ls : List (Int × Int × Int × Int)} (h : vldF cs ls = false) : gramsR cs ls = 0 ∧ codeF cs ls = 1 := by unfold gramsR codeF; rw [if_neg (by rw [h]; simp), if_neg (by rw [h]; simp)]; exact ⟨rfl, rfl⟩

set_option maxHeartbeats 4000000 in
set_option maxRecDepth 100000 in
theorem sworth_row (b len cap n : Nat) (ls : List (Int × Int × Int × Int)) (hl : ls.length = len) (h10 : len ≤ 10) (hfit : FitsL ls) (hok : OkLTo n ls ls.length) (w : World) (hc : CellsL w b ls) :
    Calls Try.prog 60 #[.slice (some ⟨b, 0, none⟩) len cap] w fun e w' => e = .returned (.int .i64 (worthTo ls len)) ∧ w' = w := by
  have HL := Lib.hid hl
  have HI := Lib.hid hfit
  have HO := Lib.hid hok
  have HC := Lib.hid hc
  clear hl hfit hok hc
  go_enter Try.func60, Try.ntmps60
  go_wp2_with fail
  go_loop [3, 4] (fun s i => ∃ k : Nat, k ≤ len ∧ i = .int .i64 k ∧ s = .int .i64 (worthTo ls k)) (fun _ i => len - (intOf i).toNat)
  case atStart => exact ⟨0, Nat.zero_le _, rfl, rfl⟩
  case round =>
    obtain ⟨k, hk, rfl, rfl⟩ := hrel
    obtain ⟨_, ⟨v0, v1⟩, g0, g1⟩ := sums_in (n := n) (ls := ls) (k := k) (fun i hi => HO.out i (by have := HL.out; omega))
    obtain ⟨wt, hwt⟩ : ∃ x, worthTo ls k = x := ⟨_, rfl⟩
    rw [hwt] at v0 v1 ⊢
    have HWT := Lib.hid hwt
    by_cases hlt : k < len
    · obtain ⟨c0, c1, c2, c3⟩ := HC.out k (by have := HL.out; omega)
      have hf := HI.out.get k (by have := HL.out; omega)
      obtain ⟨q, hq⟩ : ∃ q, ls.getD k (0, 0, 0, 0) = q := ⟨_, rfl⟩
      rw [hq] at c0 c1 c2 c3 hf
      obtain ⟨x0, x1, x2, x3⟩ := q
      unfold FitL at hf
      simp only at hf
      obtain ⟨⟨l0, u0⟩, ⟨l1, u1⟩, ⟨l2, u2⟩, l3, u3⟩ := hf
      have hkl : (k : Int) < (len : Int) := by omega
      have HN : Hid (worthTo ls (k + 1) = wt + x2) := Lib.hid (by rw [worthTo, hq, hwt])
      clear hq hwt
      go_wp2_with fail
      go_round
      case rel => exact ⟨k + 1, by omega, by go_num, by rw [HN.out]⟩
      case measure => simp [intOf]; omega
    · have hk' : k = len := by omega
      have HE : Hid (wt = worthTo ls len) := Lib.hid (by rw [← hk', HWT.out])
      clear hk'
      go_wp2_with fail
      go_ret
      exact ⟨ret_int HE.out, rfl⟩
theorem sworth_zero (a : Option Addr) (cap : Nat) (w : World) :
    Calls Try.prog 60 #[.slice a 0 cap] w fun e w' => e = .returned (.int .i64 0) ∧ w' = w := by
  go_enter Try.func60, Try.ntmps60
  go_wp2
  refine wp_loop_rounds 1 ?_
  rw [rounds_succ]
  go_wp2
  go_ret
  exact ⟨rfl, rfl⟩
theorem sworth_any (v : Value) (n : Nat) (ls : List (Int × Int × Int × Int)) (w : World) (hv : ReadsL w v ls) (hfit : FitsL ls) (h10 : ls.length ≤ 10) (hok : OkLTo n ls ls.length) :
    Calls Try.prog 60 #[v] w fun e w' => e = .returned (.int .i64 (worthTo ls ls.length)) ∧ w' = w := by
  obtain ⟨a, cap, rfl, h⟩ := hv
  by_cases h0 : ls = []
  · subst h0
    exact sworth_zero a cap w
  · obtain ⟨b, rfl, hc⟩ := h h0
    exact sworth_row b ls.length cap n ls rfl h10 hfit hok w hc

set_option maxHeartbeats 2000000 in
theorem sworthOf_any (v u : Value) (cs ls : List (Int × Int × Int × Int)) (w : World) (hv : ReadsC w v cs) (hu : ReadsL w u ls) (hfc : FitsC cs) (hfl : FitsL ls) (hx : cs.length ≤ 1048576) (hy : ls.length ≤ 1048576) :
    Calls Try.prog 29 #[v, u] w fun e w' => e = .returned (.tuple #[.int .i64 (worthR cs ls), .int .i64 (codeF cs ls)]) ∧ Below w.heap.size w w' := by
  by_cases h : vldF cs ls = true
  · have HR := Lib.hid (worth_ok h)
    obtain ⟨_, h10, hok⟩ := vldF_spec h
    have HV := Lib.hid h
    clear h
    go_enter Try.func29, Try.ntmps29
    go_wp2_with fail
    refine (sokF_any _ _ cs ls _ hv hu hfc hfl hx hy).mono ?_
    rintro e w2 ⟨rfl, b2⟩
    rw [HV.out]
    go_wp2_with fail
    refine (sworth_any _ _ ls _ (hu.below b2) hfl h10 hok).mono ?_
    rintro e w3 ⟨rfl, hw⟩
    subst hw
    go_wp2_with fail
    go_ret2
    exact ⟨ret_two HR.out, b2⟩
  · have h : vldF cs ls = false := by simpa using h
    have HR := Lib.hid (worth_no h)
    have HV := Lib.hid h
    clear h
    go_enter Try.func29, Try.ntmps29
    go_wp2_with fail
    refine (sokF_any _ _ cs ls _ hv hu hfc hfl hx hy).mono ?_
    rintro e w2 ⟨rfl, b2⟩
    rw [HV.out]
    go_wp2_with fail
    go_ret2
    exact ⟨ret_two HR.out, b2⟩

set_option maxHeartbeats 4000000 in
set_option maxRecDepth 100000 in
theorem sgrams_row (b len cap : Nat) (v : Value) (cs ls : List (Int × Int × Int × Int)) (hl : ls.length = len) (hx : cs.length ≤ 1048576) (w : World) (hv : ReadsC w v cs) (hfc : FitsC cs) (hfl : FitsL ls) (hc : CellsL w b ls) (h : vldF cs ls = true) :
    Calls Try.prog 31 #[v, .slice (some ⟨b, 0, none⟩) len cap] w fun e w' => e = .returned (.tuple #[.int .i64 (gramsTo ls len), .int .i64 0]) ∧ Below w.heap.size w w' := by
  obtain ⟨_, h10, hok⟩ := vldF_spec h
  have HU : Hid (ReadsL w (.slice (some ⟨b, 0, none⟩) len cap) ls) := Lib.hid ⟨_, cap, by rw [hl], fun _ => ⟨b, rfl, hc⟩⟩
  have HL := Lib.hid hl
  have HI := Lib.hid hfl
  have HO := Lib.hid hok
  have HV := Lib.hid h
  rw [hl] at h10
  clear hl hok h
  go_enter Try.func31, Try.ntmps31
  go_wp2_with fail
  refine (sokF_any _ _ cs ls _ hv HU.out hfc hfl hx (by rw [HL.out]; omega)).mono ?_
  rintro e w1 ⟨rfl, b1⟩
  rw [HV.out]
  have HC : Hid (CellsL w1 b ls) := Lib.hid (hc.below b1)
  have HB := Lib.hid b1
  clear b1 hc hfl
  go_wp2_with fail
  go_loop [6, 7] (fun s i => ∃ k : Nat, k ≤ len ∧ i = .int .i64 k ∧ s = .int .i64 (gramsTo ls k)) (fun _ i => len - (intOf i).toNat)
  case atStart => exact ⟨0, Nat.zero_le _, rfl, rfl⟩
  case round =>
    obtain ⟨k, hk, rfl, rfl⟩ := hrel
    obtain ⟨_, ⟨v0, v1⟩, g0, g1⟩ := sums_in (n := cs.length) (ls := ls) (k := k) (fun i hi => HO.out i (by have := HL.out; omega))
    obtain ⟨wt, hwt⟩ : ∃ x, gramsTo ls k = x := ⟨_, rfl⟩
    rw [hwt] at g0 g1 ⊢
    have HWT := Lib.hid hwt
    by_cases hlt : k < len
    · obtain ⟨c0, c1, c2, c3⟩ := HC.out k (by have := HL.out; omega)
      have hf := HI.out.get k (by have := HL.out; omega)
      obtain ⟨q, hq⟩ : ∃ q, ls.getD k (0, 0, 0, 0) = q := ⟨_, rfl⟩
      rw [hq] at c0 c1 c2 c3 hf
      obtain ⟨x0, x1, x2, x3⟩ := q
      unfold FitL at hf
      simp only at hf
      obtain ⟨⟨l0, u0⟩, ⟨l1, u1⟩, ⟨l2, u2⟩, l3, u3⟩ := hf
      have hkl : (k : Int) < (len : Int) := by omega
      have HN : Hid (gramsTo ls (k + 1) = wt + x3) := Lib.hid (by rw [gramsTo, hq, hwt])
      clear hq hwt
      go_wp2_with fail
      go_round
      case rel => exact ⟨k + 1, by omega, by go_num, by rw [HN.out]⟩
      case measure => simp [intOf]; omega
    · have hk' : k = len := by omega
      have HE : Hid (wt = gramsTo ls len) := Lib.hid (by rw [← hk', HWT.out])
      clear hk'
      go_wp2_with fail
      go_ret2
      exact ⟨ret_two ⟨HE.out.symm, rfl⟩, HB.out⟩
set_option maxHeartbeats 2000000 in
theorem sgramsOf_any (v u : Value) (cs ls : List (Int × Int × Int × Int)) (w : World) (hv : ReadsC w v cs) (hu : ReadsL w u ls) (hfc : FitsC cs) (hfl : FitsL ls) (hx : cs.length ≤ 1048576) (hy : ls.length ≤ 1048576) :
    Calls Try.prog 31 #[v, u] w fun e w' => e = .returned (.tuple #[.int .i64 (gramsR cs ls), .int .i64 (codeF cs ls)]) ∧ Below w.heap.size w w' := by
  by_cases h : vldF cs ls = true
  · have HR := grams_ok h
    rw [HR.1, HR.2]
    by_cases h0 : ls = []
    · subst h0
      obtain ⟨a, cap, rfl, _⟩ := id hu
      have HV := Lib.hid h
      clear h HR
      go_enter Try.func31, Try.ntmps31
      go_wp2_with fail
      refine (sokF_any _ _ cs [] _ hv hu hfc hfl hx hy).mono ?_
      rintro e w2 ⟨rfl, b2⟩
      rw [HV.out]
      go_wp2_with fail
      refine wp_loop_rounds 1 ?_
      rw [rounds_succ]
      go_wp2_with fail
      go_ret2
      exact ⟨rfl, b2⟩
    · obtain ⟨a, cap, rfl, hcc⟩ := hu
      obtain ⟨b, rfl, hcd⟩ := hcc h0
      exact sgrams_row b ls.length cap v cs ls rfl hx w hv hfc hfl hcd h
  · have h : vldF cs ls = false := by simpa using h
    have HR := Lib.hid (grams_no h)
    have HV := Lib.hid h
    clear h
    go_enter Try.func31, Try.ntmps31
    go_wp2_with fail
    refine (sokF_any _ _ cs ls _ hv hu hfc hfl hx hy).mono ?_
    rintro e w2 ⟨rfl, b2⟩
    rw [HV.out]
    go_wp2_with fail
    go_ret2
    exact ⟨ret_two HR.out, b2⟩
set_option maxHeartbeats 2000000 in
set_option maxRecDepth 100000 in
theorem iworthOf_any (v u : Value) (cs ls : List (Int × Int × Int × Int)) (w : World) (hv : ReadsC w v cs) (hu : ReadsL w u ls) (hfc : FitsC cs) (hfl : FitsL ls) (hx : cs.length ≤ 1048576) (hy : ls.length ≤ 1048576) :
    Calls Try.prog 30 #[v, u] w fun e w' => e = .returned (.tuple #[.int .i64 (worthR cs ls), .int .i64 (codeF cs ls)]) ∧ Below w.heap.size w w' := by
  by_cases h : vldF cs ls = true
  · have HR := Lib.hid (worth_ok h)
    obtain ⟨_, h10, hok⟩ := vldF_spec h
    have HV := Lib.hid h
    clear h
    have fw := field_worth
    go_enter Try.func30, Try.ntmps30
    go_wp2_with fail
    refine (ivldF_any _ _ cs ls _ hv hu hfc hfl hx hy).mono ?_
    rintro e w2 ⟨rfl, b2⟩
    rw [HV.out]
    go_wp2_with fail
    refine (isums_any _ _ ls _ (hu.below b2) hfl h10 hok).mono ?_
    rintro e w3 ⟨rfl, b3⟩
    have b3 := blink b2 b3
    go_wp2_with fail
    go_ret2
    exact ⟨ret_two HR.out, b3⟩
  · have h : vldF cs ls = false := by simpa using h
    have HR := Lib.hid (worth_no h)
    have HV := Lib.hid h
    clear h
    have fw := field_worth
    go_enter Try.func30, Try.ntmps30
    go_wp2_with fail
    refine (ivldF_any _ _ cs ls _ hv hu hfc hfl hx hy).mono ?_
    rintro e w2 ⟨rfl, b2⟩
    rw [HV.out]
    go_wp2_with fail
    go_ret2
    exact ⟨ret_two HR.out, b2⟩

set_option maxHeartbeats 2000000 in
set_option maxRecDepth 100000 in
theorem igramsOf_any (v u : Value) (cs ls : List (Int × Int × Int × Int)) (w : World) (hv : ReadsC w v cs) (hu : ReadsL w u ls) (hfc : FitsC cs) (hfl : FitsL ls) (hx : cs.length ≤ 1048576) (hy : ls.length ≤ 1048576) :
    Calls Try.prog 32 #[v, u] w fun e w' => e = .returned (.tuple #[.int .i64 (gramsR cs ls), .int .i64 (codeF cs ls)]) ∧ Below w.heap.size w w' := by
  by_cases h : vldF cs ls = true
  · have HR := Lib.hid (grams_ok h)
    obtain ⟨_, h10, hok⟩ := vldF_spec h
    have HV := Lib.hid h
    clear h
    have fw := field_grams
    go_enter Try.func32, Try.ntmps32
    go_wp2_with fail
    refine (ivldF_any _ _ cs ls _ hv hu hfc hfl hx hy).mono ?_
    rintro e w2 ⟨rfl, b2⟩
    rw [HV.out]
    go_wp2_with fail
    refine (isums_any _ _ ls _ (hu.below b2) hfl h10 hok).mono ?_
    rintro e w3 ⟨rfl, b3⟩
    have b3 := blink b2 b3
    go_wp2_with fail
    go_ret2
    exact ⟨ret_two HR.out, b3⟩
  · have h : vldF cs ls = false := by simpa using h
    have HR := Lib.hid (grams_no h)
    have HV := Lib.hid h
    clear h
    have fw := field_grams
    go_enter Try.func32, Try.ntmps32
    go_wp2_with fail
    refine (ivldF_any _ _ cs ls _ hv hu hfc hfl hx hy).mono ?_
    rintro e w2 ⟨rfl, b2⟩
    rw [HV.out]
    go_wp2_with fail
    go_ret2
    exact ⟨ret_two HR.out, b2⟩
end Go.Proofs.Ytfobepfjcphblaa
