/-
  FirstDayShort: the program's.
-/
import Derived.Test.YtgimpmdiilmkoaaDoorFdP
namespace Go.Proofs.YtgimpmdiilmkoaaDoor
open Go Go.RowKit
set_option linter.unusedVariables false

set_option maxHeartbeats 4000000 in
set_option maxRecDepth 100000 in
theorem ifd_any (v u : Value) (ps : List (Int × Int)) (xs : List Int) (w : World) (hv : ReadsVo w v ps) (hu : ReadsI w u xs) (hfit : FitsVo ps) (hx : ps.length ≤ 1048576) (hy : xs.length ≤ 1048576) :
    Calls Tryd.prog 33 #[v, u] w fun e w' => e = .returned (.tuple #[.int .i64 (fdR ps xs), .int .i64 (fdC ps xs)]) ∧ Below w.heap.size w w' := by
  have HV := Lib.hid hv
  have HU := Lib.hid hu
  have hin := askC_in ps 0 xs
  obtain ⟨c, hc⟩ : ∃ c, askC ps 0 xs = c := ⟨_, rfl⟩
  rw [hc] at hin
  have HIN := Lib.hid hin
  have HCK := Lib.hid (icheckV_any v u ps 0 xs w hv hfit hx hu hy)
  rw [hc] at HCK
  by_cases h : c = 0
  · subst h
    obtain ⟨hvl, hxl, _, hbt⟩ := ask_ok hc
    obtain ⟨h12, hok⟩ := vldVo_spec hvl
    have HBT := Lib.hid (betwB_spec hbt)
    have HOK := Lib.hid hok
    rw [(fd_ok hc).1, (fd_ok hc).2]
    obtain ⟨a, cap, rfl, ha⟩ := hu
    obtain ⟨n, hn⟩ : ∃ n, xs.length = n := ⟨_, rfl⟩
    rw [hn] at hxl HCK HBT ⊢
    have HN := Lib.hid hn
    have HA : Hid (n ≠ 0 → ∃ b, a = some ⟨b, 0, none⟩ ∧ Cells w b xs) := Lib.hid (fun h => ha (by intro e; rw [e] at hn; simp at hn; omega))
    obtain ⟨R, hR⟩ : ∃ R, fdGo ps xs n 0 = R := ⟨_, rfl⟩
    rw [hR]
    have HR : Hid (R = fdGo ps xs (n - 0) 0) := Lib.hid hR.symm
    obtain ⟨R0, R1⟩ := R
    clear hin hc hv ha hn hR hvl hbt HU
    go_enter Tryd.func33, Tryd.ntmps33
    go_wp2_with fail
    refine HCK.out.mono ?_
    rintro e w2 ⟨rfl, b2⟩
    have HB2 := Lib.hid b2
    clear b2
    go_wp2_with fail
    refine (code_any 0 (.inl rfl) _).mono ?_
    rintro e w3 ⟨rfl, b3⟩
    have HB3 : Hid (Below w.heap.size w w3) := Lib.hid (blink HB2.out b3)
    clear b3
    go_wp2_with fail
    go_loopw [7, 21] (fun lv i wr => ∃ k : Nat, k ≤ n ∧ i = .int .i64 k ∧ ReadsVo wr lv (lfK ps xs k) ∧ (R0, R1) = fdGo ps xs (n - k) k ∧ Below w.heap.size w wr) (fun _ i _ => n - (intOf i).toNat)
    case atStart => exact ⟨0, Nat.zero_le _, rfl, HV.out.below HB3.out, HR.out, HB3.out⟩
    case round =>
      obtain ⟨k, hk, rfl, hrd, hgo, hww⟩ := hrel
      have HRD := Lib.hid hrd
      have HGO := Lib.hid hgo
      have HB := Lib.hid hww
      by_cases hlt : k < n
      · obtain ⟨b, rfl, hc⟩ := HA.out (by omega)
        have cx := (hc.below hww) k (by have := HN.out; omega)
        have hxr := HBT.out k hlt
        have hlk := lfK_len ps xs k
        have hlo := lfK_ok (ps := ps) (xs := xs) (k := k) HOK.out (fun i hi => (HBT.out i (by omega)).1)
        have HPY := Lib.hid (ipay_all u7 (lfK ps xs k) (k : Int) (xs.getD k 0) (by omega) hlo hxr.1 hxr.2 wr hrd)
        have HDD : Hid (payD (lfK ps xs k) (k : Int) (xs.getD k 0) = dayD ps xs k) := Lib.hid rfl
        have HLF : Hid (payL (lfK ps xs k) (k : Int) (xs.getD k 0) = lfK ps xs (k + 1)) := Lib.hid rfl
        have HHIT : Hid (0 < dayD ps xs k → (R0, R1) = ((k : Int), 0)) := Lib.hid (fun h => by rw [HGO.out]; exact fdGo_hit hlt h)
        have HNXT : Hid (¬ 0 < dayD ps xs k → (R0, R1) = fdGo ps xs (n - (k + 1)) (k + 1)) := Lib.hid (fun h => by rw [HGO.out]; exact fdGo_next hlt h)
        rw [HDD.out, HLF.out] at HPY
        obtain ⟨x, hx1⟩ : ∃ x, xs.getD k 0 = x := ⟨_, rfl⟩
        rw [hx1] at cx HPY
        obtain ⟨d, hd⟩ : ∃ d, dayD ps xs k = d := ⟨_, rfl⟩
        rw [hd] at HPY HHIT HNXT
        have hkn : (k : Int) < (n : Int) := by omega
        clear hrd hgo hww hc hxr hlk hlo hx1 hd HDD HLF
        go_wp2_with fail
        refine HPY.out.mono ?_
        rintro e w4 ⟨q, rfl, ho, b4⟩
        have HO := Lib.hid ho.reads
        have HB4 : Hid (Below w.heap.size w w4) := Lib.hid (blink HB.out b4)
        clear ho b4
        by_cases t : 0 < d
        · have d1 : decide (0 < d) = true := decide_eq_true t
          have HE := Lib.hid (HHIT.out t)
          clear t
          go_wp2_with fail
          go_ret2
          exact ⟨ret_tw (by have h := HE.out; simp only [Prod.mk.injEq] at h; exact ⟨h.1.symm, h.2.symm⟩), HB4.out⟩
        · have d1 : decide (0 < d) = false := decide_eq_false t
          have HE := Lib.hid (HNXT.out (by omega))
          clear t
          go_wp2_with fail
          go_roundw
          case rel => exact ⟨k + 1, by omega, by go_num, HO.out, HE.out, HB4.out⟩
          case measure => simp [intOf]; omega
      · have hk' : k = n := by omega
        have HE : Hid ((R0, R1) = (0, 6)) := Lib.hid (by rw [hgo, hk', Nat.sub_self]; rfl)
        clear hk' hrd hgo hww
        go_wp2_with fail
        go_ret2
        exact ⟨ret_tw (by have h := HE.out; simp only [Prod.mk.injEq] at h; exact ⟨h.1.symm, h.2.symm⟩), HB.out⟩
  · rw [(fd_no hc h).1, (fd_no hc h).2]
    have hcz : (c == 0) = false := by simpa using h
    clear hin hc hv hu h
    go_enter Tryd.func33, Tryd.ntmps33
    go_wp2_with fail
    refine HCK.out.mono ?_
    rintro e w2 ⟨rfl, b2⟩
    have HB2 := Lib.hid b2
    clear b2
    go_wp2_with fail
    refine (code_any c HIN.out _).mono ?_
    rintro e w3 ⟨rfl, b3⟩
    have HB3 : Hid (Below w.heap.size w w3) := Lib.hid (blink HB2.out b3)
    clear b3
    go_wp2_with fail
    go_ret2
    exact ⟨rfl, HB3.out⟩
end Go.Proofs.YtgimpmdiilmkoaaDoor
