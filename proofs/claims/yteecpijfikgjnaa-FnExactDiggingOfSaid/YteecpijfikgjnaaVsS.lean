/-
  The model's l04Visit and l04Each.
-/
import Derived.Test.YteecpijfikgjnaaHas
import Derived.Test.YteecpijfikgjnaaVsP
import Derived.Test.YteecpijfikgjnaaIn
namespace Go.Proofs.Yteecpijfikgjnaa
open Go Go.RowKit
set_option linter.unusedVariables false

theorem has_at {ns xs : List Int} {k : Nat} (h1 : hasB ns (xs.getD k 0) = true) (h2 : hasB (xs.take k) (xs.getD k 0) = false) : xs.getD k 0 ∈ ns ∧ xs.getD k 0 ∉ xs.take k :=
  ⟨hasB_iff.1 h1, fun h => by rw [hasB_iff.2 h] at h2; cases h2⟩
theorem take_reads {w : World} {b k cap : Nat} {xs : List Int} (hk : k ≤ xs.length) (hc : Cells w b xs) : ReadsI w (.slice (some ⟨b, 0, none⟩) k cap) (xs.take k) :=
  ⟨_, cap, by rw [List.length_take, Nat.min_eq_left hk], fun _ => ⟨b, rfl, fun i hi => by
    rw [List.length_take] at hi
    have h := hc i (by omega)
    rw [h]
    simp [List.getD, show i < k by omega]⟩⟩
/-- A slice's first k elements: the address where there is room behind them. -/
theorem take_none {w : World} {a : Option Addr} {cap : Nat} : ReadsI w (.slice a 0 cap) [] := ⟨a, cap, rfl, fun h => absurd rfl h⟩

set_option maxHeartbeats 600000 in
set_option maxRecDepth 100000 in
theorem svis_row (u : Value) (b len cap : Nat) (ns xs : List Int) (hl : xs.length = len) (hm : len ≤ 1048576) (hlc : len ≤ cap) (hcap : cap ≤ 1048576) (w : World) (hu : ReadsI w u ns) (hn : ns.length ≤ 1048576) (hns : ns.Pairwise (· < ·)) (hc : Cells w b xs) :
    Calls Try.prog 15 #[u, .slice (some ⟨b, 0, none⟩) len cap] w fun e w' => e = .returned (.bool (visB ns xs)) ∧ Below w.heap.size w w' := by
  have HL := Lib.hid hl
  have HC := Lib.hid hc
  have HNS := Lib.hid hns
  have HU := Lib.hid hu
  obtain ⟨ua, ucap, rfl, hua⟩ := hu
  obtain ⟨m, hmn⟩ : ∃ m, ns.length = m := ⟨_, rfl⟩
  have HMN := Lib.hid hmn
  rw [hmn] at hn HU ⊢
  clear hl hc hns hua hmn
  go_enter Try.func15, Try.ntmps15
  go_wp2_with fail
  go_loopw [5] (fun i wr => ∃ k : Nat, k ≤ len ∧ i = .int .i64 k ∧ visTo ns xs k ∧ Below w.heap.size w wr) (fun i _ => len - (intOf i).toNat)
  case atStart => exact ⟨0, Nat.zero_le _, rfl, visTo.zero _ _, Below.refl _ _⟩
  case round =>
    obtain ⟨k, hk, rfl, hvt, hnx⟩ := hrel
    have HB := Lib.hid hnx
    have HVT := Lib.hid hvt
    by_cases hlt : k < len
    · have hkl : (k : Int) < (len : Int) := by omega
      have hk0 : (0 : Int) ≤ (k : Int) := by omega
      have hkc : (k : Int) ≤ (cap : Int) := by omega
      have hkc' : k ≤ cap := by omega
      have hkx : k < xs.length := by rw [HL.out]; exact hlt
      have cx : wr.cell? ⟨b, k, none⟩ = some (.int .i64 (xs.getD k 0)) := (HC.out.below hnx) k hkx
      have HBAD : Hid (¬ (xs.getD k 0 ∈ ns ∧ xs.getD k 0 ∉ xs.take k) → visB ns xs = false) := Lib.hid (visB_bad HNS.out hkx)
      have HOK : Hid (hasB ns (xs.getD k 0) = true → hasB (xs.take k) (xs.getD k 0) = false → visTo ns xs (k + 1)) := Lib.hid (fun h1 h2 => by
        obtain ⟨h3, h4⟩ := has_at h1 h2
        exact HVT.out.succ h3 h4)
      have HH1 : Hid (∀ n, Calls Try.prog 30 #[.slice ua m ucap, .int .i64 (xs.getD k 0)] (wr.drewN n) fun e w' => e = .returned (.bool (hasB ns (xs.getD k 0))) ∧ w' = wr.drewN n) := Lib.hid (fun n => shas_any _ ns _ _ ((HU.out.below hnx).below (bdrewN n)) (by rw [HMN.out]; exact hn))
      have HH2 : Hid (∀ n, Calls Try.prog 30 #[.slice (some ⟨b, 0, none⟩) k cap, .int .i64 (xs.getD k 0)] (wr.drewN n) fun e w' => e = .returned (.bool (hasB (xs.take k) (xs.getD k 0))) ∧ w' = wr.drewN n) := Lib.hid (fun n => shas_any _ (xs.take k) _ _ (take_reads (by omega) ((HC.out.below hnx).below (bdrewN n))) (by rw [List.length_take]; omega))
      have HB1 : Hid (hasB ns (xs.getD k 0) = false → visB ns xs = false) := Lib.hid (fun h => HBAD.out (fun q => by rw [hasB_iff.2 q.1] at h; cases h))
      have HB2 : Hid (hasB (xs.take k) (xs.getD k 0) = true → visB ns xs = false) := Lib.hid (fun h => HBAD.out (fun q => q.2 (hasB_iff.1 h)))
      obtain ⟨x, hx⟩ : ∃ x, xs.getD k 0 = x := ⟨_, rfl⟩
      rw [hx] at cx HOK HH1 HH2 HB1 HB2
      obtain ⟨r1, h1⟩ : ∃ r, hasB ns x = r := ⟨_, rfl⟩
      obtain ⟨r2, h2⟩ : ∃ r, hasB (xs.take k) x = r := ⟨_, rfl⟩
      rw [h1] at HOK HH1 HB1
      rw [h2] at HOK HH2 HB2
      clear hx h1 h2 HBAD hnx hvt hkx
      cases r1
      · have HR := Lib.hid (HB1.out rfl)
        clear HB1 HB2 HOK
        go_wp2_with fail
        go_quiet ((go_at_call 30; (with_reducible exact Calls.quiet_of_same (HH1.out _))))
        go_wp2_with fail
        go_ret
        exact ⟨ret_bool HR.out.symm, below_drewN HB.out _⟩
      · cases r2
        · have HR := Lib.hid (HOK.out rfl rfl)
          clear HB1 HB2 HOK
          go_wp2_with fail
          go_quiet ((go_at_call 30; first | (with_reducible exact Calls.quiet_of_same (HH1.out _)) | (with_reducible exact Calls.quiet_of_same (HH2.out _))))
          go_wp2_with fail
          go_roundw
          case rel => exact ⟨k + 1, by omega, by go_num, HR.out, below_drewN HB.out _⟩
          case measure => simp [intOf]; omega
        · have HR := Lib.hid (HB2.out rfl)
          clear HB1 HB2 HOK
          go_wp2_with fail
          go_quiet ((go_at_call 30; first | (with_reducible exact Calls.quiet_of_same (HH1.out _)) | (with_reducible exact Calls.quiet_of_same (HH2.out _))))
          go_wp2_with fail
          go_ret
          exact ⟨ret_bool HR.out.symm, below_drewN HB.out _⟩
    · have hk' : k = len := by omega
      have HVA : Hid (visTo ns xs xs.length) := Lib.hid (by rw [HL.out, ← hk']; exact hvt)
      clear hk' hvt hnx
      by_cases he : len = m
      · have HR : Hid (visB ns xs = true) := Lib.hid (visB_true HNS.out HVA.out (by rw [HL.out, HMN.out]; exact he))
        subst he
        go_wp2_with fail
        go_ret
        exact ⟨ret_bool HR.out.symm, HB.out⟩
      · have HR : Hid (visB ns xs = false) := Lib.hid (visB_len HNS.out (by rw [HL.out, HMN.out]; exact he))
        have te : ((len : Int) == (m : Int)) = false := by simp; omega
        go_wp2_with fail
        go_ret
        exact ⟨ret_bool HR.out.symm, HB.out⟩
end Go.Proofs.Yteecpijfikgjnaa
