/-
  The model's l00Own, l04Each and l04Digging.
-/
import Derived.Test.YteecpijfikgjnaaDgP
import Derived.Test.YteecpijfikgjnaaVsT
import Derived.Test.YteecpijfikgjnaaPkT
import Derived.Test.YteecpijfikgjnaaIn
namespace Go.Proofs.Yteecpijfikgjnaa
open Go Go.RowKit
set_option linter.unusedVariables false

set_option maxHeartbeats 2000000 in
set_option maxRecDepth 100000 in
theorem sownI_any (b n : Nat) (xs : List Int) (w : World) (hv : ReadsI w (.slice (some ⟨b, 0, none⟩) n n) xs) (hx : xs.length ≤ 1048576) :
    Calls Try.prog 36 #[.slice (some ⟨b, 0, none⟩) n n] w (RetI w.heap.size w xs) := by
  obtain ⟨i0, hi, hz0, hz1, hz2⟩ := info_parts info_i64
  have HO : Hid ((w.alloc (.cells #[] 2)).ownsRow w.heap.size 2 1 (.slice (some ⟨w.heap.size, 0, none⟩) 0 0) 0 []) := Lib.hid (World.ownsRow_made w #[] 0 (Nat.le_refl _) (Nat.zero_le _) rfl)
  have HB : Hid (Below w.heap.size w (w.alloc (.cells #[] 2))) := Lib.hid ((Below.refl _ _).alloc (Nat.le_refl _) _)
  obtain ⟨a', cap', e, h⟩ := hv
  injection e with e1 e2 e3
  subst e1 e2
  have hnews : ∀ j u, (xs.map (Value.int .i64))[j]? = some u → (w.alloc (.cells #[] 2)).cell? ((⟨b, 0, none⟩ : Addr).add j) = some u := by
    intro j u hj
    have hjl : j < xs.length := by
      have := (List.getElem?_eq_some_iff.1 hj).1
      simpa using this
    obtain ⟨b', e', hc⟩ := h (by rintro rfl; simp at hjl)
    simp only [Option.some.injEq, Addr.mk.injEq, and_true] at e'
    subst e'
    rw [addr_add, Nat.zero_add]
    rw [(hc.below HB.out) j hjl]
    simp [hjl] at hj
    simp [List.getD, hjl, hj]
  have HN := Lib.hid hnews
  clear hnews h e3
  go_enter Try.func36, Try.ntmps36
  go_wp2_with (at_builtin; refine wpList_append_own _ rfl _ _ 23 rfl w.heap.size 2 i0 (.int .i64 0) 1 8 Try.underlying23 hi hz0 hz1 hz2 rfl (by decide) _ _ _ rfl HO.out ⟨b, 0, none⟩ xs.length xs.length (xs.map (Value.int .i64)) rfl (by simp) HN.out (ints_oneCell .i64 xs) (by unfold maxLen; omega) (by omega) (by simp) ?_)
  intro v' w3 hown' hgrow _
  have HO' : Hid (OwnI w.heap.size w3 v' xs) := Lib.hid (by simpa [OwnI] using hown')
  have HB' : Hid (Below w.heap.size w w3) := Lib.hid (HB.out.grown hgrow (by simp) (fun j hj => by simp [Value.ownBlock] at hj; omega))
  clear hown' hgrow
  go_wp2
  go_ret
  exact ⟨_, rfl, HO'.out, HB'.out⟩

theorem idx_has {m : Nat} {x : Int} (h : inB x 0 ((m : Int) - 1) = true) : x ∈ idxI m := by
  unfold inB at h
  exact (idxI_mem m x).2 (of_decide_eq_true h)
theorem idx_not {m : Nat} {x : Int} (h : inB x 0 ((m : Int) - 1) = false) : x ∉ idxI m := fun hm => by
  unfold inB at h
  exact (of_decide_eq_false h) ((idxI_mem m x).1 hm)

set_option maxHeartbeats 600000 in
set_option maxRecDepth 100000 in
theorem seach_any (m b len : Nat) (xs : List Int) (hl : xs.length = len) (hm : m ≤ 1048576) (hx : len ≤ 1048576) (w : World) (hv : ReadsI w (.slice (some ⟨b, 0, none⟩) len len) xs) :
    Calls Try.prog 23 #[.int .i64 (m : Int), .slice (some ⟨b, 0, none⟩) len len] w fun e w' => e = .returned (.bool (visB (idxI m) xs)) ∧ Below w.heap.size w w' := by
  have HL := Lib.hid hl
  have HC : Hid (0 < len → Cells w b xs) := Lib.hid (fun hp => by
    obtain ⟨a', cap', e, h⟩ := hv
    obtain ⟨b', e', hc⟩ := h (by rintro rfl; simp at hl; omega)
    injection e with e1 e2 e3
    subst e1
    simp only [Option.some.injEq, Addr.mk.injEq, and_true] at e'
    subst e'
    exact hc)
  clear hl hv
  go_enter Try.func23, Try.ntmps23
  go_wp2_with fail
  go_loopw [5] (fun i wr => ∃ k : Nat, k ≤ len ∧ i = .int .i64 k ∧ visTo (idxI m) xs k ∧ Below w.heap.size w wr) (fun i _ => len - (intOf i).toNat)
  case atStart => exact ⟨0, Nat.zero_le _, rfl, visTo.zero _ _, Below.refl _ _⟩
  case round =>
    obtain ⟨k, hk, rfl, hvt, hnx⟩ := hrel
    have HB := Lib.hid hnx
    have HVT := Lib.hid hvt
    by_cases hlt : k < len
    · have hkl : (k : Int) < (len : Int) := by omega
      have hk0 : (0 : Int) ≤ (k : Int) := by omega
      have hkc : (k : Int) ≤ (len : Int) := by omega
      have hkc' : k ≤ len := by omega
      have hkx : k < xs.length := by rw [HL.out]; exact hlt
      have hc := HC.out (by omega)
      have cx : wr.cell? ⟨b, k, none⟩ = some (.int .i64 (xs.getD k 0)) := (hc.below hnx) k hkx
      have HBAD : Hid (¬ (xs.getD k 0 ∈ idxI m ∧ xs.getD k 0 ∉ xs.take k) → visB (idxI m) xs = false) := Lib.hid (visB_bad (idxI_asc m) hkx)
      have HOK : Hid (inB (xs.getD k 0) 0 ((m : Int) - 1) = true → hasB (xs.take k) (xs.getD k 0) = false → visTo (idxI m) xs (k + 1)) := Lib.hid (fun h1 h2 =>
        HVT.out.succ (idx_has h1) (fun h => by rw [hasB_iff.2 h] at h2; cases h2))
      have HH1 : Hid (∀ n, Calls Try.prog 29 #[.int .i64 (xs.getD k 0), .int .i64 0, .int .i64 ((m : Int) - 1)] (wr.drewN n) fun e w' => e = .returned (.bool (inB (xs.getD k 0) 0 ((m : Int) - 1))) ∧ w' = wr.drewN n) := Lib.hid (fun n => in_any _ _ _ _)
      have HH2 : Hid (∀ n, Calls Try.prog 30 #[.slice (some ⟨b, 0, none⟩) k len, .int .i64 (xs.getD k 0)] (wr.drewN n) fun e w' => e = .returned (.bool (hasB (xs.take k) (xs.getD k 0))) ∧ w' = wr.drewN n) := Lib.hid (fun n => shas_any _ (xs.take k) _ _ (take_reads (by omega) ((hc.below hnx).below (bdrewN n))) (by rw [List.length_take]; omega))
      have HB1 : Hid (inB (xs.getD k 0) 0 ((m : Int) - 1) = false → visB (idxI m) xs = false) := Lib.hid (fun h => HBAD.out (fun q => idx_not h q.1))
      have HB2 : Hid (hasB (xs.take k) (xs.getD k 0) = true → visB (idxI m) xs = false) := Lib.hid (fun h => HBAD.out (fun q => q.2 (hasB_iff.1 h)))
      obtain ⟨x, hx⟩ : ∃ x, xs.getD k 0 = x := ⟨_, rfl⟩
      rw [hx] at cx HOK HH1 HH2 HB1 HB2
      obtain ⟨r1, h1⟩ : ∃ r, inB x 0 ((m : Int) - 1) = r := ⟨_, rfl⟩
      obtain ⟨r2, h2⟩ : ∃ r, hasB (xs.take k) x = r := ⟨_, rfl⟩
      rw [h1] at HOK HH1 HB1
      rw [h2] at HOK HH2 HB2
      clear hx h1 h2 HBAD hnx hvt hkx hc
      cases r1
      · have HR := Lib.hid (HB1.out rfl)
        clear HB1 HB2 HOK
        go_wp2_with fail
        go_quiet ((go_at_call 29; (with_reducible exact Calls.quiet_of_same (HH1.out _))))
        go_wp2_with fail
        go_ret
        exact ⟨ret_bool HR.out.symm, below_drewN HB.out _⟩
      · cases r2
        · have HR := Lib.hid (HOK.out rfl rfl)
          clear HB1 HB2 HOK
          go_wp2_with fail
          go_quiet ((first | (go_at_call 29; (with_reducible exact Calls.quiet_of_same (HH1.out _))) | (go_at_call 30; (with_reducible exact Calls.quiet_of_same (HH2.out _)))))
          go_wp2_with fail
          go_roundw
          case rel => exact ⟨k + 1, by omega, by go_num, HR.out, below_drewN HB.out _⟩
          case measure => simp [intOf]; omega
        · have HR := Lib.hid (HB2.out rfl)
          clear HB1 HB2 HOK
          go_wp2_with fail
          go_quiet ((first | (go_at_call 29; (with_reducible exact Calls.quiet_of_same (HH1.out _))) | (go_at_call 30; (with_reducible exact Calls.quiet_of_same (HH2.out _)))))
          go_wp2_with fail
          go_ret
          exact ⟨ret_bool HR.out.symm, below_drewN HB.out _⟩
    · have hk' : k = len := by omega
      have HVA : Hid (visTo (idxI m) xs xs.length) := Lib.hid (by rw [HL.out, ← hk']; exact hvt)
      clear hk' hvt hnx
      by_cases he : len = m
      · have HR : Hid (visB (idxI m) xs = true) := Lib.hid (visB_true (idxI_asc m) HVA.out (by rw [HL.out, idxI_len]; exact he))
        subst he
        go_wp2_with fail
        go_ret
        exact ⟨ret_bool HR.out.symm, HB.out⟩
      · have HR : Hid (visB (idxI m) xs = false) := Lib.hid (visB_len (idxI_asc m) (by rw [HL.out, idxI_len]; exact he))
        have te : ((len : Int) == (m : Int)) = false := by simp; omega
        go_wp2_with fail
        go_ret
        exact ⟨ret_bool HR.out.symm, HB.out⟩
end Go.Proofs.Yteecpijfikgjnaa
