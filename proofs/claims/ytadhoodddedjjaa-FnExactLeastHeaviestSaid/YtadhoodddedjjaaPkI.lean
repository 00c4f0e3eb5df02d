/-
  Contract of the program's SplitRound.
-/
import Derived.Test.YtadhoodddedjjaaPkB
namespace Go.Proofs.Ytadhoodddedjjaa
open Go Go.RowKit
set_option linter.unusedVariables false

theorem splitC_1 {ps : List (Int × Int)} {most : Int} (h : vldQ ps = false) : splitC ps most = 1 ∧ splitN ps most = 0 ∧ splitR ps most = [] := by
  refine ⟨by simp [splitC, h], ?_, ?_⟩ <;> simp [splitN, splitR, splitOk, h]
theorem splitC_2 {ps : List (Int × Int)} {most : Int} (h : vldQ ps = true) (h1 : most < 1) : splitC ps most = 2 ∧ splitN ps most = 0 ∧ splitR ps most = [] := by
  refine ⟨by simp [splitC, h, h1], ?_, ?_⟩ <;> simp [splitN, splitR, splitOk, h] <;> omega
theorem splitC_6 {ps : List (Int × Int)} {most : Int} (h : vldQ ps = true) (h1 : 1 ≤ most) (h2 : ¬ FitTo ps most 9) : splitC ps most = 6 ∧ splitN ps most = 0 ∧ splitR ps most = [] := by
  refine ⟨by rw [splitC, if_neg (by simp [h]), if_neg (by omega), if_neg h2], ?_, ?_⟩ <;> simp [splitN, splitR, splitOk, h, h2]
theorem splitC_0 {ps : List (Int × Int)} {most : Int} (h : vldQ ps = true) (h1 : 1 ≤ most) (h2 : FitTo ps most 9) : splitC ps most = 0 ∧ splitN ps most = (fill ps most 9).1 ∧ splitR ps most = splitL ps most := by
  refine ⟨by rw [splitC, if_neg (by simp [h]), if_neg (by omega), if_pos h2], ?_, ?_⟩ <;> simp [splitN, splitR, splitOk, h, h1, h2]
theorem i64_bounds {a : Int} (h : (Lit.int .i64 a).wf = true) : -9223372036854775808 ≤ a ∧ a ≤ 9223372036854775807 := by
  simp [Lit.wf, IntKind.min, IntKind.max, IntKind.signed, IntKind.bits] at h; omega

set_option maxHeartbeats 8000000 in
set_option maxRecDepth 100000 in
theorem isplit_any (v : Value) (ps : List (Int × Int)) (most : Int) (w : World) (hv : ReadsQ w v ps) (hfit : FitsQ ps) (hx : ps.length ≤ 1048576) (hwf : (Lit.int .i64 most).wf = true) :
    Calls Try.prog 36 #[v, .int .i64 most] w (RetI2 w.heap.size w (splitR ps most) (splitN ps most) (splitC ps most)) := by
  have HV := Lib.hid hv
  have hmx := (i64_bounds hwf).2
  clear hwf
  cases hvl : vldQ ps
  · have HR := Lib.hid (splitC_1 (most := most) hvl)
    rw [HR.out.1, HR.out.2.1, HR.out.2.2]
    go_enter Try.func36, Try.ntmps36
    go_wp2_with fail
    refine (ivldQ_any _ ps _ hv hfit hx).mono ?_
    rintro e w2 ⟨rfl, b2⟩
    rw [hvl]
    go_wp2_with fail
    go_ret3
    exact ⟨_, rfl, World.ownsRow_nil _ _ _ _, b2⟩
  · have HVL := Lib.hid hvl
    by_cases hm : most < 1
    · have HR := Lib.hid (splitC_2 hvl hm)
      rw [HR.out.1, HR.out.2.1, HR.out.2.2]
      have t1 : decide (most < 1) = true := decide_eq_true hm
      go_enter Try.func36, Try.ntmps36
      go_wp2_with fail
      refine (ivldQ_any _ ps _ hv hfit hx).mono ?_
      rintro e w2 ⟨rfl, b2⟩
      rw [hvl]
      clear hvl
      go_wp2_with fail
      go_ret3
      exact ⟨_, rfl, World.ownsRow_nil _ _ _ _, b2⟩
    · have t1 : decide (most < 1) = false := decide_eq_false hm
      have hm1 : 1 ≤ most := by omega
      by_cases hft : FitTo ps most 9
      · have HR := Lib.hid (splitC_0 hvl hm1 hft)
        rw [HR.out.1, HR.out.2.1, HR.out.2.2]
        obtain ⟨h10, hok⟩ := vldQ_spec hvl
        have HOK := Lib.hid hok
        have HF := Lib.hid hft
        obtain ⟨a, cap, rfl, hrd⟩ := HV.out
        have HRD : Hid (∀ k, k < ps.length → ∃ b, a = some ⟨b, 0, none⟩ ∧ CellsQ w b ps) := Lib.hid (fun k hk => hrd (fun e => by rw [e] at hk; simp at hk))
        obtain ⟨n, hn⟩ : ∃ n, ps.length = n := ⟨_, rfl⟩
        have HN := Lib.hid hn
        have HX := Lib.hid hx
        rw [hn] at hv HV h10 ⊢
        obtain ⟨i0, hi, hz0, hz1, hz2⟩ := info_parts info_i64
        clear hrd hn hok hft hx
        go_enter Try.func36, Try.ntmps36
        go_wp2_with fail
        refine (ivldQ_any _ ps _ HV.out hfit HX.out).mono ?_
        rintro e w2 ⟨rfl, b2⟩
        rw [hvl]
        clear hvl hv
        have HB2 := Lib.hid b2
        go_wp2_with fail
        refine (ibags_any _ ps _ _ (HV.out.below b2) HVL.out hm1 hmx).mono ?_
        rintro e w3 ⟨L, hL9, hres, b3⟩
        have HB3 := Lib.hid (blink HB2.out b3)
        clear b2 b3
        rcases hres with ⟨_, hL, rfl⟩ | ⟨hno, _⟩
        · obtain ⟨a0, a1, a2, a3, a4, a5, a6, a7, a8, hLL⟩ := list9 hL9
          have HLB : Hid ([a0, a1, a2, a3, a4, a5, a6, a7, a8] = bagsA ps most 9) := Lib.hid (by rw [← hLL]; exact hL)
          subst hLL
          obtain ⟨c, hc⟩ : ∃ c, (fill ps most 9).1 = c := ⟨_, rfl⟩
          rw [hc]
          have HC := Lib.hid hc
          unfold arr9
          simp only [List.map_cons, List.map_nil]
          have G0 : Hid ((w3.alloc (.cells #[.int .i64 0, .int .i64 0, .int .i64 0, .int .i64 0, .int .i64 0, .int .i64 0, .int .i64 0, .int .i64 0, .int .i64 0] 63)).heap[w3.heap.size]? = some (.cells #[.int .i64 0, .int .i64 0, .int .i64 0, .int .i64 0, .int .i64 0, .int .i64 0, .int .i64 0, .int .i64 0, .int .i64 0] 63 (0, 0))) := Lib.hid (heap_alloc_new w3 _)
          clear hL hL9 hc
          go_wp2_with (first
            | (refine wpList_store_row (o := ⟨none, _, _, _, _, _⟩) rfl 63 (.tmp 7) (.tmp 22) rfl w3.heap.size #[.int .i64 a0, .int .i64 a1, .int .i64 a2, .int .i64 a3, .int .i64 a4, .int .i64 a5, .int .i64 a6, .int .i64 a7, .int .i64 a8] rfl rfl 63 _ G0.out rfl rfl (ones9 a0 a1 a2 a3 a4 a5 a6 a7 a8) ?_)
            | (refine wpList_make_full _ rfl _ _ 29 rfl (w3.heap.size + 1) 2 i0 (.int .i64 0) 1 Try.underlying29 hi hz0 hz1 .i64 .i64 _ _ n rfl rfl rfl rfl (by rw [hz2]; omega) (by unfold maxLen; omega) (by simp [World.setRow]) ?_; intro w4 hown1 hg1))
          have hs3 : w.heap.size ≤ w3.heap.size := HB3.out.size
          have hsz : ((w3.alloc (.cells #[.int .i64 0, .int .i64 0, .int .i64 0, .int .i64 0, .int .i64 0, .int .i64 0, .int .i64 0, .int .i64 0, .int .i64 0] 63)).setRow w3.heap.size #[.int .i64 a0, .int .i64 a1, .int .i64 a2, .int .i64 a3, .int .i64 a4, .int .i64 a5, .int .i64 a6, .int .i64 a7, .int .i64 a8]).heap.size = w3.heap.size + 1 := by simp [World.setRow]
          have HBI : Hid (BlockI ((w3.alloc (.cells #[.int .i64 0, .int .i64 0, .int .i64 0, .int .i64 0, .int .i64 0, .int .i64 0, .int .i64 0, .int .i64 0, .int .i64 0] 63)).setRow w3.heap.size #[.int .i64 a0, .int .i64 a1, .int .i64 a2, .int .i64 a3, .int .i64 a4, .int .i64 a5, .int .i64 a6, .int .i64 a7, .int .i64 a8]) w3.heap.size 63 (bagsA ps most 9)) := Lib.hid (by
            rw [← HLB.out]
            exact setRow_heap _ _ _ _ _ _ G0.out)
          have HBB : Hid (Below w.heap.size w ((w3.alloc (.cells #[.int .i64 0, .int .i64 0, .int .i64 0, .int .i64 0, .int .i64 0, .int .i64 0, .int .i64 0, .int .i64 0, .int .i64 0] 63)).setRow w3.heap.size #[.int .i64 a0, .int .i64 a1, .int .i64 a2, .int .i64 a3, .int .i64 a4, .int .i64 a5, .int .i64 a6, .int .i64 a7, .int .i64 a8])) := Lib.hid (below_setRow (HB3.out.alloc hs3 _) hs3)
          rw [hsz] at hown1
          try rw [hsz]
          obtain ⟨W, hW⟩ : ∃ W, (w3.alloc (.cells #[.int .i64 0, .int .i64 0, .int .i64 0, .int .i64 0, .int .i64 0, .int .i64 0, .int .i64 0, .int .i64 0, .int .i64 0] 63)).setRow w3.heap.size #[.int .i64 a0, .int .i64 a1, .int .i64 a2, .int .i64 a3, .int .i64 a4, .int .i64 a5, .int .i64 a6, .int .i64 a7, .int .i64 a8] = W := ⟨_, rfl⟩
          rw [hW] at hsz HBI HBB hg1
          have HO1 : Hid (w4.ownsRow (w3.heap.size + 1) 2 1 (.slice (some ⟨w3.heap.size + 1, 0, none⟩) n n) n ((splitJ ps most 0).map (Value.int .i64))) := Lib.hid (by
            rw [splitJ_zero, HN.out]
            exact made_own hown1)
          have HB4 : Hid (Below w.heap.size w w4) := Lib.hid (HBB.out.grown hg1 (by omega) (fun k hk => by simp at hk))
          have HI4 : Hid (BlockI w4 w3.heap.size 63 (bagsA ps most 9)) := Lib.hid ((hg1.block _ HBI.out.lt (by simp)).trans HBI.out)
          clear hown1 hg1 hW hsz G0 HBI HBB
          go_loopw [32] (fun i wr => ∃ k : Nat, k ≤ n ∧ i = .int .i64 k ∧ wr.ownsRow (w3.heap.size + 1) 2 1 (.slice (some ⟨w3.heap.size + 1, 0, none⟩) n n) n ((splitJ ps most k).map (Value.int .i64)) ∧ BlockI wr w3.heap.size 63 (bagsA ps most 9) ∧ Below w.heap.size w wr) (fun i _ => n - (intOf i).toNat)
          case atStart => exact ⟨0, Nat.zero_le _, rfl, HO1.out, HI4.out, HB4.out⟩
          case round =>
            obtain ⟨k, hk, rfl, hown, hbl, hnx⟩ := hrel
            have HOW := Lib.hid hown
            have HBL := Lib.hid hbl
            have HN4 := Lib.hid hnx
            by_cases hlt : k < n
            · have hkp : k < ps.length := by have := HN.out; omega
              obtain ⟨b, hab, hc⟩ := HRD.out k hkp
              subst hab
              obtain ⟨c0, c1⟩ := hc.below hnx k hkp
              have hq1 := HOK.out k hkp
              unfold okQ at hq1
              obtain ⟨s, hs⟩ : ∃ s : Nat, (ps.getD k (0, 0)).1 = (s : Int) := ⟨(ps.getD k (0, 0)).1.toNat, by omega⟩
              have hs9 : s < 9 := by omega
              have hs9i : (s : Int) < 9 := by omega
              have d0 := hbl.cell s (by rw [bagsA_len]; exact hs9)
              rw [bagsA_get hs9] at d0
              have e0 := own_cell hown k hlt
              have f0 := hown.frozenAt k
              have S := own_store hown k (bagF ps most (s : Int))
              rw [← hs, splitJ_set most hkp] at S
              rw [hs] at S
              have HS := Lib.hid S
              obtain ⟨q, hq⟩ : ∃ q, ps.getD k (0, 0) = q := ⟨_, rfl⟩
              rw [hq] at c0 c1 hs
              obtain ⟨x, y⟩ := q
              simp only at hs
              subst hs
              obtain ⟨z, hz⟩ : ∃ z, bagF ps most (s : Int) = z := ⟨_, rfl⟩
              rw [hz] at d0 HS
              obtain ⟨o, ho⟩ : ∃ o, (splitJ ps most k).getD k 0 = o := ⟨_, rfl⟩
              rw [ho] at e0
              have hkn : (k : Int) < (n : Int) := by omega
              have hw4 : w3.heap.size + 1 < wr.heap.size := World.block_lt_of_cell? wr _ e0
              have hw5 : w3.heap.size < wr.heap.size := by omega
              clear hq hz ho S hown hbl hnx hc hq1
              go_wp2_with fail
              go_roundw
              case rel =>
                refine ⟨k + 1, by omega, by go_num, ?_, ?_, ?_⟩
                · exact HS.out.alloc _
                · exact (HBL.out.other _ _ (by simp)).alloc _
                · exact (HN4.out.setCell (by simp; omega) _).alloc (by simp; omega) _
              case measure => simp [intOf]; omega
            · have hk' : k = ps.length := by have := HN.out; omega
              have HO5 : Hid (OwnI w.heap.size wr (.slice (some ⟨w3.heap.size + 1, 0, none⟩) n n) (splitL ps most)) := Lib.hid (by
                rw [hk', splitJ_all] at hown
                unfold OwnI
                rw [splitL_len, HN.out]
                exact own_mono hown (by omega))
              clear hk' hown hbl hnx
              go_wp2_with fail
              go_ret3
              obtain rfl := HC.out
              exact ⟨_, rfl, HO5.out, HN4.out⟩
        · exact absurd HF.out hno
      · have HR := Lib.hid (splitC_6 hvl hm1 hft)
        rw [HR.out.1, HR.out.2.1, HR.out.2.2]
        have HF := Lib.hid hft
        clear hft
        go_enter Try.func36, Try.ntmps36
        go_wp2_with fail
        refine (ivldQ_any _ ps _ HV.out hfit hx).mono ?_
        rintro e w2 ⟨rfl, b2⟩
        rw [hvl]
        clear hvl hv
        have HB2 := Lib.hid b2
        go_wp2_with fail
        refine (ibags_any _ ps _ _ (HV.out.below b2) HVL.out hm1 hmx).mono ?_
        rintro e w3 ⟨L, hL9, hres, b3⟩
        have HB3 := Lib.hid (blink HB2.out b3)
        clear b2 b3
        rcases hres with ⟨hyes, _, _⟩ | ⟨_, rfl⟩
        · exact absurd hyes HF.out
        · obtain ⟨a0, a1, a2, a3, a4, a5, a6, a7, a8, hLL⟩ := list9 hL9
          subst hLL
          unfold arr9
          simp only [List.map_cons, List.map_nil]
          have G0 : Hid ((w3.alloc (.cells #[.int .i64 0, .int .i64 0, .int .i64 0, .int .i64 0, .int .i64 0, .int .i64 0, .int .i64 0, .int .i64 0, .int .i64 0] 63)).heap[w3.heap.size]? = some (.cells #[.int .i64 0, .int .i64 0, .int .i64 0, .int .i64 0, .int .i64 0, .int .i64 0, .int .i64 0, .int .i64 0, .int .i64 0] 63 (0, 0))) := Lib.hid (heap_alloc_new w3 _)
          clear hL9
          go_wp2_with (refine wpList_store_row (o := ⟨none, _, _, _, _, _⟩) rfl 63 (.tmp 7) (.tmp 22) rfl w3.heap.size #[.int .i64 a0, .int .i64 a1, .int .i64 a2, .int .i64 a3, .int .i64 a4, .int .i64 a5, .int .i64 a6, .int .i64 a7, .int .i64 a8] rfl rfl 63 _ G0.out rfl rfl (ones9 a0 a1 a2 a3 a4 a5 a6 a7 a8) ?_)
          go_ret3
          exact ⟨_, rfl, World.ownsRow_nil _ _ _ _, below_setRow (HB3.out.alloc HB3.out.size _) HB3.out.size⟩
end Go.Proofs.Ytadhoodddedjjaa
