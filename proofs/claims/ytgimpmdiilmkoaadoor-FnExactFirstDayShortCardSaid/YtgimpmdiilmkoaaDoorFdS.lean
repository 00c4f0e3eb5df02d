/-
  FirstDayShort: the model's.
-/
import Derived.Test.YtgimpmdiilmkoaaDoorFdP
namespace Go.Proofs.YtgimpmdiilmkoaaDoor
open Go Go.RowKit
set_option linter.unusedVariables false

theorem wpList_copyVo {w : World} {ops : Array Oper} {rest : List Oper} {o : Oper} {a : Act} {Q : Exit → Act → World → Prop} (hgd : o.guard = none) (s x : Operand)
    (ho : o.op = .call { callee := .builtin .append, args := #[s, x], argTypes := #[38, 38] }) (B g : Nat) (v : Value) (ps : List (Int × Int)) (hs : a.eval s = .slice (some ⟨g, 0, none⟩) 0 0) (hx : a.eval x = v)
    (hown : w.ownsRow B 101 2 (.slice (some ⟨g, 0, none⟩) 0 0) 0 []) (hB : B ≤ w.heap.size) (hv : ReadsVo w v ps) (hl : ps.length ≤ 1048576)
    (h : ∀ v' w', OwnVo 101 B w' v' ps → Below B w w' → wpList Tryd.prog ops Q rest (a.put o.dst v') w') : wpList Tryd.prog ops Q (o :: rest) a w := by
  obtain ⟨i0, hi, hz0, hz1, hz2⟩ := info_parts info_vou
  obtain ⟨ad, cap, rfl, hc⟩ := hv
  have hbl : ∀ w' : World, w.grownBy w' (Value.ownBlock (.slice (some ⟨g, 0, none⟩) 0 0)) → Below B w w' := fun w' hg => (Below.refl _ _).grown hg hB (fun j hj => (hown.lt j hj).1)
  cases ad with
  | none =>
    have hn : ps = [] := Classical.byContradiction fun hne => by obtain ⟨b, e, _⟩ := hc hne; cases e
    subst hn
    exact wpList_append_eq hgd s x _ ho _ _ _ hs hx (ap_nil w g cap o.type) (h _ _ hown (Below.refl _ _))
  | some y =>
    by_cases hn : ps = []
    · subst hn
      refine wpList_append_own _ hgd s x 38 ho B 101 i0 (.agg #[.int .i32 0, .int .i16 0]) 2 8 Tryd.underlying38 hi hz0 hz1 hz2 rfl (by decide) _ _ _ hs hown y 0 cap [] hx (by simp) (by intro j u hj; simp at hj) (by intro u hu; simp at hu) (by unfold maxLen; omega) (by omega) hB ?_
      intro v' w3 hown' hgrow _
      exact h v' w3 (by simpa [OwnVo, flatVo, flatE] using hown') (hbl w3 hgrow)
    · obtain ⟨b, e, hcc⟩ := hc hn
      obtain rfl : y = ⟨b, 0, none⟩ := by simpa using e
      refine wpList_append_own _ hgd s x 38 ho B 101 i0 (.agg #[.int .i32 0, .int .i16 0]) 2 8 Tryd.underlying38 hi hz0 hz1 hz2 rfl (by decide) _ _ _ hs hown ⟨b, 0, none⟩ ps.length cap (flatVo ps) hx (by rw [flatVo_length]) (news_vo hcc) (flatVo_one ps) (by unfold maxLen; omega) (by omega) hB ?_
      intro v' w3 hown' hgrow _
      exact h v' w3 (by simpa [OwnVo] using hown') (hbl w3 hgrow)

set_option maxHeartbeats 4000000 in
set_option maxRecDepth 100000 in
theorem sfd_any (v u : Value) (ps : List (Int × Int)) (xs : List Int) (w : World) (hv : ReadsVo w v ps) (hu : ReadsI w u xs) (hfit : FitsVo ps) (hx : ps.length ≤ 1048576) (hy : xs.length ≤ 1048576) :
    Calls Tryd.prog 31 #[v, u] w fun e w' => e = .returned (.tuple #[.int .i64 (fdR ps xs), .int .i64 (fdC ps xs)]) ∧ Below w.heap.size w w' := by
  have HV := Lib.hid hv
  obtain ⟨a, cap, rfl, ha⟩ := hu
  obtain ⟨n, hn⟩ : ∃ n, xs.length = n := ⟨_, rfl⟩
  have HN := Lib.hid hn
  have HA : Hid (n ≠ 0 → ∃ b, a = some ⟨b, 0, none⟩ ∧ Cells w b xs) := Lib.hid (fun h => ha (by intro e; rw [e] at hn; simp at hn; omega))
  by_cases h : vldVo ps = true
  · have HVL := Lib.hid h
    obtain ⟨h12, hok⟩ := vldVo_spec h
    have HOK := Lib.hid hok
    by_cases g : 1000 < xs.length
    · have hc := fd_no (askC_3 (day := 0) h g) (by decide)
      rw [hc.1, hc.2]
      rw [hn] at g hy ⊢
      have d1 : decide ((1000 : Int) < (n : Int)) = true := decide_eq_true (by omega)
      clear hc h hok g hv ha hn
      go_enter Tryd.func31, Tryd.ntmps31
      go_wp2_with fail
      refine (sokVo_any _ ps _ HV.out hfit hx).mono ?_
      rintro e w2 ⟨rfl, b2⟩
      rw [HVL.out]
      go_wp2_with fail
      go_ret2
      exact ⟨rfl, b2⟩
    · have d1 : decide ((1000 : Int) < (n : Int)) = false := decide_eq_false (by omega)
      have HBAD : Hid (∀ k, k < n → ¬ (0 ≤ xs.getD k 0 ∧ xs.getD k 0 ≤ 1000000) → fdR ps xs = 0 ∧ fdC ps xs = 2) := Lib.hid (fun k hk hb => fd_no (askC_2 (day := 0) h g (by rw [betwB_bad (by omega) hb]; simp)) (by decide))
      have HGOOD : Hid (betw xs 0 1000000 n → fdR ps xs = (fdGo ps xs n 0).1 ∧ fdC ps xs = (fdGo ps xs n 0).2) := Lib.hid (fun hb => by
        rw [← hn] at hb ⊢
        exact fd_ok (askC_0 (day := 0) h g (by rw [betwB_true hb]; rfl)))
      have HHIT : Hid (∀ k, k < n → 0 < dayD ps xs k → fdGo ps xs (n - k) k = ((k : Int), 0)) := Lib.hid (fun k hk h => fdGo_hit hk h)
      have HNXT : Hid (∀ k, k < n → ¬ 0 < dayD ps xs k → fdGo ps xs (n - k) k = fdGo ps xs (n - (k + 1)) (k + 1)) := Lib.hid (fun k hk h => fdGo_next hk h)
      obtain ⟨R0, hR0⟩ : ∃ R, fdR ps xs = R := ⟨_, rfl⟩
      obtain ⟨R1, hR1⟩ : ∃ R, fdC ps xs = R := ⟨_, rfl⟩
      rw [hR0, hR1] at HBAD HGOOD ⊢
      rw [hn] at hy g ⊢
      clear h hok hv ha hn hR0 hR1
      have hn1000 : n ≤ 1000 := by omega
      clear g
      go_enter Tryd.func31, Tryd.ntmps31
      go_wp2_with fail
      refine (sokVo_any _ ps _ HV.out hfit hx).mono ?_
      rintro e w2 ⟨rfl, b2⟩
      rw [HVL.out]
      have HB2 := Lib.hid b2
      clear b2
      go_wp2_with fail
      go_loopw [6] (fun i wr => ∃ k : Nat, k ≤ n ∧ i = .int .i64 k ∧ betw xs 0 1000000 k ∧ wr = w2) (fun i _ => n - (intOf i).toNat)
      case atStart => exact ⟨0, Nat.zero_le _, rfl, betw.zero _ _ _, rfl⟩
      case round =>
        obtain ⟨k, hk, rfl, hbt, hww⟩ := hrel
        rw [hww]
        clear hww wr
        have HBT := Lib.hid hbt
        by_cases hlt : k < n
        · obtain ⟨b, rfl, hc⟩ := HA.out (by omega)
          have cx := (hc.below HB2.out) k (by have := HN.out; omega)
          obtain ⟨x, hx1⟩ : ∃ x, xs.getD k 0 = x := ⟨_, rfl⟩
          rw [hx1] at cx
          have HX1 := Lib.hid hx1
          have hkn : (k : Int) < (n : Int) := by omega
          clear hbt hc hx1
          by_cases t : 0 ≤ x ∧ x ≤ 1000000
          · have HT : Hid (betwB [x] 0 1000000 = true) := Lib.hid (betw1_true t)
            have HNB : Hid (betw xs 0 1000000 (k + 1)) := Lib.hid (HBT.out.succ (by rw [HX1.out]; exact t))
            clear t
            go_wp2_with (go_at_call 69; refine (samt_any _ _).mono ?_; rintro e w3 ⟨rfl, hw3⟩; rw [hw3, HT.out]; clear hw3 w3)
            go_roundw
            case rel => exact ⟨k + 1, by omega, by go_num, HNB.out, trivial⟩
            case measure => simp [intOf]; omega
          · have HT : Hid (betwB [x] 0 1000000 = false) := Lib.hid (betw1_false t)
            have HE := Lib.hid (HBAD.out k hlt (by rw [HX1.out]; exact t))
            clear t
            go_wp2_with (go_at_call 69; refine (samt_any _ _).mono ?_; rintro e w3 ⟨rfl, hw3⟩; rw [hw3, HT.out]; clear hw3 w3)
            go_ret2
            exact ⟨ret_tw ⟨HE.out.1.symm, HE.out.2.symm⟩, HB2.out⟩
        · have hk' : k = n := by omega
          rw [hk'] at hbt
          have HBA := Lib.hid hbt
          have HE := Lib.hid (HGOOD.out hbt)
          have hb0 : Below w2.heap.size w2 (w2.alloc (.cells #[] 101)) := (Below.refl _ _).alloc (Nat.le_refl _) _
          have HOE : Hid ((w2.alloc (.cells #[] 101)).ownsRow w2.heap.size 101 2 (.slice (some ⟨w2.heap.size, 0, none⟩) 0 0) 0 []) := Lib.hid (World.ownsRow_made w2 #[] 0 (Nat.le_refl _) (Nat.zero_le _) rfl)
          have HV2 := Lib.hid ((HV.out.below HB2.out).below hb0)
          have HB0 := Lib.hid hb0
          clear hk' hbt hb0
          go_wp2_with (at_builtin; refine wpList_copyVo rfl _ _ rfl w2.heap.size w2.heap.size _ ps rfl rfl HOE.out (by simp) HV2.out hx ?_; intro v' w5 ho5 hb5; have HR5 := Lib.hid ho5.reads; have HB5 : Hid (Below w.heap.size w w5) := Lib.hid (HB2.out.trans ((HB0.out.trans hb5).mono HB2.out.size)); clear ho5 hb5)
          go_loopw [7, 8] (fun lv i wr => ∃ k : Nat, k ≤ n ∧ i = .int .i64 k ∧ ReadsVo wr lv (lfK ps xs k) ∧ fdGo ps xs n 0 = fdGo ps xs (n - k) k ∧ Below w.heap.size w wr) (fun _ i _ => n - (intOf i).toNat)
          case atStart => exact ⟨0, Nat.zero_le _, rfl, HR5.out, rfl, HB5.out⟩
          case round =>
            obtain ⟨k, hk, rfl, hrd, hgo, hww⟩ := hrel
            have HGO := Lib.hid hgo
            have HB := Lib.hid hww
            by_cases hlt : k < n
            · obtain ⟨b, rfl, hc⟩ := HA.out (by omega)
              have cx := (hc.below hww) k (by have := HN.out; omega)
              have hxr := HBA.out k hlt
              have hlk := lfK_len ps xs k
              have hlo := lfK_ok (ps := ps) (xs := xs) (k := k) HOK.out (fun i hi => (HBA.out i (by omega)).1)
              have HPY := Lib.hid (spay_all u7 (lfK ps xs k) (k : Int) (xs.getD k 0) (by omega) hlo hxr.1 hxr.2 wr hrd)
              have HDD : Hid (payD (lfK ps xs k) (k : Int) (xs.getD k 0) = dayD ps xs k) := Lib.hid rfl
              have HLF : Hid (payL (lfK ps xs k) (k : Int) (xs.getD k 0) = lfK ps xs (k + 1)) := Lib.hid rfl
              have HH := Lib.hid (HHIT.out k hlt)
              have HX := Lib.hid (HNXT.out k hlt)
              rw [HDD.out, HLF.out] at HPY
              obtain ⟨x, hx1⟩ : ∃ x, xs.getD k 0 = x := ⟨_, rfl⟩
              rw [hx1] at cx HPY
              obtain ⟨d, hd⟩ : ∃ d, dayD ps xs k = d := ⟨_, rfl⟩
              rw [hd] at HPY HH HX
              have hkn : (k : Int) < (n : Int) := by omega
              clear hrd hgo hww hc hxr hlk hlo hx1 hd HDD HLF
              go_wp2_with fail
              refine HPY.out.mono ?_
              rintro e w4 ⟨q, rfl, ho, b4⟩
              have HO := Lib.hid ho.reads
              have HB4 : Hid (Below w.heap.size w w4) := Lib.hid (blink HB.out b4)
              clear ho b4
              by_cases t : 0 < d
              · have d2 : decide (0 < d) = true := decide_eq_true t
                have HF : Hid (R0 = (k : Int) ∧ R1 = 0) := Lib.hid (by rw [HE.out.1, HE.out.2, HGO.out, HH.out t]; exact ⟨rfl, rfl⟩)
                clear t
                go_wp2_with fail
                go_ret2
                exact ⟨ret_tw ⟨HF.out.1.symm, HF.out.2.symm⟩, HB4.out⟩
              · have d2 : decide (0 < d) = false := decide_eq_false t
                have HF : Hid (fdGo ps xs n 0 = fdGo ps xs (n - (k + 1)) (k + 1)) := Lib.hid (by rw [HGO.out]; exact HX.out (by omega))
                clear t
                go_wp2_with fail
                go_roundw
                case rel => exact ⟨k + 1, by omega, by go_num, HO.out, HF.out, HB4.out⟩
                case measure => simp [intOf]; omega
            · have hk' : k = n := by omega
              have HF : Hid (R0 = 0 ∧ R1 = 6) := Lib.hid (by rw [HE.out.1, HE.out.2, hgo, hk', Nat.sub_self]; exact ⟨rfl, rfl⟩)
              clear hk' hrd hgo hww
              go_wp2_with fail
              go_ret2
              exact ⟨ret_tw ⟨HF.out.1.symm, HF.out.2.symm⟩, HB.out⟩
  · have h : vldVo ps = false := by simpa using h
    have HVL := Lib.hid h
    have hc := fd_no (askC_1 (day := 0) (xs := xs) h) (by decide)
    rw [hc.1, hc.2]
    rw [hn]
    clear hc h hv ha hn
    go_enter Tryd.func31, Tryd.ntmps31
    go_wp2_with fail
    refine (sokVo_any _ ps _ HV.out hfit hx).mono ?_
    rintro e w2 ⟨rfl, b2⟩
    rw [HVL.out]
    go_wp2_with fail
    go_ret2
    exact ⟨rfl, b2⟩
end Go.Proofs.YtgimpmdiilmkoaaDoor
