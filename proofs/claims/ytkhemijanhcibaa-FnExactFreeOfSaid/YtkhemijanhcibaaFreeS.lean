/-
  The model's FreeOf.
-/
import Derived.Test.YtkhemijanhcibaaFreeP
import Derived.Test.YtkhemijanhcibaaTabK
namespace Go.Proofs.Ytkhemijanhcibaa
open Go Go.RowKit
set_option linter.unusedVariables false

theorem sminF_any (a b : Int) (w : World) : Calls Try.prog 34 #[.int .i64 a, .int .i64 b] w fun e w' => e = .returned (.int .i64 (min a b)) ∧ w = w' := by
  by_cases h : a < b
  · have t : min a b = a := by omega
    have HT := Lib.hid t
    clear t
    go_enter Try.func34, Try.ntmps34
    go_wp2_with fail
    go_ret
    exact ⟨ret_int HT.out.symm, rfl⟩
  · have t : min a b = b := by omega
    have HT := Lib.hid t
    clear t
    go_enter Try.func34, Try.ntmps34
    go_wp2_with fail
    go_ret
    exact ⟨ret_int HT.out.symm, rfl⟩

/-- What the first loop knows behind q numbers. -/
def FinS (xs : List Int) (e : Int) (q : Nat) (fb : Bool) : Prop := (fb = true ∧ inB e 2 8 = true ∧ betw xs 0 10000 q) ∨ (fb = false ∧ ¬ (betwB xs 0 10000 = true ∧ inB e 2 8 = true))
theorem FinS.start (xs : List Int) (e : Int) : FinS xs e 0 (inB e 2 8) := by
  cases h : inB e 2 8
  · exact .inr ⟨rfl, fun q => by rw [h] at q; exact absurd q.2 (by simp)⟩
  · exact .inl ⟨rfl, h, betw.zero _ _ _⟩

set_option maxHeartbeats 2000000 in
set_option maxRecDepth 100000 in
theorem sFree_any (v : Value) (xs : List Int) (e : Int) (w : World) (hv : ReadsI w v xs) (hn : xs.length ≤ 1048576) :
    Calls Try.prog 16 #[v, .int .i64 e] w fun r w' => r = .returned (.tuple #[.int .i64 (freeX xs e), .int .i64 (freeC xs e)]) ∧ Below w.heap.size w w' := by
  obtain ⟨a, cap, rfl, ha⟩ := hv
  have HA := Lib.hid ha
  obtain ⟨n, hn'⟩ : ∃ n, xs.length = n := ⟨_, rfl⟩
  rw [hn'] at hn ⊢
  have HN := Lib.hid hn'
  clear ha hn'
  go_enter Try.func16, Try.ntmps16
  go_wp2_with fail
  refine (in_any e 2 8 _).mono ?_
  rintro r w2 ⟨rfl, hw⟩
  subst hw
  go_wp2_with fail
  go_loop [6, 7] (fun f i => ∃ (q : Nat) (fb : Bool), q ≤ n ∧ i = .int .i64 q ∧ f = .bool fb ∧ FinS xs e q fb) (fun _ i => n - (intOf i).toNat)
  case atStart => exact ⟨0, inB e 2 8, Nat.zero_le _, rfl, rfl, FinS.start xs e⟩
  case round =>
    obtain ⟨q, fb, hq, rfl, rfl, hfin⟩ := hrel
    rcases hfin with ⟨rfl, hin, hbt⟩ | ⟨rfl, hno⟩
    · have HIN := Lib.hid hin
      have HBT := Lib.hid hbt
      clear hin hbt
      by_cases hlt : q < n
      · obtain ⟨g, rfl, hc⟩ := HA.out (by intro e; have := HN.out; rw [e] at this; simp at this; omega)
        have cx := hc q (by have := HN.out; omega)
        have HS : Hid (0 ≤ xs.getD q 0 ∧ xs.getD q 0 ≤ 10000 → betw xs 0 10000 (q + 1)) := Lib.hid HBT.out.succ
        have HBAD : Hid (¬ (0 ≤ xs.getD q 0 ∧ xs.getD q 0 ≤ 10000) → betwB xs 0 10000 = false) := Lib.hid (betwB_bad (by have := HN.out; omega))
        obtain ⟨x, hx⟩ : ∃ x, xs.getD q 0 = x := ⟨_, rfl⟩
        rw [hx] at cx HS HBAD
        clear hc hx
        by_cases h1 : 0 ≤ x ∧ x ≤ 10000
        · have T := Lib.hid (inB_true h1)
          have HH := Lib.hid h1
          clear h1
          go_wp2_with fail
          refine (in_any x 0 10000 _).mono ?_
          rintro r w2 ⟨rfl, hw⟩
          subst hw
          rw [T.out]
          go_wp2_with fail
          go_round
          case rel => exact ⟨q + 1, true, by omega, by go_num, rfl, .inl ⟨rfl, HIN.out, HS.out HH.out⟩⟩
          case measure => simp [intOf]; omega
        · have T := Lib.hid (inB_false h1)
          have HH := Lib.hid h1
          clear h1
          go_wp2_with fail
          refine (in_any x 0 10000 _).mono ?_
          rintro r w2 ⟨rfl, hw⟩
          subst hw
          rw [T.out]
          go_wp2_with fail
          go_round
          case rel => exact ⟨q + 1, false, by omega, by go_num, rfl, .inr ⟨rfl, fun h => by rw [HBAD.out HH.out] at h; exact absurd h.1 (by simp)⟩⟩
          case measure => simp [intOf]; omega
      · have hq' : q = n := by omega
        have HBB : Hid (betwB xs 0 10000 = true) := Lib.hid (betwB_true (by rw [HN.out, ← hq']; exact HBT.out))
        clear hq'
        by_cases h100 : n ≤ 100
        · have HX := Lib.hid (free_0 HBB.out HIN.out (by rw [HN.out]; exact h100))
          have hin := of_decide_eq_true (p := 2 ≤ e ∧ e ≤ 8) HIN.out
          obtain ⟨en, rfl⟩ : ∃ en : Nat, e = en := ⟨e.toNat, by omega⟩
          have he2 : 2 ≤ en := by omega
          have he8 : en ≤ 8 := by omega
          have hen0 : (en : Int) ≠ 0 := by omega
          have hen1 : (0 : Int) < (en : Int) := by omega
          clear hin
          go_wp2_with fail
          go_loop [8, 9, 10] (fun s l i => ∃ g c : Nat, c < en ∧ g * en + c ≤ n ∧ i = .int .i64 ((g * en + c : Nat) : Int) ∧ s = .int .i64 (gsum xs en g) ∧ l = .int .i64 (lst xs (g * en) c)) (fun _ _ i => n - (intOf i).toNat)
          case atStart => exact ⟨0, 0, by omega, by omega, by simp, rfl, rfl⟩
          case round =>
            obtain ⟨g, c, hc1, hc2, rfl, rfl, rfl⟩ := hrel
            have hge : g * 2 ≤ g * en := Nat.mul_le_mul_left g he2
            have hgs := gsum_bound (L := xs) (e := en) (g := g) (betwB_spec HBB.out) (by omega) (by rw [HN.out]; omega)
            have hls := lst_bound (L := xs) (f := g * en) (c := c) (betwB_spec HBB.out) (by rw [HN.out]; exact hc2)
            have HSN := Lib.hid (lst_succ xs (g * en) c)
            have HSU := Lib.hid (gsum_succ xs en g)
            have HMN : Hid (c + 1 = en → lst xs (g * en) (c + 1) = mn xs (g * en) en) := Lib.hid (fun h => by
              rw [lst_mn _ _ _ (by
                by_cases hz : g * en < xs.length
                · exact (betwB_spec HBB.out (g * en) hz).2
                · rw [List.getD, List.getElem?_eq_none (by omega)]; simp), h])
            have HDIV := Lib.hid (div_at (q := g) hc1)
            have HMOD : Hid (c + 1 = en → (g * en + c + 1) % en = 0) := Lib.hid (fun h => by
              rw [Nat.add_assoc, h, ← Nat.succ_mul, Nat.mul_mod_left])
            have HMOD2 : Hid (¬ c + 1 = en → (g * en + c + 1) % en = c + 1) := Lib.hid (fun h => by
              rw [Nat.add_assoc]; exact mod_at (by omega))
            have HNX : Hid (c + 1 = en → (g + 1) * en + 0 = g * en + c + 1) := Lib.hid (fun h => by rw [Nat.succ_mul]; omega)
            obtain ⟨gs, hgs'⟩ : ∃ x, gsum xs en g = x := ⟨_, rfl⟩
            obtain ⟨ls, hls'⟩ : ∃ x, lst xs (g * en) c = x := ⟨_, rfl⟩
            obtain ⟨k, hk⟩ : ∃ k, g * en + c = k := ⟨_, rfl⟩
            rw [hgs'] at hgs HSU ⊢
            rw [hls'] at hls HSN ⊢
            rw [hk] at hc2 HDIV HMOD HMOD2 HNX HSN ⊢
            obtain ⟨gs1, gs2⟩ := hgs
            obtain ⟨ls1, ls2⟩ := hls
            have hg50 : g ≤ 50 := by omega
            have HK := Lib.hid hk
            have HGS := Lib.hid hgs'
            clear hge hgs' hls' hk
            by_cases hlt : k < n
            · obtain ⟨ga, rfl, hc⟩ := HA.out (by intro e; have := HN.out; rw [e] at this; simp at this; omega)
              have cx := hc k (by have := HN.out; omega)
              have hxb := betwB_spec HBB.out k (by have := HN.out; omega)
              obtain ⟨x, hx⟩ : ∃ x, xs.getD k 0 = x := ⟨_, rfl⟩
              rw [hx] at cx HSN hxb
              obtain ⟨xb1, xb2⟩ := hxb
              clear hc hx
              by_cases hfull : c + 1 = en
              · have t1 : (((k : Int) + 1) % (en : Int) == 0) = true := by
                  have h := HMOD.out hfull
                  have h2 : ((k : Int) + 1) % (en : Int) = (((k + 1) % en : Nat) : Int) := by simp
                  rw [h2, h]; rfl
                have HF := Lib.hid hfull
                clear hfull
                go_wp2_with fail
                refine (sminF_any _ _ _).mono ?_
                rintro r w4 ⟨rfl, rfl⟩
                rw [← HSN.out]
                rw [HMN.out HF.out] at HSN ⊢
                obtain ⟨m1, hm1⟩ : ∃ m, mn xs (g * en) en = m := ⟨_, rfl⟩
                have m1b : 0 ≤ m1 ∧ m1 ≤ 10000 := by have := HSN.out; rw [hm1] at this; omega
                obtain ⟨m1b1, m1b2⟩ := m1b
                rw [hm1] at HSU ⊢
                clear hm1
                go_wp2_with fail
                go_round
                case rel => exact ⟨g + 1, 0, by omega, by rw [HNX.out HF.out]; omega, by rw [HNX.out HF.out]; go_num, by rw [HSU.out], rfl⟩
                case measure => simp [intOf]; omega
              · have t1 : (((k : Int) + 1) % (en : Int) == 0) = false := by
                  have h := HMOD2.out hfull
                  have h2 : ((k : Int) + 1) % (en : Int) = (((k + 1) % en : Nat) : Int) := by simp
                  rw [h2, h]; simp; omega
                have HF := Lib.hid hfull
                clear hfull
                go_wp2_with fail
                refine (sminF_any _ _ _).mono ?_
                rintro r w4 ⟨rfl, rfl⟩
                rw [← HSN.out]
                go_wp2_with fail
                go_round
                case rel => exact ⟨g, c + 1, by have := HF.out; omega, by have := HK.out; omega, by have := HK.out; rw [← Nat.add_assoc, this]; go_num, by rw [HGS.out], rfl⟩
                case measure => simp [intOf]; omega
            · have hk' : k = n := by omega
              have HR : Hid (freeX xs en = gs ∧ freeC xs en = 0) := Lib.hid ⟨by rw [HX.out.1, Int.toNat_natCast, HN.out, ← hk', HDIV.out, HGS.out], HX.out.2⟩
              clear hk'
              go_wp2_with fail
              go_ret2
              exact ⟨ret_eq (by rw [HR.out.1, HR.out.2]; rfl), Below.refl _ _⟩
        · have HX := Lib.hid (free_3 HBB.out HIN.out (by rw [HN.out]; exact h100))
          go_wp2_with fail
          go_ret2
          exact ⟨ret_eq (by rw [HX.out.1, HX.out.2]; rfl), Below.refl _ _⟩
    · have HX := Lib.hid (free_2 hno)
      clear hno
      by_cases hlt : q < n
      · go_wp2_with fail
        go_round
        case rel => exact ⟨q + 1, false, by omega, by go_num, rfl, .inr ⟨rfl, fun h => absurd HX.out.2 (by unfold freeC; rw [if_pos h]; split <;> decide)⟩⟩
        case measure => simp [intOf]; omega
      · go_wp2_with fail
        go_ret2
        exact ⟨ret_eq (by rw [HX.out.1, HX.out.2]; rfl), Below.refl _ _⟩
end Go.Proofs.Ytkhemijanhcibaa
