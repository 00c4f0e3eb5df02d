/-
  The program's ShiftAll and ShiftBag.
-/
import Derived.Test.YtadhoodddedjjabShJ
import Derived.Test.YtadhoodddedjjabRShift
namespace Go.Proofs.Ytadhoodddedjjab
open Go Go.RowKit
set_option linter.unusedVariables false

/-- A result: bags of the call's own, and a code. -/
def RetMD1 (w : World) (R : List (List Int)) (c : Int) (e : Ending) (w' : World) : Prop := ∃ v, e = .returned (.tuple #[v, .int .i64 c]) ∧ OwnMD w.heap.size w'.heap.size w' v R ∧ Below w.heap.size w w'
def RetMX1 (w : World) (R : List (List Int)) (c : Int) (e : Ending) (w' : World) : Prop := ∃ v, e = .returned (.tuple #[v, .int .i64 c]) ∧ OwnMX w.heap.size w'.heap.size w' v R ∧ Below w.heap.size w w'
theorem ownMD_nil (lo hi : Nat) (w : World) : OwnMD lo hi w (.slice none 0 0) [] := ⟨[], World.ownsRow_nil _ _ _ _, fun j hj => absurd hj (by simp), fun p hp => by simp [Value.ownBlock] at hp, fun j hj => absurd hj (by simp), fun i j _ hj => absurd hj (by simp)⟩
theorem shA_cases (R : List (List Int)) (ss : List (Int × Int)) : (vldM R = false → shAC R ss = 1 ∧ shAR R ss = []) ∧ (vldM R = true → 100 < ss.length → shAC R ss = 3 ∧ shAR R ss = []) ∧
    (vldM R = true → ¬ 100 < ss.length → codeK R ss ss.length = 0 → shAC R ss = 0 ∧ shAR R ss = stK R ss ss.length) ∧ (vldM R = true → ¬ 100 < ss.length → codeK R ss ss.length ≠ 0 → shAC R ss = codeK R ss ss.length ∧ shAR R ss = []) := by
  refine ⟨fun h => ?_, fun h h1 => ?_, fun h h1 h2 => ?_, fun h h1 h2 => ?_⟩
  · have e : shAC R ss = 1 := by simp [shAC, h]
    exact ⟨e, by rw [shAR, e]; simp⟩
  · have e : shAC R ss = 3 := by simp [shAC, h, h1]
    exact ⟨e, by rw [shAR, e]; simp⟩
  · have e : shAC R ss = 0 := by simp [shAC, h, h1, h2]
    exact ⟨e, by rw [shAR, e]; simp⟩
  · have e : shAC R ss = codeK R ss ss.length := by simp [shAC, h, h1]
    exact ⟨e, by rw [shAR, e, if_neg h2]⟩

set_option maxHeartbeats 4000000 in
set_option maxRecDepth 100000 in
theorem ishA_any (lo hi : Nat) (v v2 : Value) (R : List (List Int)) (ss : List (Int × Int)) (w : World) (ho : OwnMD lo hi w v R) (hv2 : ReadsV w v2 ss) (hfit : FitsV ss) (hx : R.length ≤ 1048576) (hr : ∀ j, j < R.length → (R.getD j []).length ≤ 1048576) (hs : ss.length ≤ 1048576) :
    Calls Try.prog 23 #[v, v2] w (RetMD1 w (shAR R ss) (shAC R ss)) := by
  obtain ⟨a2, cap2, rfl, hrd⟩ := hv2
  have HRD : Hid (∀ k, k < ss.length → ∃ b, a2 = some ⟨b, 0, none⟩ ∧ CellsV w b ss) := Lib.hid (fun k hk => hrd (fun e => by rw [e] at hk; simp at hk))
  have HC := shA_cases R ss
  have HV := Lib.hid ho.reads
  obtain ⟨n, hn⟩ : ∃ n, ss.length = n := ⟨_, rfl⟩
  have HN := Lib.hid hn
  have HFIT := Lib.hid hfit
  rw [hn] at hs HC ⊢
  clear hrd hn hfit
  cases hvl : vldM R
  · have HR := Lib.hid (HC.1 hvl)
    rw [HR.out.1, HR.out.2]
    clear HC
    go_enter Try.func23, Try.ntmps23
    go_wp2_with fail
    refine (ivldM_eq _ R _ HV.out hx hr).mono ?_
    rintro e w2 ⟨rfl, rfl⟩
    rw [hvl]
    go_wp2_with fail
    go_ret2
    exact ⟨_, rfl, ownMD_nil _ _ _, Below.refl _ _⟩
  · have HVL := Lib.hid hvl
    have hne : R ≠ [] := fun e => by rw [e] at hvl; simp [vldM] at hvl
    have HS := Lib.hid (ho.solid hne)
    by_cases h100 : 100 < n
    · have HR := Lib.hid (HC.2.1 hvl h100)
      rw [HR.out.1, HR.out.2]
      have t1 : decide ((100 : Int) < (n : Int)) = true := decide_eq_true (by omega)
      clear HC
      go_enter Try.func23, Try.ntmps23
      go_wp2_with fail
      refine (ivldM_eq _ R _ HV.out hx hr).mono ?_
      rintro e w2 ⟨rfl, rfl⟩
      rw [hvl]
      clear hvl
      go_wp2_with fail
      go_ret2
      exact ⟨_, rfl, ownMD_nil _ _ _, Below.refl _ _⟩
    · have t1 : decide ((100 : Int) < (n : Int)) = false := decide_eq_false (by omega)
      have H3 := Lib.hid (HC.2.2.1 hvl h100)
      have H4 := Lib.hid (HC.2.2.2 hvl h100)
      clear HC ho
      go_enter Try.func23, Try.ntmps23
      go_wp2_with fail
      refine (ivldM_eq _ R _ HV.out hx hr).mono ?_
      rintro e w2 ⟨rfl, rfl⟩
      rw [hvl]
      clear hvl
      go_wp2_with fail
      go_loopw [0, 17] (fun g i wr => ∃ k : Nat, k ≤ n ∧ i = .int .i64 k ∧ ReadsS wr g (stK R ss k) ∧ codeK R ss k = 0 ∧ Below w.heap.size w wr) (fun _ i _ => n - (intOf i).toNat)
      case atStart => exact ⟨0, Nat.zero_le _, rfl, HS.out, rfl, Below.refl _ _⟩
      case round =>
        obtain ⟨k, hk, rfl, hrs, hcd, hnx⟩ := hrel
        have HRS := Lib.hid hrs
        have HCD := Lib.hid hcd
        have HNX := Lib.hid hnx
        have hok := stK_ok HVL.out k hcd
        have htot := vldM_tot hok
        have hsp := vldM_spec hok
        have HOK := Lib.hid hok
        have HTOT := Lib.hid htot
        have HSP := Lib.hid hsp
        have hwr : w.heap.size ≤ wr.heap.size := hnx.size
        by_cases hlt : k < n
        · have hks : k < ss.length := by have := HN.out; omega
          obtain ⟨b, hab, hc⟩ := HRD.out k hks
          subst hab
          obtain ⟨c0, c1⟩ := hc.below hnx k hks
          have hft := HFIT.out.get k hks
          have HNX2 := Lib.hid (codeK_next hcd)
          have HST : Hid (stK R ss (k + 1) = shM (stK R ss k) (ss.getD k (0, 0)).1 (ss.getD k (0, 0)).2) := Lib.hid rfl
          obtain ⟨q, hq⟩ : ∃ q, ss.getD k (0, 0) = q := ⟨_, rfl⟩
          rw [hq] at c0 c1 hft HNX2 HST
          obtain ⟨f, t⟩ := q
          unfold FitV at hft
          simp only at hft
          obtain ⟨⟨f1, f2⟩, t1', t2⟩ := hft
          have HB1 : Hid (Below w.heap.size w (wr.alloc (.cells #[.int .i8 f, .int .i8 t] 34))) := Lib.hid (hnx.alloc hwr _)
          have HRS1 : Hid (ReadsS (wr.alloc (.cells #[.int .i8 f, .int .i8 t] 34)) u0 (stK R ss k)) := Lib.hid (hrs.below ((Below.refl _ _).alloc (Nat.le_refl _) _))
          have HBX : Hid (Blk2 (wr.alloc (.cells #[.int .i8 f, .int .i8 t] 34)) wr.heap.size 34 (.int .i8 f) (.int .i8 t)) := Lib.hid (Blk2.new rfl _ _ _)
          clear hq hrs hcd hnx hok htot hsp hc
          go_wp2_with fail
          generalize wr.alloc (.cells #[.int .i8 f, .int .i8 t] 34) = w5 at HB1 HRS1 HBX ⊢
          refine (check_any u0 (stK R ss k) f t w5 HRS1.out HSP.out.1 HTOT.out.1 HTOT.out.2.1 f1 f2 t1' t2).mono ?_
          rintro e w6 ⟨rfl, b6⟩
          have HB6 := Lib.hid (blink HB1.out b6)
          have HRS6 := Lib.hid (HRS1.out.below b6)
          have HBX6 := HBX.out.below b6
          have xb0 := HBX6.at0
          have xb1 := HBX6.at1
          have hs6 : w.heap.size ≤ w6.heap.size := HB6.out.size
          clear HBX6 b6
          by_cases hc0 : shC (stK R ss k) f t = 0
          · rw [hc0]
            obtain ⟨f', t', rfl, rfl, p1, p2, p3, p4, p5⟩ := shC_zero hc0
            have HK1 : Hid (codeK R ss (k + 1) = 0) := Lib.hid (by rw [HNX2.out, hc0])
            have HP := Lib.hid (And.intro p1 (And.intro p2 (And.intro p3 p4)))
            clear hc0 p1 p2 p3 p4 p5
            go_wp2_with fail
            refine (shifted_any u0 (stK R ss k) f' t' _ HRS6.out HTOT.out.1 HTOT.out.2.1 HP.out.1 HP.out.2.1 HP.out.2.2.1 HP.out.2.2.2).mono ?_
            rintro e w7 ⟨v7, rfl, r7, b7⟩
            have HB7 := Lib.hid (blink HB6.out b7)
            have HR7 : Hid (ReadsS w7 v7 (stK R ss (k + 1))) := Lib.hid (by rw [HST.out]; exact r7)
            clear r7 b7
            go_wp2_with fail
            go_roundw
            case rel => exact ⟨k + 1, by omega, by go_num, HR7.out, HK1.out, HB7.out⟩
            case measure => simp [intOf]; omega
          · obtain ⟨c, hce⟩ : ∃ c, shC (stK R ss k) f t = c := ⟨_, rfl⟩
            rw [hce] at hc0 HNX2 ⊢
            have hcb : (c != 0) = true := by simp [hc0]
            have HCN : Hid (codeK R ss n = c) := Lib.hid (by
              have h := codeK_stays (R := R) (ss := ss) (k := k + 1) (by rw [HNX2.out]; exact hc0) (n - (k + 1))
              rw [show k + 1 + (n - (k + 1)) = n by omega, HNX2.out] at h
              exact h)
            have HC0 := Lib.hid hc0
            clear hce hc0
            go_wp2_with fail
            go_ret2
            have h4 := H4.out (by rw [HCN.out]; exact HC0.out)
            rw [HCN.out] at h4
            rw [h4.1, h4.2]
            exact ⟨_, rfl, ownMD_nil _ _ _, HB6.out⟩
        · have hkn : k = n := by omega
          subst hkn
          have h3 := H3.out HCD.out
          have HR3 := Lib.hid h3
          clear h3 hrs hcd hnx hok htot hsp
          go_wp2_with fail
          refine (copied_any u0 (stK R ss k) wr HRS.out HTOT.out.1 HTOT.out.2.1).mono ?_
          rintro e w7 ⟨v7, rfl, o7, b7⟩
          have HB7 := Lib.hid (blink HNX.out b7)
          have HO7 := Lib.hid (o7.mono hwr (Nat.le_refl _))
          clear o7 b7
          go_wp2_with fail
          go_ret2
          rw [HR3.out.1, HR3.out.2]
          exact ⟨_, rfl, HO7.out, HB7.out⟩

theorem sh1_eq (R : List (List Int)) (f t : Int) : shAC R [(f, t)] = sh1C R f t ∧ shAR R [(f, t)] = sh1R R f t := by
  have e : shAC R [(f, t)] = sh1C R f t := by simp [shAC, sh1C, codeK, stK]
  exact ⟨e, by rw [shAR, sh1R, e]; rfl⟩

set_option maxHeartbeats 4000000 in
set_option maxRecDepth 100000 in
theorem ish1_any (lo hi : Nat) (v : Value) (R : List (List Int)) (f t : Int) (w : World) (ho : OwnMD lo hi w v R) (hfit : FitV (f, t)) (hx : R.length ≤ 1048576) (hr : ∀ j, j < R.length → (R.getD j []).length ≤ 1048576) :
    Calls Try.prog 17 #[v, .agg #[.int .i8 f, .int .i8 t]] w (RetMD1 w (sh1R R f t) (sh1C R f t)) := by
  obtain ⟨h1, h2⟩ := sh1_eq R f t
  rw [← h1, ← h2]
  have HB : Hid (Below w.heap.size w ((w.alloc (.cells #[.int .i8 f, .int .i8 t] 34)).alloc (.cells #[.int .i8 f, .int .i8 t] 34))) := Lib.hid (((Below.refl _ _).alloc (Nat.le_refl _) _).alloc (by simp) _)
  have HO := Lib.hid (ho.below HB.out)
  have HX := Lib.hid (And.intro hx hr)
  have HF : Hid (FitsV [(f, t)]) := Lib.hid (fun p hp => by simp at hp; subst hp; exact hfit)
  have hbk : Blk2 ((w.alloc (.cells #[.int .i8 f, .int .i8 t] 34)).alloc (.cells #[.int .i8 f, .int .i8 t] 34)) (w.heap.size + 1) 34 (.int .i8 f) (.int .i8 t) := Blk2.new (by simp) _ _ _
  have HV2 : Hid (ReadsV ((w.alloc (.cells #[.int .i8 f, .int .i8 t] 34)).alloc (.cells #[.int .i8 f, .int .i8 t] 34)) (.slice (some ⟨w.heap.size + 1, 0, none⟩) 1 1) [(f, t)]) := Lib.hid ⟨_, 1, rfl, fun _ => ⟨_, rfl, fun i hi => by
    have e : i = 0 := by simp at hi; omega
    subst e
    exact ⟨hbk.at0, hbk.at1⟩⟩⟩
  clear ho h1 h2 hx hr hfit hbk
  obtain ⟨a, l, c, rfl⟩ : ∃ a l c, v = .slice a l c := by
    obtain ⟨us, h1, _⟩ := HO.out
    rcases h1.2 with ⟨rfl, _⟩ | ⟨g, cap, cur, rfl, _⟩
    · exact ⟨_, _, _, rfl⟩
    · exact ⟨_, _, _, rfl⟩
  go_enter Try.func17, Try.ntmps17
  go_wp2_with fail
  refine (ishA_any lo hi _ _ R [(f, t)] _ HO.out HV2.out HF.out HX.out.1 HX.out.2 (by simp)).mono ?_
  rintro e w3 ⟨v3, rfl, o3, b3⟩
  have HB3 := Lib.hid (blink HB.out b3)
  have HO3 := Lib.hid (o3.mono HB.out.size (Nat.le_refl _))
  clear o3 b3
  go_wp2_with fail
  go_ret2
  exact ⟨_, rfl, HO3.out, HB3.out⟩
end Go.Proofs.Ytadhoodddedjjab
