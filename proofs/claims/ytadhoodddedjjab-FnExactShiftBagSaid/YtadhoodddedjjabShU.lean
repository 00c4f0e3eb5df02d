/-
  The model's ShiftBag and ShiftAll.
-/
import Derived.Test.YtadhoodddedjjabShT
import Derived.Deep.RegionHeld3
namespace Go.Proofs.Ytadhoodddedjjab
open Go Go.RowKit
set_option linter.unusedVariables false

theorem OwnV.out {T : TypeId} {B lo hi : Nat} {w w' : World} {v : Value} {ps : List (Int × Int)} (h : OwnV T B w v ps) (K : KeepsOut lo hi w w') (hd : ∀ k, v.ownBlock = some k → k < lo ∨ hi ≤ k) : OwnV T B w' v ps := row_out h K hd
theorem Blk2.out {w w' : World} {B lo hi : Nat} {T : TypeId} {x y : Value} (h : Blk2 w B T x y) (K : KeepsOut lo hi w w') (hd : B < lo ∨ hi ≤ B) : Blk2 w' B T x y := (K.block B h.lt hd).trans h
theorem szM_tot {l : Int} {R : List (List Int)} (h : 0 ≤ szM l R) : (tot R : Int) ≤ l := by
  unfold szM at h
  split at h <;> omega
theorem ownMX_new (w : World) : OwnMX w.heap.size (w.alloc (.cells #[] 52)).heap.size (w.alloc (.cells #[] 52)) (.slice (some ⟨w.heap.size, 0, none⟩) 0 0) [] := ownMX_made _ _ _ (Nat.le_refl _) (by simp)
theorem below1 (w : World) (o : Obj) : Below w.heap.size w (w.alloc o) := (Below.refl _ _).alloc (Nat.le_refl _) _
theorem ownMX_mk (lo : Nat) (w : World) (h : lo ≤ w.heap.size) : OwnMX lo (w.alloc (.cells #[] 52)).heap.size (w.alloc (.cells #[] 52)) (.slice (some ⟨w.heap.size, 0, none⟩) 0 0) [] := ownMX_made _ _ _ h (by simp)

/-- The model's shift, every case. -/
theorem sshift_any (v : Value) (R : List (List Int)) (f t : Int) (w : World) (hv : ReadsS w v R) (hvl : vldM R = true) (hf1 : -128 ≤ f) (hf2 : f ≤ 127) (ht1 : -128 ≤ t) (ht2 : t ≤ 127) :
    Calls Try.prog 42 #[v, .agg #[.int .i8 f, .int .i8 t]] w (RetMX1 w (if shC R f t = 0 then shM R f t else []) (shC R f t)) := by
  by_cases h : shC R f t = 0
  · rw [if_pos h, h]
    obtain ⟨f', t', rfl, rfl, p1, p2, p3, p4, p5⟩ := shC_zero h
    exact sshift_ok v R f' t' w hv hvl p1 p2 p3 p4 p5
  · rw [if_neg h]
    exact sshift_bad v R f t w hv hvl hf1 hf2 ht1 ht2 h

set_option maxHeartbeats 4000000 in
set_option maxRecDepth 100000 in
theorem sshA_any (lo hi : Nat) (v v2 : Value) (R : List (List Int)) (ss : List (Int × Int)) (w : World) (ho : OwnMD lo hi w v R) (hv2 : ReadsV w v2 ss) (hfit : FitsV ss) (hx : R.length ≤ 1048576) (hr : ∀ j, j < R.length → (R.getD j []).length ≤ 1048576) (hs : ss.length ≤ 1048576) :
    Calls Try.prog 21 #[v, v2] w (RetMX1 w (shAR R ss) (shAC R ss)) := by
  obtain ⟨a2, cap2, rfl, hrd⟩ := hv2
  have HRD : Hid (∀ k, k < ss.length → ∃ b, a2 = some ⟨b, 0, none⟩ ∧ CellsV w b ss) := Lib.hid (fun k hk => hrd (fun e => by rw [e] at hk; simp at hk))
  have HC := shA_cases R ss
  have HV := Lib.hid ho.reads
  obtain ⟨n, hn⟩ : ∃ n, ss.length = n := ⟨_, rfl⟩
  have HN := Lib.hid hn
  have HFIT := Lib.hid hfit
  rw [hn] at hs HC ⊢
  clear hrd hn hfit
  have HNEW := Lib.hid (ownMX_new w)
  have HBN := Lib.hid (below1 w (.cells #[] 52))
  cases hvl : vldM R
  · have HR := Lib.hid (HC.1 hvl)
    rw [HR.out.1, HR.out.2]
    clear HC
    go_enter Try.func21, Try.ntmps21
    go_wp2_with fail
    refine (sbags_eq _ R _ HV.out hx hr).mono ?_
    rintro e w2 ⟨rfl, rfl⟩
    rw [hvl]
    go_wp2_with fail
    go_ret2
    exact ⟨_, rfl, HNEW.out, HBN.out⟩
  · have HVL := Lib.hid hvl
    have hne : R ≠ [] := fun e => by rw [e] at hvl; simp [vldM] at hvl
    have HS := Lib.hid (ho.solid hne)
    by_cases h100 : 100 < n
    · have HR := Lib.hid (HC.2.1 hvl h100)
      rw [HR.out.1, HR.out.2]
      have t1 : decide ((100 : Int) < (n : Int)) = true := decide_eq_true (by omega)
      clear HC
      go_enter Try.func21, Try.ntmps21
      go_wp2_with fail
      refine (sbags_eq _ R _ HV.out hx hr).mono ?_
      rintro e w2 ⟨rfl, rfl⟩
      rw [hvl]
      clear hvl
      go_wp2_with fail
      go_ret2
      exact ⟨_, rfl, HNEW.out, HBN.out⟩
    · have t1 : decide ((100 : Int) < (n : Int)) = false := decide_eq_false (by omega)
      have H3 := Lib.hid (HC.2.2.1 hvl h100)
      have H4 := Lib.hid (HC.2.2.2 hvl h100)
      have hb0 := vldM_tot hvl
      have HT0 := Lib.hid hb0
      clear HC ho hb0
      go_enter Try.func21, Try.ntmps21
      go_wp2_with fail
      refine (sbags_eq _ R _ HV.out hx hr).mono ?_
      rintro e w2 ⟨rfl, rfl⟩
      rw [hvl]
      clear hvl
      go_wp2_with fail
      refine (sownM_any _ R _ HS.out HT0.out.1 HT0.out.2.1).mono ?_
      rintro e w3 ⟨v3, rfl, o3, b3⟩
      have HO3 := Lib.hid o3.toX
      have HB3 := Lib.hid b3
      clear o3 b3
      go_wp2_with fail
      go_loopw [6, 7] (fun g i wr => ∃ k : Nat, k ≤ n ∧ i = .int .i64 k ∧ OwnMX w.heap.size wr.heap.size wr g (stK R ss k) ∧ codeK R ss k = 0 ∧ Below w.heap.size w wr) (fun _ i _ => n - (intOf i).toNat)
      case atStart => exact ⟨0, Nat.zero_le _, rfl, HO3.out, rfl, HB3.out⟩
      case round =>
        obtain ⟨k, hk, rfl, hrs, hcd, hnx⟩ := hrel
        have HRS := Lib.hid hrs
        have HCD := Lib.hid hcd
        have HNX := Lib.hid hnx
        have hok := stK_ok HVL.out k hcd
        have HOK := Lib.hid hok
        have hwr : w.heap.size ≤ wr.heap.size := hnx.size
        by_cases hlt : k < n
        · have hks : k < ss.length := by have := HN.out; omega
          obtain ⟨b, hab, hc⟩ := HRD.out k hks
          subst hab
          obtain ⟨c0, c1⟩ := hc.below hnx k hks
          have hft := HFIT.out.get k hks
          have HNX2 := Lib.hid (codeK_next hcd)
          have HST : Hid (stK R ss (k + 1) = shM (stK R ss k) (ss.getD k (0, 0)).1 (ss.getD k (0, 0)).2) := Lib.hid rfl
          obtain ⟨q, hq⟩ : ∃ q, ss.getD k (0, 0) = q := ⟨_, rfl⟩
          rw [hq] at c0 c1 hft HNX2 HST
          obtain ⟨f, t⟩ := q
          unfold FitV at hft
          simp only at hft
          obtain ⟨⟨f1, f2⟩, t1', t2⟩ := hft
          have hne2 : stK R ss k ≠ [] := fun e => by rw [e] at hok; simp [vldM] at hok
          have HSO := Lib.hid (hrs.solid hne2)
          clear hq hrs hcd hnx hok hc hne2
          go_wp2_with fail
          refine (sshift_any u6 (stK R ss k) f t wr HSO.out HOK.out f1 f2 t1' t2).mono ?_
          rintro e w6 ⟨v6, rfl, o6, b6⟩
          have HB6 := Lib.hid (blink HNX.out b6)
          have hs6 : w.heap.size ≤ w6.heap.size := HB6.out.size
          by_cases hc0 : shC (stK R ss k) f t = 0
          · have HK1 : Hid (codeK R ss (k + 1) = 0) := Lib.hid (by rw [HNX2.out, hc0])
            have HO6 : Hid (OwnMX w.heap.size w6.heap.size w6 v6 (stK R ss (k + 1))) := Lib.hid (by
              rw [if_pos hc0] at o6
              rw [HST.out]
              exact o6.mono hwr (Nat.le_refl _))
            rw [hc0]
            clear hc0 o6 b6
            go_wp2_with fail
            go_roundw
            case rel => exact ⟨k + 1, by omega, by go_num, HO6.out, HK1.out, HB6.out⟩
            case measure => simp [intOf]; omega
          · obtain ⟨c, hce⟩ : ∃ c, shC (stK R ss k) f t = c := ⟨_, rfl⟩
            rw [hce] at hc0 HNX2 ⊢
            have hcb : (c != 0) = true := by simp [hc0]
            have HCN : Hid (codeK R ss n = c) := Lib.hid (by
              have h := codeK_stays (R := R) (ss := ss) (k := k + 1) (by rw [HNX2.out]; exact hc0) (n - (k + 1))
              rw [show k + 1 + (n - (k + 1)) = n by omega, HNX2.out] at h
              exact h)
            have HC0 := Lib.hid hc0
            have HNW := Lib.hid (ownMX_mk w.heap.size w6 hs6)
            have HBW : Hid (Below w.heap.size w (w6.alloc (.cells #[] 52))) := Lib.hid (HB6.out.alloc hs6 _)
            clear hce hc0 o6 b6
            go_wp2_with fail
            go_ret2
            have h4 := H4.out (by rw [HCN.out]; exact HC0.out)
            rw [h4.1, h4.2, HCN.out]
            exact ⟨_, rfl, HNW.out, HBW.out⟩
        · obtain rfl : k = n := by omega
          have h3 := H3.out hcd
          have HH := Lib.hid h3
          clear h3 hrs hcd hnx hok
          go_wp2_with fail
          rw [HH.out.1, HH.out.2]
          go_ret2
          exact ⟨_, rfl, HRS.out, HNX.out⟩

set_option maxHeartbeats 4000000 in
set_option maxRecDepth 100000 in
theorem ssh1_any (lo hi : Nat) (v : Value) (R : List (List Int)) (f t : Int) (w : World) (ho : OwnMD lo hi w v R) (hfit : FitV (f, t)) (hx : R.length ≤ 1048576) (hr : ∀ j, j < R.length → (R.getD j []).length ≤ 1048576) :
    Calls Try.prog 15 #[v, .agg #[.int .i8 f, .int .i8 t]] w (RetMX1 w (sh1R R f t) (sh1C R f t)) := by
  have HB : Hid (Below w.heap.size w (w.alloc (.cells #[.int .i8 f, .int .i8 t] 34))) := Lib.hid (below1 _ _)
  have HO := Lib.hid (ho.below HB.out)
  have HBX : Hid (Blk2 (w.alloc (.cells #[.int .i8 f, .int .i8 t] 34)) w.heap.size 34 (.int .i8 f) (.int .i8 t)) := Lib.hid (Blk2.new rfl _ _ _)
  have HNW := Lib.hid (ownMX_mk w.heap.size _ HB.out.size)
  have HBW : Hid (Below w.heap.size w ((w.alloc (.cells #[.int .i8 f, .int .i8 t] 34)).alloc (.cells #[] 52))) := Lib.hid (HB.out.alloc HB.out.size _)
  unfold FitV at hfit
  simp only at hfit
  obtain ⟨⟨f1, f2⟩, t1, t2⟩ := hfit
  obtain ⟨a, l, c, rfl⟩ : ∃ a l c, v = .slice a l c := by
    obtain ⟨us, h1, _⟩ := HO.out
    rcases h1.2 with ⟨rfl, _⟩ | ⟨g, cap, cur, rfl, _⟩
    · exact ⟨_, _, _, rfl⟩
    · exact ⟨_, _, _, rfl⟩
  clear ho
  cases hvl : vldM R
  · have h1 : sh1C R f t = 1 := by simp [sh1C, hvl]
    have h2 : sh1R R f t = [] := by rw [sh1R, h1]; simp
    rw [h1, h2]
    clear h1 h2
    go_enter Try.func15, Try.ntmps15
    go_wp2_with fail
    generalize w.alloc (.cells #[.int .i8 f, .int .i8 t] 34) = w1 at HB HO HBX HNW HBW ⊢
    refine (sbags_eq _ R _ HO.out.reads hx hr).mono ?_
    rintro e w2 ⟨rfl, rfl⟩
    rw [hvl]
    go_wp2_with fail
    go_ret2
    exact ⟨_, rfl, HNW.out, HBW.out⟩
  · have h1 : sh1C R f t = shC R f t := by simp [sh1C, hvl]
    have h2 : sh1R R f t = if shC R f t = 0 then shM R f t else [] := by rw [sh1R, h1]
    have hne : R ≠ [] := fun e => by rw [e] at hvl; simp [vldM] at hvl
    have HS := Lib.hid (HO.out.solid hne)
    have HVL := Lib.hid hvl
    have H2 := Lib.hid h2
    rw [h1]
    clear h1 h2
    go_enter Try.func15, Try.ntmps15
    go_wp2_with fail
    generalize w.alloc (.cells #[.int .i8 f, .int .i8 t] 34) = w1 at HB HO HBX HNW HBW HS ⊢
    refine (sbags_eq _ R _ HO.out.reads hx hr).mono ?_
    rintro e w2 ⟨rfl, rfl⟩
    rw [hvl]
    have xb0 := HBX.out.at0
    have xb1 := HBX.out.at1
    clear hvl
    go_wp2_with fail
    refine (sshift_any _ R f t _ HS.out HVL.out f1 f2 t1 t2).mono ?_
    rintro e w6 ⟨v6, rfl, o6, b6⟩
    have HB6 := Lib.hid (blink HB.out b6)
    have HO6 : Hid (OwnMX w.heap.size w6.heap.size w6 v6 (sh1R R f t)) := Lib.hid (by rw [H2.out]; exact o6.mono HB.out.size (Nat.le_refl _))
    clear o6 b6
    go_wp2_with fail
    go_ret2
    exact ⟨_, rfl, HO6.out, HB6.out⟩
end Go.Proofs.Ytadhoodddedjjab
