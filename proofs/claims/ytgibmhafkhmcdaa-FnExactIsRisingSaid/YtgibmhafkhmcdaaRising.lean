/-
  Both IsRising.
-/
import Derived.Test.YtgibmhafkhmcdaaTabK
namespace Go.Proofs.Ytgibmhafkhmcdaa
open Go Go.RowKit
set_option linter.unusedVariables false

/-- Number i of a row is not less than the one ahead of it. -/
def upAt (r : List Int) (i : Nat) : Prop := r.getD (i - 1) 0 ≤ r.getD i 0
def risR (r : List Int) : Prop := ∀ i, i < r.length → 1 ≤ i → upAt r i
instance (r : List Int) (i : Nat) : Decidable (upAt r i) := inferInstanceAs (Decidable (_ ≤ _))
instance (r : List Int) : Decidable (risR r) := inferInstanceAs (Decidable (∀ i, i < _ → _))
def risRB (r : List Int) : Bool := decide (risR r)
theorem risRB_true {r : List Int} (h : ∀ i, i < r.length → 1 ≤ i → upAt r i) : risRB r = true := decide_eq_true h
theorem risRB_bad {r : List Int} {i : Nat} (hi : i < r.length) (h1 : 1 ≤ i) (h : ¬ upAt r i) : risRB r = false := decide_eq_false fun k => h (k i hi h1)
theorem risRB_spec {r : List Int} (h : risRB r = true) : risR r := of_decide_eq_true h
def risB (R : List (List Int)) : Bool := decide (∀ j, j < R.length → risR (R.getD j []))
theorem risB_true {R : List (List Int)} (h : ∀ j, j < R.length → risR (R.getD j [])) : risB R = true := decide_eq_true h
theorem risB_bad {R : List (List Int)} {j : Nat} (hj : j < R.length) (h : ¬ risR (R.getD j [])) : risB R = false := decide_eq_false fun k => h (k j hj)

def ret2 (b : Bool) (c : Int) : Ending := .returned (.tuple #[.bool b, .int .i64 c])
/-- The answer of IsRising. -/
def risOut (S : List Int) (R : List (List Int)) : Value := if vldT S R = true then .tuple #[.bool (risB R), .int .i64 0] else .tuple #[.bool false, .int .i64 1]
theorem risOut_no {S : List Int} {R : List (List Int)} (h : vldT S R = false) : risOut S R = .tuple #[.bool false, .int .i64 1] := by unfold risOut; rw [h]; rfl
theorem risOut_yes {S : List Int} {R : List (List Int)} (h : vldT S R = true) : risOut S R = .tuple #[.bool (risB R), .int .i64 0] := by unfold risOut; rw [h]; rfl
theorem ret_eq {a b : Value} (h : b = a) : Ending.returned a = .returned b := by rw [h]
theorem ret_tb {a b : Bool} {c : Value} {v : Value} (h : v = .tuple #[.bool a, c]) (hb : a = b) : Ending.returned (.tuple #[.bool b, c]) = .returned v := by rw [h, hb]

set_option maxHeartbeats 1000000 in
theorem nan16_any (x : Int) (w : World) :
    Calls Try.prog 40 #[.int .i16 x] w fun e w' => e = .returned (.bool false) ∧ w' = w := by
  have h : (x != x) = false := by simp
  go_enter Try.func40, Try.ntmps40
  go_wp2
  go_ret
  exact ⟨rfl, rfl⟩
set_option maxHeartbeats 1000000 in
theorem less16_any (x y : Int) (w : World) :
    Calls Try.prog 38 #[.int .i16 x, .int .i16 y] w fun e w' => e = .returned (.bool (decide (x < y))) ∧ w' = w := by
  go_enter Try.func38, Try.ntmps38
  go_wp2_with (go_at_call 40; refine (nan16_any _ _).mono ?_; rintro e w2 ⟨rfl, hw2⟩; subst hw2)
  go_ret
  exact ⟨rfl, rfl⟩

set_option maxHeartbeats 2000000 in
set_option maxRecDepth 100000 in
theorem sorted16_any (v : Value) (r : List Int) (w : World) (hv : ReadsH w v r) (hn : r.length ≤ 1048576) :
    Calls Try.prog 32 #[v] w fun e w' => e = .returned (.bool (risRB r)) ∧ Below w.heap.size w w' := by
  obtain ⟨a, cap, rfl, ha⟩ := hv
  have HA := Lib.hid ha
  obtain ⟨n, hn'⟩ : ∃ n, r.length = n := ⟨_, rfl⟩
  rw [hn'] at hn ⊢
  have HN := Lib.hid hn'
  clear ha hn'
  go_enter Try.func32, Try.ntmps32
  go_wp2_with fail
  go_loopw [3] (fun i wr => ∃ k : Int, -1 ≤ k ∧ k ≤ (n : Int) - 1 ∧ i = .int .i64 k ∧ (∀ i : Nat, i < n → 1 ≤ i → k < i → upAt r i) ∧ Below w.heap.size w wr) (fun i _ => (intOf i).toNat)
  case atStart => exact ⟨(n : Int) - 1, by omega, by omega, rfl, fun i h1 h2 h3 => by omega, Below.refl _ _⟩
  case round =>
    obtain ⟨k, hk0, hk1, rfl, hup, hnx⟩ := hrel
    have HB := Lib.hid hnx
    by_cases hlt : 0 < k
    · obtain ⟨q, rfl⟩ : ∃ q : Nat, k = q := ⟨k.toNat, by omega⟩
      have hq0 : 0 < q := by omega
      have hqn : q < n := by omega
      obtain ⟨g, rfl, hc⟩ := HA.out (by intro e; have := HN.out; rw [e] at this; simp at this; omega)
      have cx := hc.below hnx q (by have := HN.out; omega)
      have cp := hc.below hnx (q - 1) (by have := HN.out; omega)
      have HUP := Lib.hid hup
      have HBAD : Hid (¬ upAt r q → risRB r = false) := Lib.hid (risRB_bad (by have := HN.out; omega) (by omega))
      obtain ⟨x, hx⟩ : ∃ x, r.getD q 0 = x := ⟨_, rfl⟩
      obtain ⟨p, hp⟩ : ∃ p, r.getD (q - 1) 0 = p := ⟨_, rfl⟩
      have HU : Hid (upAt r q ↔ p ≤ x) := Lib.hid (by unfold upAt; rw [hx, hp])
      rw [hx] at cx
      rw [hp] at cp
      have hqn' : (q : Int) < (n : Int) := by omega
      have hkm : ((q : Int) - 1).toNat = q - 1 := by omega
      have hkm2 : (q : Int) - 1 < (n : Int) := by omega
      have hkm3 : 0 ≤ (q : Int) - 1 := by omega
      have t0 : decide (0 < (q : Int)) = true := by simp; omega
      clear hc hx hp hup hnx
      by_cases hpx : x < p
      · have t1 : decide (x < p) = true := by simp; omega
        go_wp2_with fail
        go_quiet ((go_at_call 38; exact Calls.quiet_of_same (less16_any _ _ _)))
        go_wp2_with fail
        go_ret
        exact ⟨(ret_bool (HBAD.out (fun h => by have := HU.out.1 h; omega))).symm, below_drewN HB.out _⟩
      · have t1 : decide (x < p) = false := by simp; omega
        go_wp2_with fail
        go_quiet ((go_at_call 38; exact Calls.quiet_of_same (less16_any _ _ _)))
        go_wp2_with fail
        go_roundw
        case rel => exact ⟨(q : Int) - 1, by omega, by omega, rfl, fun i h1 h2 h3 => by
          by_cases e : i = q
          · subst e; exact HU.out.2 (by omega)
          · exact HUP.out i h1 h2 (by omega), below_drewN HB.out _⟩
        case measure => simp [intOf]; omega
    · have t0 : decide (0 < k) = false := by simp; omega
      have HT : Hid (risRB r = true) := Lib.hid (risRB_true (fun i h1 h2 => hup i (by have := HN.out; omega) h2 (by omega)))
      clear hup hnx
      go_wp2_with fail
      go_ret
      exact ⟨(ret_bool HT.out).symm, HB.out⟩

set_option maxHeartbeats 4000000 in
set_option maxRecDepth 100000 in
theorem irising_ok (v : Value) (S : List Int) (R : List (List Int)) (w : World) (hv : ReadsT w v S R) (k : TabOk S R) :
    Calls Try.prog 15 #[v] w fun e w' => e = .returned (risOut S R) ∧ Below w.heap.size w w' := by
  obtain ⟨v1, v2, rfl, h1, h2⟩ := hv
  obtain ⟨a, cap, rfl, ha⟩ := h1
  obtain ⟨b, c2, rfl, hbm⟩ := h2
  have H0 : Hid (ReadsT w (.agg #[.slice a S.length cap, .slice b R.length c2]) S R) := Lib.hid ⟨_, _, rfl, ⟨a, cap, rfl, ha⟩, ⟨b, c2, rfl, hbm⟩⟩
  have HM := Lib.hid hbm
  have K := Lib.hid k
  obtain ⟨n, hn'⟩ : ∃ n, S.length = n := ⟨_, rfl⟩
  obtain ⟨m, hm'⟩ : ∃ m, R.length = m := ⟨_, rfl⟩
  have hm : m ≤ 1048576 := by have := k.rl; omega
  rw [hn', hm'] at H0 ⊢
  have HMM := Lib.hid hm'
  clear ha hbm k hn' hm'
  by_cases hs : vldT S R = true
  · have HO : Hid (risOut S R = .tuple #[.bool (risB R), .int .i64 0]) := Lib.hid (risOut_yes hs)
    have HS := Lib.hid hs
    clear hs
    go_enter Try.func15, Try.ntmps15
    go_wp2_with fail
    refine (ivalT_ok _ S R _ (H0.out.below ((Below.refl _ _).alloc (Nat.le_refl _) _)) K.out).mono ?_
    rintro e w2 ⟨rfl, b2⟩
    rw [HS.out]
    have q := (Blk2.new (w := w) rfl _ _ _).below b2
    have c := ((Below.refl w.heap.size w).alloc (Nat.le_refl _) _).trans (b2.mono (by simp))
    have c0 := q.at0
    have c1 := q.at1
    have C := Lib.hid c
    clear q c b2
    go_wp2_with fail
    go_loopw [12] (fun i wr => ∃ z : Nat, z ≤ m ∧ i = .int .i64 z ∧ (∀ j, j < z → risR (R.getD j [])) ∧ Below w.heap.size w wr) (fun i _ => m - (intOf i).toNat)
    case atStart => exact ⟨0, Nat.zero_le _, rfl, fun j hj => absurd hj (by omega), C.out⟩
    case round =>
      obtain ⟨z, hz, rfl, hor, hnx⟩ := hrel
      have HOR := Lib.hid hor
      have HB := Lib.hid hnx
      by_cases hlt : z < m
      · obtain ⟨gb, rfl, hcr⟩ := HM.out (by intro e; have := HMM.out; rw [e] at this; simp at this; omega)
        obtain ⟨u, d0, r0⟩ := hcr z (by have := HMM.out; omega)
        have d1 : wr.cell? ⟨gb, z, none⟩ = some u := by rw [hnx.cell (p := ⟨gb, z, none⟩) (World.block_lt_of_cell? w _ d0)]; exact d0
        have R1 := Lib.hid (r0.below hnx)
        have HRL := Lib.hid (K.out.rr z (by have := HMM.out; omega))
        have HBAD : Hid (¬ risR (R.getD z []) → risB R = false) := Lib.hid (risB_bad (by have := HMM.out; omega))
        obtain ⟨r, hrz⟩ : ∃ r, R.getD z [] = r := ⟨_, rfl⟩
        have HRZ := Lib.hid hrz
        rw [hrz] at r0 R1 HRL HBAD
        obtain ⟨ar, cr, rfl, hra⟩ := r0
        clear hcr d0 hra hrz hnx hor
        by_cases hrb : risRB r = true
        · have HR := Lib.hid hrb
          clear hrb
          go_wp2_with fail
          refine (sorted16_any _ r _ R1.out HRL.out).mono ?_
          rintro e w3 ⟨rfl, b3⟩
          rw [HR.out]
          have HB3 := Lib.hid (HB.out.trans (b3.mono HB.out.size))
          clear b3
          go_wp2_with fail
          go_roundw
          case rel => exact ⟨z + 1, by omega, by go_num, fun j hj => by
            by_cases e : j = z
            · subst e; rw [HRZ.out]; exact risRB_spec HR.out
            · exact HOR.out j (by omega), HB3.out⟩
          case measure => simp [intOf]; omega
        · have HR : Hid (risRB r = false) := Lib.hid (by simpa using hrb)
          clear hrb
          go_wp2_with fail
          refine (sorted16_any _ r _ R1.out HRL.out).mono ?_
          rintro e w3 ⟨rfl, b3⟩
          rw [HR.out]
          have HB3 := Lib.hid (HB.out.trans (b3.mono HB.out.size))
          clear b3
          go_wp2_with fail
          go_ret2
          exact ⟨ret_eq (by rw [HO.out, HBAD.out (fun h => by have h1 := risRB_true h; rw [HR.out] at h1; cases h1)]; rfl), HB3.out⟩
      · have hz' : z = m := by omega
        have HT : Hid (risB R = true) := Lib.hid (risB_true (fun j hj => hor j (by have := HMM.out; omega)))
        clear hz' hor hnx
        go_wp2_with fail
        go_ret2
        exact ⟨ret_eq (by rw [HO.out, HT.out]; rfl), HB.out⟩
  · have HS : Hid (vldT S R = false) := Lib.hid (by simpa using hs)
    clear hs
    go_enter Try.func15, Try.ntmps15
    go_wp2_with fail
    refine (ivalT_ok _ S R _ (H0.out.below ((Below.refl _ _).alloc (Nat.le_refl _) _)) K.out).mono ?_
    rintro e w2 ⟨rfl, b2⟩
    rw [HS.out]
    go_wp2_with fail
    go_ret2
    exact ⟨ret_eq (risOut_no HS.out), ((Below.refl w.heap.size w).alloc (Nat.le_refl _) _).trans (b2.mono (by simp))⟩

set_option maxHeartbeats 4000000 in
set_option maxRecDepth 100000 in
theorem srising_ok (v : Value) (S : List Int) (R : List (List Int)) (w : World) (hv : ReadsT w v S R) (k : TabOk S R) :
    Calls Try.prog 14 #[v] w fun e w' => e = .returned (risOut S R) ∧ Below w.heap.size w w' := by
  obtain ⟨v1, v2, rfl, h1, h2⟩ := hv
  obtain ⟨a, cap, rfl, ha⟩ := h1
  obtain ⟨b, c2, rfl, hbm⟩ := h2
  have H1 : Hid (ReadsH w (.slice a S.length cap) S) := Lib.hid ⟨a, cap, rfl, ha⟩
  have H2 : Hid (ReadsM w (.slice b R.length c2) R) := Lib.hid ⟨b, c2, rfl, hbm⟩
  have HM := Lib.hid hbm
  have K := Lib.hid k
  obtain ⟨n, hn'⟩ : ∃ n, S.length = n := ⟨_, rfl⟩
  obtain ⟨m, hm'⟩ : ∃ m, R.length = m := ⟨_, rfl⟩
  have hm : m ≤ 1048576 := by have := k.rl; omega
  rw [hn'] at H1 ⊢
  rw [hm'] at H2 ⊢
  have HMM := Lib.hid hm'
  clear ha hbm k hn' hm'
  by_cases hs : vldT S R = true
  · have HO : Hid (risOut S R = .tuple #[.bool (risB R), .int .i64 0]) := Lib.hid (risOut_yes hs)
    have HS := Lib.hid hs
    clear hs
    go_enter Try.func14, Try.ntmps14
    go_wp2_with fail
    refine (sok_any w.heap.size _ _ _ S R _ (Blk2.new rfl _ _ _) (H1.out.below ((Below.refl _ _).alloc (Nat.le_refl _) _)) (H2.out.below ((Below.refl _ _).alloc (Nat.le_refl _) _)) K.out.s16 K.out.r16 K.out.sl K.out.rl K.out.rr).mono ?_
    rintro e w2 ⟨rfl, b2⟩
    rw [HS.out]
    have q := (Blk2.new (w := w) rfl _ _ _).below b2
    have c := ((Below.refl w.heap.size w).alloc (Nat.le_refl _) _).trans (b2.mono (by simp))
    have HD : Hid (∀ v : World, Below w2.heap.size w2 v → v.cell? ⟨w.heap.size, 1, none⟩ = some (.slice b m c2)) := Lib.hid (fun v hv => (q.below hv).at1)
    have C := Lib.hid c
    clear q c b2
    go_wp2_with fail
    go_loopw [4] (fun i wr => ∃ z : Nat, z ≤ m ∧ i = .int .i64 z ∧ (∀ j, j < z → risR (R.getD j [])) ∧ Below w2.heap.size w2 wr) (fun i _ => m - (intOf i).toNat)
    case atStart => exact ⟨0, Nat.zero_le _, rfl, fun j hj => absurd hj (by omega), Below.refl _ _⟩
    case round =>
      obtain ⟨z, hz, rfl, hor, hnx⟩ := hrel
      have HOR := Lib.hid hor
      have HB := Lib.hid hnx
      have c1 := HD.out _ hnx
      by_cases hlt : z < m
      · obtain ⟨gb, rfl, hcr⟩ := HM.out (by intro e; have := HMM.out; rw [e] at this; simp at this; omega)
        obtain ⟨u, d0, r0⟩ := hcr z (by have := HMM.out; omega)
        have RD : Hid (∀ v : World, Below w2.heap.size w2 v → v.cell? ⟨gb, z, none⟩ = some u ∧ ReadsH v u (R.getD z [])) := Lib.hid (fun v hv => by
          have hh := blink C.out hv
          exact ⟨by rw [hh.cell (p := ⟨gb, z, none⟩) (World.block_lt_of_cell? w _ d0)]; exact d0, r0.below hh⟩)
        have HRL := Lib.hid (K.out.rr z (by have := HMM.out; omega))
        have HBAD : Hid (¬ risR (R.getD z []) → risB R = false) := Lib.hid (risB_bad (by have := HMM.out; omega))
        obtain ⟨r, hrz⟩ : ∃ r, R.getD z [] = r := ⟨_, rfl⟩
        have HRZ := Lib.hid hrz
        rw [hrz] at r0 RD HRL HBAD
        obtain ⟨ar, cr, rfl, hra⟩ := r0
        obtain ⟨l, hl⟩ : ∃ l, r.length = l := ⟨_, rfl⟩
        rw [hl] at RD HRL
        have HLR := Lib.hid hl
        have hll : l ≤ 1048576 := HRL.out
        have d1 := (RD.out _ hnx).1
        clear hcr d0 hra hrz hnx hor hl
        go_wp2_with fail
        obtain ⟨wo, rfl⟩ : ∃ wo : World, wo = wr := ⟨_, rfl⟩
        clear d1 c1
        go_loopw [5] (fun i wi => ∃ q : Nat, 1 ≤ q ∧ (q ≤ l ∨ q = 1) ∧ i = .int .i64 q ∧ (∀ j, j < q → 1 ≤ j → upAt r j) ∧ Below w2.heap.size w2 wi) (fun i _ => l - (intOf i).toNat)
        case atStart => exact ⟨1, by omega, by omega, rfl, fun j h1 h2 => by omega, HB.out⟩
        case round =>
          rename_i wi _
          obtain ⟨q, hq1, hq, rfl, hop, hni⟩ := hrel
          have HOP := Lib.hid hop
          have HB3 := Lib.hid hni
          have c1 := HD.out _ hni
          have d1 := (RD.out _ hni).1
          by_cases hlt3 : q < l
          · obtain ⟨a', cap', e1, hrr⟩ := (RD.out _ hni).2
            obtain ⟨gr, e2, hcr⟩ := hrr (by intro e; have := HLR.out; rw [e] at this; simp at this; omega)
            simp only [Value.slice.injEq] at e1
            obtain rfl : ar = some ⟨gr, 0, none⟩ := e1.1.trans e2
            have cx := hcr q (by have := HLR.out; omega)
            have cp := hcr (q - 1) (by have := HLR.out; omega)
            have HBADP : Hid (¬ upAt r q → risB R = false) := Lib.hid (fun h => HBAD.out (fun k => h (k q (by have := HLR.out; omega) hq1)))
            obtain ⟨x, hx⟩ : ∃ x, r.getD q 0 = x := ⟨_, rfl⟩
            obtain ⟨p, hp⟩ : ∃ p, r.getD (q - 1) 0 = p := ⟨_, rfl⟩
            have HU : Hid (upAt r q ↔ p ≤ x) := Lib.hid (by unfold upAt; rw [hx, hp])
            rw [hx] at cx
            rw [hp] at cp
            have hqn' : (q : Int) < (l : Int) := by omega
            have hkm : ((q : Int) - 1).toNat = q - 1 := by omega
            have hkm2 : (q : Int) - 1 < (l : Int) := by omega
            have hkm3 : 0 ≤ (q : Int) - 1 := by omega
            clear hcr hrr e1 e2 hx hp hop hni
            by_cases hpx : x < p
            · have t1 : decide (x < p) = true := by simp; omega
              go_wp2_with fail
              go_quiet (fail)
              go_wp2_with fail
              go_ret2
              exact ⟨ret_eq (by rw [HO.out, HBADP.out (fun h => by have := HU.out.1 h; omega)]; rfl), blink C.out (below_drewN HB3.out _)⟩
            · have t1 : decide (x < p) = false := by simp; omega
              go_wp2_with fail
              go_quiet (fail)
              go_wp2_with fail
              go_roundw
              case rel => exact ⟨q + 1, by omega, by omega, by go_num, fun j h1 h2 => by
                by_cases e : j = q
                · subst e; exact HU.out.2 (by omega)
                · exact HOP.out j (by omega) h2, below_drewN HB3.out _⟩
              case measure => simp [intOf]; omega
          · have HRR : Hid (risR r) := Lib.hid (fun j h1 h2 => hop j (by have := HLR.out; omega) h2)
            clear hop hni
            go_wp2_with fail
            go_roundw
            case rel => exact ⟨z + 1, by omega, by go_num, fun j hj => by
              by_cases e : j = z
              · subst e; rw [HRZ.out]; exact HRR.out
              · exact HOR.out j (by omega), HB3.out⟩
            case measure => simp [intOf]; omega
      · have hz' : z = m := by omega
        have HT : Hid (risB R = true) := Lib.hid (risB_true (fun j hj => hor j (by have := HMM.out; omega)))
        clear hz' hor hnx
        go_wp2_with fail
        go_ret2
        exact ⟨ret_eq (by rw [HO.out, HT.out]; rfl), blink C.out HB.out⟩
  · have HS : Hid (vldT S R = false) := Lib.hid (by simpa using hs)
    clear hs
    go_enter Try.func14, Try.ntmps14
    go_wp2_with fail
    refine (sok_any w.heap.size _ _ _ S R _ (Blk2.new rfl _ _ _) (H1.out.below ((Below.refl _ _).alloc (Nat.le_refl _) _)) (H2.out.below ((Below.refl _ _).alloc (Nat.le_refl _) _)) K.out.s16 K.out.r16 K.out.sl K.out.rl K.out.rr).mono ?_
    rintro e w2 ⟨rfl, b2⟩
    rw [HS.out]
    go_wp2_with fail
    go_ret2
    exact ⟨ret_eq (risOut_no HS.out), ((Below.refl w.heap.size w).alloc (Nat.le_refl _) _).trans (b2.mono (by simp))⟩

def risOb (S : List Int) (R : List (List Int)) : Bool := vldT S R && risB R
def risOc (S : List Int) (R : List (List Int)) : Int := if vldT S R = true then 0 else 1
theorem risOut_eq (S : List Int) (R : List (List Int)) : risOut S R = .tuple #[.bool (risOb S R), .int .i64 (risOc S R)] := by
  cases h : vldT S R with
  | true => rw [risOut_yes h]; simp [risOb, risOc, h]
  | false => rw [risOut_no h]; simp [risOb, risOc, h]
theorem srising_ok2 (v : Value) (S : List Int) (R : List (List Int)) (w : World) (hv : ReadsT w v S R) (k : TabOk S R) :
    Calls Try.prog 14 #[v] w fun e w' => e = .returned (.tuple #[.bool (risOb S R), .int .i64 (risOc S R)]) ∧ Below w.heap.size w w' := by
  rw [← risOut_eq]; exact srising_ok v S R w hv k
theorem irising_ok2 (v : Value) (S : List Int) (R : List (List Int)) (w : World) (hv : ReadsT w v S R) (k : TabOk S R) :
    Calls Try.prog 15 #[v] w fun e w' => e = .returned (.tuple #[.bool (risOb S R), .int .i64 (risOc S R)]) ∧ Below w.heap.size w w' := by
  rw [← risOut_eq]; exact irising_ok v S R w hv k
end Go.Proofs.Ytgibmhafkhmcdaa
