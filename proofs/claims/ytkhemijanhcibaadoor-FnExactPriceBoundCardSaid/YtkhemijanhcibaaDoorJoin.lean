/-
  Both JoinedPrice.
-/
import Derived.Test.YtkhemijanhcibaaDoorSums
import Derived.StillTailTactics
namespace Go.Proofs.YtkhemijanhcibaaDoor
open Go Go.RowKit
set_option linter.unusedVariables false

/-- The answer of JoinedPrice. -/
def joinC (S : List Int) (R : List (List Int)) (z : Int) (ws : List Int) : Int := if chk S R z ws = 0 then (if ws = [] ∨ stp S (sumL ws) < S.length then 0 else 6) else chk S R z ws
def joinX (S : List Int) (R : List (List Int)) (z : Int) (ws : List Int) : Int := if chk S R z ws = 0 ∧ ws ≠ [] ∧ stp S (sumL ws) < S.length then prc S R z (sumL ws) else 0
theorem join_c {S : List Int} {R : List (List Int)} {z : Int} {ws : List Int} (h : chk S R z ws ≠ 0) : joinX S R z ws = 0 ∧ joinC S R z ws = chk S R z ws := ⟨if_neg (fun k => h k.1), if_neg h⟩
theorem join_nil {S : List Int} {R : List (List Int)} {z : Int} {ws : List Int} (h : chk S R z ws = 0) (h1 : ws = []) : joinX S R z ws = 0 ∧ joinC S R z ws = 0 := ⟨if_neg (fun k => k.2.1 h1), by unfold joinC; rw [if_pos h, if_pos (.inl h1)]⟩
theorem join_yes {S : List Int} {R : List (List Int)} {z : Int} {ws : List Int} (h : chk S R z ws = 0) (h1 : ws ≠ []) (h2 : stp S (sumL ws) < S.length) : joinX S R z ws = prc S R z (sumL ws) ∧ joinC S R z ws = 0 := ⟨if_pos ⟨h, h1, h2⟩, by unfold joinC; rw [if_pos h, if_pos (.inr h2)]⟩
theorem join_no {S : List Int} {R : List (List Int)} {z : Int} {ws : List Int} (h : chk S R z ws = 0) (h1 : ws ≠ []) (h2 : ¬ stp S (sumL ws) < S.length) : joinX S R z ws = 0 ∧ joinC S R z ws = 6 := ⟨if_neg (fun k => h2 k.2.2), by unfold joinC; rw [if_pos h, if_neg (fun k => k.elim h1 h2)]⟩

set_option maxHeartbeats 2000000 in
set_option maxRecDepth 100000 in
theorem sJoined_ok (v u : Value) (S : List Int) (R : List (List Int)) (z : Int) (ws : List Int) (w : World) (hv : ReadsT w v S R) (hu : ReadsI w u ws) (k : TabOk S R) (hws : ws.length ≤ 1048576) :
    Calls Tryd.prog 26 #[v, .int .i64 z, u] w fun e w' => e = .returned (.tuple #[.int .i64 (joinX S R z ws), .int .i64 (joinC S R z ws)]) ∧ Below w.heap.size w w' := by
  obtain ⟨v1, v2, rfl, h1, h2⟩ := hv
  have H := Lib.hid (AtT.box (T := 29) h1 h2)
  obtain ⟨ua, uc, rfl, hua⟩ := hu
  have HU : Hid (ReadsI w (.slice ua ws.length uc) ws) := Lib.hid ⟨ua, uc, rfl, hua⟩
  have HW := Lib.hid hws
  have K := Lib.hid k
  obtain ⟨n, hn'⟩ : ∃ n, ws.length = n := ⟨_, rfl⟩
  have hnb : n ≤ 1048576 := by omega
  rw [hn'] at HU ⊢
  have HN := Lib.hid hn'
  clear h1 h2 k hws hua hn'
  by_cases hc : chk S R z ws = 0
  · obtain ⟨hc1, hc2, hc3, hc4⟩ := chk_spec hc
    have HC := Lib.hid hc
    have HV := Lib.hid hc1
    have HZ := Lib.hid hc2
    have HB := Lib.hid hc3
    have HL := Lib.hid hc4
    clear hc hc1 hc2 hc3 hc4
    by_cases hnil : ws = []
    · have HJ := Lib.hid (join_nil HC.out hnil)
      have hn0 : n = 0 := by have h := HN.out; rw [hnil] at h; exact h.symm
      subst hn0
      clear hnil
      go_enter Tryd.func26, Tryd.ntmps26
      go_wp2_with fail
      refine (sitems_any w.heap.size _ S R z ws _ H.out (HU.out.below (allocB _ _)) K.out HW.out).mono ?_
      rintro e w2 ⟨rfl, b2⟩
      rw [HC.out]
      have C := Lib.hid (blink (allocB w _) b2)
      clear b2
      go_wp2_with fail
      go_ret2
      exact ⟨ret_eq (by rw [HJ.out.1, HJ.out.2]; rfl), C.out⟩
    · have HNE := Lib.hid hnil
      have hn0 : n ≠ 0 := fun e => hnil (List.eq_nil_of_length_eq_zero (by rw [HN.out, e]))
      have t0 : ((n : Int) == 0) = false := by simp; omega
      have HN0 := Lib.hid hn0
      clear hnil hn0
      by_cases hs : stp S (sumL ws) < S.length
      · obtain ⟨p1, p2⟩ := prc_bound (z := z) HV.out HZ.out hs
        have HP := Lib.hid (prcI_yes (z := z) (R := R) hs)
        have HJ := Lib.hid (join_yes HC.out HNE.out hs)
        obtain ⟨p, hp⟩ : ∃ p, prc S R z (sumL ws) = p := ⟨_, rfl⟩
        rw [hp] at p1 p2 HP HJ
        have t1 : decide (p < 0) = false := by simp; omega
        clear hs hp
        go_enter Tryd.func26, Tryd.ntmps26
        go_wp2_with fail
        refine (sitems_any w.heap.size _ S R z ws _ H.out (HU.out.below (allocB _ _)) K.out HW.out).mono ?_
        rintro e w2 ⟨rfl, b2⟩
        rw [HC.out]
        have C := Lib.hid (blink (allocB w _) b2)
        have H2 := Lib.hid (H.out.below b2)
        clear b2
        go_wp2_with fail
        refine (ssum_any _ ws _ (HU.out.below C.out) HL.out HB.out).mono ?_
        rintro e w3 ⟨rfl, rfl⟩
        go_wp2_with fail
        refine (sprice_any w.heap.size S R z _ _ H2.out K.out HV.out HZ.out).mono ?_
        rintro e w4 ⟨rfl, rfl⟩
        rw [HP.out]
        go_wp2_with fail
        go_ret2
        exact ⟨ret_eq (by rw [HJ.out.1, HJ.out.2]; rfl), C.out⟩
      · have HP := Lib.hid (prcI_no (z := z) (R := R) hs)
        have HJ := Lib.hid (join_no HC.out HNE.out hs)
        clear hs
        go_enter Tryd.func26, Tryd.ntmps26
        go_wp2_with fail
        refine (sitems_any w.heap.size _ S R z ws _ H.out (HU.out.below (allocB _ _)) K.out HW.out).mono ?_
        rintro e w2 ⟨rfl, b2⟩
        rw [HC.out]
        have C := Lib.hid (blink (allocB w _) b2)
        have H2 := Lib.hid (H.out.below b2)
        clear b2
        go_wp2_with fail
        refine (ssum_any _ ws _ (HU.out.below C.out) HL.out HB.out).mono ?_
        rintro e w3 ⟨rfl, rfl⟩
        go_wp2_with fail
        refine (sprice_any w.heap.size S R z _ _ H2.out K.out HV.out HZ.out).mono ?_
        rintro e w4 ⟨rfl, rfl⟩
        rw [HP.out]
        go_wp2_with fail
        go_ret2
        exact ⟨ret_eq (by rw [HJ.out.1, HJ.out.2]; rfl), C.out⟩
  · have HJ := Lib.hid (join_c hc)
    obtain ⟨c, hcc⟩ : ∃ c, chk S R z ws = c := ⟨_, rfl⟩
    have t1 : (c != 0) = true := by rw [← hcc]; simpa using hc
    have HC := Lib.hid hcc
    clear hc hcc
    go_enter Tryd.func26, Tryd.ntmps26
    go_wp2_with fail
    refine (sitems_any w.heap.size _ S R z ws _ H.out (HU.out.below (allocB _ _)) K.out HW.out).mono ?_
    rintro e w2 ⟨rfl, b2⟩
    rw [HC.out]
    have C := Lib.hid (blink (allocB w _) b2)
    clear b2
    go_wp2_with fail
    go_ret2
    exact ⟨ret_eq (by rw [HJ.out.1, HJ.out.2, HC.out]; rfl), C.out⟩

set_option maxHeartbeats 2000000 in
set_option maxRecDepth 100000 in
theorem iJoined_ok (v u : Value) (S : List Int) (R : List (List Int)) (z : Int) (ws : List Int) (w : World) (hv : ReadsT w v S R) (hu : ReadsI w u ws) (k : TabOk S R) (hws : ws.length ≤ 1048576) (a0 a1 a2 a3 : Addr) (E : Errs4 w a0 a1 a2 a3) :
    Calls Tryd.prog 27 #[v, .int .i64 z, u] w fun e w' => e = .returned (.tuple #[.int .i64 (joinX S R z ws), .int .i64 (joinC S R z ws)]) ∧ Below w.heap.size w w' := by
  obtain ⟨v1, v2, rfl, ⟨a, cap, rfl, ha⟩, ⟨b, c2, rfl, hb⟩⟩ := hv
  have H0 : Hid (ReadsT w (.agg #[.slice a S.length cap, .slice b R.length c2]) S R) := Lib.hid ⟨_, _, rfl, ⟨a, cap, rfl, ha⟩, ⟨b, c2, rfl, hb⟩⟩
  obtain ⟨ua, uc, rfl, hua⟩ := hu
  have HU : Hid (ReadsI w (.slice ua ws.length uc) ws) := Lib.hid ⟨ua, uc, rfl, hua⟩
  have K := Lib.hid k
  have HE := Lib.hid E
  have HW := Lib.hid hws
  obtain ⟨n, hn'⟩ : ∃ n, ws.length = n := ⟨_, rfl⟩
  have hnb : n ≤ 1048576 := by omega
  rw [hn'] at HU ⊢
  have HN := Lib.hid hn'
  clear ha hb hua k E hws hn'
  by_cases hc : chk S R z ws = 0
  · obtain ⟨hc1, hc2, hc3, hc4⟩ := chk_spec hc
    have HC := Lib.hid hc
    have HV := Lib.hid hc1
    have HZ := Lib.hid hc2
    have HB := Lib.hid hc3
    have HL := Lib.hid hc4
    clear hc hc1 hc2 hc3 hc4
    by_cases hnil : ws = []
    · have HJ := Lib.hid (join_nil HC.out hnil)
      have hn0 : n = 0 := by have h := HN.out; rw [hnil] at h; exact h.symm
      subst hn0
      clear hnil
      go_enter Tryd.func27, Tryd.ntmps27
      go_wp2_with fail
      refine (check_any _ _ S R z ws a0 a1 a2 _ (H0.out.below (allocB _ _)) (HU.out.below (allocB _ _)) K.out HW.out (HE.out.e3.below (allocB _ _))).mono ?_
      rintro e w2 ⟨rfl, b2⟩
      rw [HC.out, errOf_0]
      have C := Lib.hid (blink (allocB w _) b2)
      clear b2
      go_wp2_with fail
      go_ret2
      exact ⟨ret_eq (by rw [HJ.out.1, HJ.out.2]; rfl), C.out⟩
    · have HNE := Lib.hid hnil
      have hn0 : n ≠ 0 := fun e => hnil (List.eq_nil_of_length_eq_zero (by rw [HN.out, e]))
      have t0 : ((n : Int) == 0) = false := by simp; omega
      have HN0 := Lib.hid hn0
      clear hnil hn0
      go_enter Tryd.func27, Tryd.ntmps27
      go_wp2_with fail
      refine (check_any _ _ S R z ws a0 a1 a2 _ (H0.out.below (allocB _ _)) (HU.out.below (allocB _ _)) K.out HW.out (HE.out.e3.below (allocB _ _))).mono ?_
      rintro e w2 ⟨rfl, b2⟩
      rw [HC.out, errOf_0]
      have q := (Blk2.new (w := w) rfl _ _ _).below b2
      have C := Lib.hid (blink (allocB w _) b2)
      have g0 := q.at0
      have g1 := q.at1
      clear q b2
      go_wp2_with fail
      have SD : w2.drew.cell? ⟨w.heap.size, 0, none⟩ = some (.slice a S.length cap) ∧ w2.drew.cell? ⟨w.heap.size, 1, none⟩ = some (.slice b R.length c2) ∧ Hid (Below w2.heap.size w2 w2.drew) := ⟨g0, g1, Lib.hid (Below.refl _ _).drew⟩
      by_cases hs : stp S (sumL ws) < S.length
      · have HJ := Lib.hid (join_yes HC.out HNE.out hs)
        have HP := Lib.hid (prcV_yes (z := z) (R := R) a3 hs)
        clear hs
        go_region_held3 (fun v => v.cell? ⟨w.heap.size, 0, none⟩ = some (.slice a S.length cap) ∧ v.cell? ⟨w.heap.size, 1, none⟩ = some (.slice b R.length c2) ∧ Hid (Below w2.heap.size w2 v)) (first | exact SD | exact keepT1 (by assumption) (by assumption) | go_keep) (first | (go_at_call 52; refine (isum_any _ ws _ (HU.out.below (blink C.out (kb1 (by assumption)))) HL.out HB.out).mono ?_; rintro e zq ⟨rfl, rfl⟩) | (go_at_call 47; refine (iprice_any _ S R z _ _ (H0.out.below (blink C.out (kb1 (by assumption)))) K.out HV.out HZ.out a3 (HE.out.below (blink C.out (kb1 (by assumption)))).g3).mono ?_; rintro e zz ⟨rfl, b1⟩; rw [HP.out]))
        have hS : zz.cell? ⟨w.heap.size, 0, none⟩ = some (.slice a S.length cap) ∧ zz.cell? ⟨w.heap.size, 1, none⟩ = some (.slice b R.length c2) ∧ Hid (Below w2.heap.size w2 zz) := by assumption
        have C2 := Lib.hid (blink C.out (kb1 hS))
        clear hS SD
        go_wp2_with fail
        refine (code_nil _).mono ?_
        rintro e w4 ⟨rfl, rfl⟩
        go_wp2_with fail
        go_ret2
        exact ⟨ret_eq (by rw [HJ.out.1, HJ.out.2]; rfl), C2.out⟩
      · have HJ := Lib.hid (join_no HC.out HNE.out hs)
        have HP := Lib.hid (prcV_no (z := z) (R := R) a3 hs)
        clear hs
        go_region_held3 (fun v => v.cell? ⟨w.heap.size, 0, none⟩ = some (.slice a S.length cap) ∧ v.cell? ⟨w.heap.size, 1, none⟩ = some (.slice b R.length c2) ∧ Hid (Below w2.heap.size w2 v)) (first | exact SD | exact keepT1 (by assumption) (by assumption) | go_keep) (first | (go_at_call 52; refine (isum_any _ ws _ (HU.out.below (blink C.out (kb1 (by assumption)))) HL.out HB.out).mono ?_; rintro e zq ⟨rfl, rfl⟩) | (go_at_call 47; refine (iprice_any _ S R z _ _ (H0.out.below (blink C.out (kb1 (by assumption)))) K.out HV.out HZ.out a3 (HE.out.below (blink C.out (kb1 (by assumption)))).g3).mono ?_; rintro e zz ⟨rfl, b1⟩; rw [HP.out]))
        have hS : zz.cell? ⟨w.heap.size, 0, none⟩ = some (.slice a S.length cap) ∧ zz.cell? ⟨w.heap.size, 1, none⟩ = some (.slice b R.length c2) ∧ Hid (Below w2.heap.size w2 zz) := by assumption
        have C2 := Lib.hid (blink C.out (kb1 hS))
        clear hS SD
        go_wp2_with fail
        refine (code_4 a0 a1 a2 a3 _ (HE.out.below C2.out)).mono ?_
        rintro e w4 ⟨rfl, rfl⟩
        go_wp2_with fail
        go_ret2
        exact ⟨ret_eq (by rw [HJ.out.1, HJ.out.2]; rfl), C2.out⟩
  · have HJ := Lib.hid (join_c hc)
    have HK : Hid (chk S R z ws = 1 ∨ chk S R z ws = 2 ∨ chk S R z ws = 3) := Lib.hid (by rcases chk_cases S R z ws with h | h | h | h; exact absurd h hc; exact .inl h; exact .inr (.inl h); exact .inr (.inr h))
    have HC := Lib.hid hc
    clear hc
    go_enter Tryd.func27, Tryd.ntmps27
    go_wp2_with fail
    refine (check_any _ _ S R z ws a0 a1 a2 _ (H0.out.below (allocB _ _)) (HU.out.below (allocB _ _)) K.out HW.out (HE.out.e3.below (allocB _ _))).mono ?_
    rintro e w2 ⟨rfl, b2⟩
    rw [errOf_ptr HC.out]
    have C := Lib.hid (blink (allocB w _) b2)
    clear b2
    go_wp2_with fail
    refine (code_of a0 a1 a2 _ HK.out _ (HE.out.e3.below C.out)).mono ?_
    rintro e w4 ⟨rfl, rfl⟩
    go_wp2_with fail
    go_ret2
    exact ⟨ret_eq (by rw [HJ.out.1, HJ.out.2]; rfl), C.out⟩
end Go.Proofs.YtkhemijanhcibaaDoor
