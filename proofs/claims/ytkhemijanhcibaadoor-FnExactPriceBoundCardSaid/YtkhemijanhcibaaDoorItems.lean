/-
  Items: the model's codes, both sums, and the sum of prices.
-/
import Derived.Test.YtkhemijanhcibaaDoorPrice
namespace Go.Proofs.YtkhemijanhcibaaDoor
open Go Go.RowKit
set_option linter.unusedVariables false

set_option maxHeartbeats 2000000 in
set_option maxRecDepth 100000 in
theorem sweights_any (v : Value) (ws : List Int) (w : World) (hv : ReadsI w v ws) (hn : ws.length ≤ 1048576) :
    Calls Tryd.prog 67 #[v] w fun e w' => e = .returned (.bool (betwB ws 1 2000)) ∧ w = w' := by
  obtain ⟨a, cap, rfl, ha⟩ := hv
  have HA := Lib.hid ha
  obtain ⟨n, hn'⟩ : ∃ n, ws.length = n := ⟨_, rfl⟩
  rw [hn'] at hn ⊢
  have HN := Lib.hid hn'
  clear ha hn'
  go_enter Tryd.func67, Tryd.ntmps67
  go_wp2_with fail
  go_loop [3] (fun i => ∃ k : Nat, k ≤ n ∧ i = .int .i64 k ∧ betw ws 1 2000 k) (fun i => n - (intOf i).toNat)
  case atStart => exact ⟨0, Nat.zero_le _, rfl, betw.zero _ _ _⟩
  case round =>
    obtain ⟨k, hk, rfl, hb⟩ := hrel
    have HB := Lib.hid hb
    by_cases hlt : k < n
    · obtain ⟨g, rfl, hc⟩ := HA.out (by intro e; have := HN.out; rw [e] at this; simp at this; omega)
      have cx := hc k (by have := HN.out; omega)
      have HS : Hid (1 ≤ ws.getD k 0 ∧ ws.getD k 0 ≤ 2000 → betw ws 1 2000 (k + 1)) := Lib.hid HB.out.succ
      have HBAD : Hid (¬ (1 ≤ ws.getD k 0 ∧ ws.getD k 0 ≤ 2000) → betwB ws 1 2000 = false) := Lib.hid (betwB_bad (by have := HN.out; omega))
      obtain ⟨x, hx⟩ : ∃ x, ws.getD k 0 = x := ⟨_, rfl⟩
      rw [hx] at cx HS HBAD
      clear hc hx hb
      by_cases h1 : 1 ≤ x ∧ x ≤ 2000
      · have T := Lib.hid (inB_true h1)
        have HH := Lib.hid h1
        clear h1
        go_wp2_with fail
        refine (sweight_any x _).mono ?_
        rintro e w2 ⟨rfl, hw⟩
        subst hw
        rw [T.out]
        go_wp2_with fail
        go_round
        case rel => exact ⟨k + 1, by omega, by go_num, HS.out HH.out⟩
        case measure => simp [intOf]; omega
      · have T := Lib.hid (inB_false h1)
        have HH := Lib.hid h1
        clear h1
        go_wp2_with fail
        refine (sweight_any x _).mono ?_
        rintro e w2 ⟨rfl, hw⟩
        subst hw
        rw [T.out]
        go_wp2_with fail
        go_ret
        exact ⟨(ret_bool (HBAD.out HH.out)).symm, rfl⟩
    · have hk' : k = n := by omega
      have HE : Hid (betwB ws 1 2000 = true) := Lib.hid (betwB_true (by rw [HN.out, ← hk']; exact hb))
      clear hk' hb
      go_wp2_with fail
      go_ret
      exact ⟨(ret_bool HE.out).symm, rfl⟩

theorem asked_chk {S : List Int} {R : List (List Int)} {z : Int} {ws : List Int} : chk S R z ws = if asked S R z (betwB ws 1 2000) = 0 ∧ 8 < ws.length then 3 else asked S R z (betwB ws 1 2000) := by
  unfold chk asked
  by_cases h1 : vldT S R = false
  · simp [h1]
  · by_cases h2 : inB z 0 (R.length - 1) = false ∨ betwB ws 1 2000 = false
    · simp [h1, h2]
    · simp [h1, h2]

set_option maxHeartbeats 2000000 in
theorem sitems_any (B : Nat) (v : Value) (S : List Int) (R : List (List Int)) (z : Int) (ws : List Int) (w : World) (h : AtT w B S R) (hv : ReadsI w v ws) (k : TabOk S R) (hn : ws.length ≤ 1048576) :
    Calls Tryd.prog 50 #[.pointer (some ⟨B, 0, none⟩), .int .i64 z, v] w fun e w' => e = .returned (.int .i64 (chk S R z ws)) ∧ Below w.heap.size w w' := by
  obtain ⟨a, cap, rfl, ha⟩ := hv
  have HU : Hid (ReadsI w (.slice a ws.length cap) ws) := Lib.hid ⟨a, cap, rfl, ha⟩
  have HNL := Lib.hid hn
  obtain ⟨n, hn'⟩ : ∃ n, ws.length = n := ⟨_, rfl⟩
  have HCC : Hid (chk S R z ws = if asked S R z (betwB ws 1 2000) = 0 ∧ 8 < n then 3 else asked S R z (betwB ws 1 2000)) := Lib.hid (by rw [asked_chk, hn'])
  rw [hn'] at HU hn ⊢
  have H := Lib.hid h
  have K := Lib.hid k
  clear ha hn' h k
  by_cases h0 : asked S R z (betwB ws 1 2000) = 0
  · by_cases h8 : 8 < n
    · have HC : Hid (chk S R z ws = 3) := Lib.hid (by rw [HCC.out, if_pos ⟨h0, h8⟩])
      have H0 := Lib.hid h0
      clear h0
      go_enter Tryd.func50, Tryd.ntmps50
      go_wp2_with fail
      refine (sweights_any _ ws _ HU.out HNL.out).mono ?_
      rintro e w2 ⟨rfl, rfl⟩
      go_wp2_with fail
      refine (asked_any B S R z _ _ H.out K.out).mono ?_
      rintro e w3 ⟨rfl, b3⟩
      rw [H0.out]
      have C := Lib.hid b3
      clear b3
      go_wp2_with fail
      go_ret
      exact ⟨(ret_int HC.out).symm, C.out⟩
    · have HC : Hid (chk S R z ws = 0) := Lib.hid (by rw [HCC.out, if_neg (fun q => h8 q.2), h0])
      have H0 := Lib.hid h0
      clear h0
      go_enter Tryd.func50, Tryd.ntmps50
      go_wp2_with fail
      refine (sweights_any _ ws _ HU.out HNL.out).mono ?_
      rintro e w2 ⟨rfl, rfl⟩
      go_wp2_with fail
      refine (asked_any B S R z _ _ H.out K.out).mono ?_
      rintro e w3 ⟨rfl, b3⟩
      rw [H0.out]
      have C := Lib.hid b3
      clear b3
      go_wp2_with fail
      go_ret
      exact ⟨(ret_int HC.out).symm, C.out⟩
  · have HC : Hid (chk S R z ws = asked S R z (betwB ws 1 2000)) := Lib.hid (by rw [HCC.out, if_neg (fun q => h0 q.1)])
    obtain ⟨c, hc⟩ : ∃ c, asked S R z (betwB ws 1 2000) = c := ⟨_, rfl⟩
    have t1 : (c == 0) = false := by rw [← hc]; simpa using h0
    have HQ := Lib.hid hc
    clear h0 hc
    go_enter Tryd.func50, Tryd.ntmps50
    go_wp2_with fail
    refine (sweights_any _ ws _ HU.out HNL.out).mono ?_
    rintro e w2 ⟨rfl, rfl⟩
    go_wp2_with fail
    refine (asked_any B S R z _ _ H.out K.out).mono ?_
    rintro e w3 ⟨rfl, b3⟩
    rw [HQ.out]
    have C := Lib.hid b3
    clear b3
    go_wp2_with fail
    go_ret
    exact ⟨ret_int (by rw [HC.out, HQ.out]), C.out⟩

/-- Each of the first k items has a step. -/
def allS (S : List Int) (ws : List Int) (k : Nat) : Prop := ∀ i, i < k → stp S (ws.getD i 0) < S.length
instance (S ws : List Int) (k : Nat) : Decidable (allS S ws k) := inferInstanceAs (Decidable (∀ i, i < k → _))
theorem allS.zero (S ws : List Int) : allS S ws 0 := fun i hi => absurd hi (by omega)
theorem allS.succ {S ws : List Int} {k : Nat} (h : allS S ws k) (h1 : stp S (ws.getD k 0) < S.length) : allS S ws (k + 1) := fun i hi => by
  by_cases e : i = k
  · subst e; exact h1
  · exact h i (by omega)
def allB (S ws : List Int) : Bool := decide (allS S ws ws.length)
theorem allB_true {S ws : List Int} (h : allS S ws ws.length) : allB S ws = true := decide_eq_true h
theorem allB_bad {S ws : List Int} {k : Nat} (hk : k < ws.length) (h : ¬ stp S (ws.getD k 0) < S.length) : allB S ws = false := decide_eq_false fun q => h (q k hk)
theorem allB_spec {S ws : List Int} (h : allB S ws = true) : allS S ws ws.length := of_decide_eq_true h
/-- The code of items for which there has to be a step alone. -/
def alone (S : List Int) (R : List (List Int)) (z : Int) (ws : List Int) : Int := if chk S R z ws = 0 then (if allB S ws = true then 0 else 6) else chk S R z ws
theorem alone_c {S : List Int} {R : List (List Int)} {z : Int} {ws : List Int} (h : chk S R z ws ≠ 0) : alone S R z ws = chk S R z ws := if_neg h
theorem alone_0 {S : List Int} {R : List (List Int)} {z : Int} {ws : List Int} (h : chk S R z ws = 0) (h1 : allB S ws = true) : alone S R z ws = 0 := by unfold alone; rw [if_pos h, if_pos h1]
theorem alone_6 {S : List Int} {R : List (List Int)} {z : Int} {ws : List Int} (h : chk S R z ws = 0) (h1 : allB S ws = false) : alone S R z ws = 6 := by unfold alone; rw [if_pos h, if_neg (by rw [h1]; simp)]

set_option maxHeartbeats 4000000 in
set_option maxRecDepth 100000 in
theorem salone_any (B : Nat) (v : Value) (S : List Int) (R : List (List Int)) (z : Int) (ws : List Int) (w : World) (h : AtT w B S R) (hv : ReadsI w v ws) (k : TabOk S R) (hn : ws.length ≤ 1048576) :
    Calls Tryd.prog 45 #[.pointer (some ⟨B, 0, none⟩), .int .i64 z, v] w fun e w' => e = .returned (.int .i64 (alone S R z ws)) ∧ Below w.heap.size w w' := by
  obtain ⟨a, cap, rfl, ha⟩ := hv
  have HU : Hid (ReadsI w (.slice a ws.length cap) ws) := Lib.hid ⟨a, cap, rfl, ha⟩
  have HNL := Lib.hid hn
  obtain ⟨n, hn'⟩ : ∃ n, ws.length = n := ⟨_, rfl⟩
  rw [hn'] at HU hn ⊢
  have HN := Lib.hid hn'
  have HA := Lib.hid ha
  have H := Lib.hid h
  have K := Lib.hid k
  clear ha hn' h k
  by_cases hc : chk S R z ws = 0
  · have HC := Lib.hid hc
    clear hc
    go_enter Tryd.func45, Tryd.ntmps45
    go_wp2_with fail
    refine (sitems_any B _ S R z ws _ H.out HU.out K.out HNL.out).mono ?_
    rintro e w2 ⟨rfl, b2⟩
    rw [HC.out]
    have C := Lib.hid b2
    have H2 := Lib.hid (H.out.below b2)
    clear b2
    go_wp2_with fail
    go_loopw [7, 8] (fun c i wr => ∃ (q : Nat) (cc : Int), q ≤ n ∧ i = .int .i64 q ∧ c = .int .i64 cc ∧ (cc = 0 ∧ allS S ws q ∨ cc = 6 ∧ allB S ws = false) ∧ Below w2.heap.size w2 wr) (fun _ i _ => n - (intOf i).toNat)
    case atStart => exact ⟨0, 0, Nat.zero_le _, rfl, rfl, .inl ⟨rfl, allS.zero S ws⟩, Below.refl _ _⟩
    case round =>
      obtain ⟨q, cc, hq, rfl, rfl, hcc, hnx⟩ := hrel
      have HB := Lib.hid hnx
      rcases hcc with ⟨rfl, hal⟩ | ⟨rfl, hal⟩
      · have HAL := Lib.hid hal
        by_cases hlt : q < n
        · obtain ⟨g, rfl, hcx⟩ := HA.out (by intro e; have := HN.out; rw [e] at this; simp at this; omega)
          have cx := (hcx.below (blink C.out hnx)) q (by have := HN.out; omega)
          have HST : Hid (stp S (ws.getD q 0) < S.length → allS S ws (q + 1)) := Lib.hid HAL.out.succ
          have HBAD : Hid (¬ stp S (ws.getD q 0) < S.length → allB S ws = false) := Lib.hid (allB_bad (by have := HN.out; omega))
          obtain ⟨x, hx⟩ : ∃ x, ws.getD q 0 = x := ⟨_, rfl⟩
          rw [hx] at cx HST HBAD
          have H3 := Lib.hid (H2.out.below hnx)
          clear hcx hx hal hnx
          by_cases hs : stp S x < S.length
          · have HS := Lib.hid hs
            have t1 : decide ((stp S x : Int) < 0) = false := by first | (simp; done) | (simp; omega)
            clear hs
            go_wp2_with fail
            refine (sstep_any B S R x _ H3.out K.out).mono ?_
            rintro e w4 ⟨rfl, rfl⟩
            rw [stpI_yes HS.out]
            go_wp2_with fail
            go_roundw
            case rel => exact ⟨q + 1, 0, by omega, by go_num, rfl, .inl ⟨rfl, HST.out HS.out⟩, HB.out⟩
            case measure => simp [intOf]; omega
          · have HS := Lib.hid hs
            clear hs
            go_wp2_with fail
            refine (sstep_any B S R x _ H3.out K.out).mono ?_
            rintro e w4 ⟨rfl, rfl⟩
            rw [stpI_no HS.out]
            go_wp2_with fail
            go_roundw
            case rel => exact ⟨q + 1, 6, by omega, by go_num, rfl, .inr ⟨rfl, HBAD.out HS.out⟩, HB.out⟩
            case measure => simp [intOf]; omega
        · have hq' : q = n := by omega
          have HAB : Hid (alone S R z ws = 0) := Lib.hid (alone_0 HC.out (allB_true (by rw [HN.out, ← hq']; exact hal)))
          clear hq' hal hnx
          go_wp2_with fail
          go_ret
          exact ⟨(ret_int HAB.out).symm, blink C.out HB.out⟩
      · have HAB : Hid (alone S R z ws = 6) := Lib.hid (alone_6 HC.out hal)
        clear hal hnx
        by_cases hlt : q < n
        · go_wp2_with fail
          go_ret
          exact ⟨(ret_int HAB.out).symm, blink C.out HB.out⟩
        · go_wp2_with fail
          go_ret
          exact ⟨(ret_int HAB.out).symm, blink C.out HB.out⟩
  · have HC : Hid (alone S R z ws = chk S R z ws) := Lib.hid (alone_c hc)
    obtain ⟨c, hcc⟩ : ∃ c, chk S R z ws = c := ⟨_, rfl⟩
    have t1 : (c == 0) = false := by rw [← hcc]; simpa using hc
    have HQ := Lib.hid hcc
    clear hc hcc
    go_enter Tryd.func45, Tryd.ntmps45
    go_wp2_with fail
    refine (sitems_any B _ S R z ws _ H.out HU.out K.out HNL.out).mono ?_
    rintro e w2 ⟨rfl, b2⟩
    rw [HQ.out]
    have C := Lib.hid b2
    clear b2
    go_wp2_with fail
    by_cases h0 : 0 < n
    · refine wp_loop_rounds 1 ?_
      rw [rounds_succ]
      go_wp2_with fail
      go_ret
      exact ⟨ret_int (by rw [HC.out, HQ.out]), C.out⟩
    · refine wp_loop_rounds 1 ?_
      rw [rounds_succ]
      go_wp2_with fail
      go_ret
      exact ⟨ret_int (by rw [HC.out, HQ.out]), C.out⟩
end Go.Proofs.YtkhemijanhcibaaDoor
