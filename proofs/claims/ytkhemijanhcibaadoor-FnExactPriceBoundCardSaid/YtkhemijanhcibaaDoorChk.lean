/-
  The first checks of every function over a table: on both sides.
-/
import Derived.Test.YtkhemijanhcibaaDoorTabK
import Derived.Test.YtkhemijanhcibaaDoorErrs
namespace Go.Proofs.YtkhemijanhcibaaDoor
open Go Go.RowKit
set_option linter.unusedVariables false

/-- A table lies at block B. -/
def AtT (w : World) (B : Nat) (S : List Int) (R : List (List Int)) : Prop := ∃ T x y, Blk2 w B T x y ∧ ReadsH w x S ∧ ReadsM w y R
theorem AtT.below {w w' : World} {B : Nat} {S : List Int} {R : List (List Int)} (h : AtT w B S R) (hb : Below w.heap.size w w') : AtT w' B S R := by
  obtain ⟨T, x, y, h1, h2, h3⟩ := h
  exact ⟨T, x, y, h1.below hb, h2.below hb, h3.below hb⟩
theorem AtT.lt {w : World} {B : Nat} {S : List Int} {R : List (List Int)} (h : AtT w B S R) : B < w.heap.size := by
  obtain ⟨T, x, y, h1, h2, h3⟩ := h
  exact h1.lt
theorem AtT.box {w : World} {v1 v2 : Value} {T : TypeId} {S : List Int} {R : List (List Int)} (h1 : ReadsH w v1 S) (h2 : ReadsM w v2 R) : AtT (w.alloc (.cells #[v1, v2] T)) w.heap.size S R :=
  ⟨T, v1, v2, Blk2.new rfl _ _ _, h1.below (allocB _ _), h2.below (allocB _ _)⟩
theorem AtT.cells {w : World} {B : Nat} {S : List Int} {R : List (List Int)} (h : AtT w B S R) :
    ∃ a cap b c2, w.cell? ⟨B, 0, none⟩ = some (.slice a S.length cap) ∧ w.cell? ⟨B, 1, none⟩ = some (.slice b R.length c2) ∧ (S ≠ [] → ∃ g, a = some ⟨g, 0, none⟩ ∧ CellsH w g S) ∧
      (R ≠ [] → ∃ g, b = some ⟨g, 0, none⟩ ∧ ∀ j, j < R.length → ∃ u, w.cell? ⟨g, j, none⟩ = some u ∧ ReadsH w u (R.getD j [])) := by
  obtain ⟨T, x, y, h1, ⟨a, cap, rfl, h2⟩, ⟨b, c2, rfl, h3⟩⟩ := h
  exact ⟨a, cap, b, c2, h1.at0, h1.at1, h2, h3⟩
theorem sok_at (B : Nat) (S : List Int) (R : List (List Int)) (w : World) (h : AtT w B S R) (k : TabOk S R) :
    Calls Tryd.prog 61 #[.pointer (some ⟨B, 0, none⟩)] w fun e w' => e = .returned (.bool (vldT S R)) ∧ Below w.heap.size w w' := by
  obtain ⟨T, x, y, h1, h2, h3⟩ := h
  exact sok_any B T x y S R w h1 h2 h3 k.s16 k.r16 k.sl k.rl k.rr

theorem sweight_any (n : Int) (w : World) : Calls Tryd.prog 35 #[.int .i64 n] w fun e w' => e = .returned (.bool (inB n 1 2000)) ∧ w' = w := by
  go_enter Tryd.func35, Tryd.ntmps35
  go_wp2_with fail
  refine (in_any n 1 2000 _).mono ?_
  rintro e w2 ⟨rfl, hw⟩
  subst hw
  go_wp2_with fail
  go_ret
  exact ⟨rfl, rfl⟩

theorem szone_any (B : Nat) (S : List Int) (R : List (List Int)) (z : Int) (w : World) (h : AtT w B S R) (hm : R.length ≤ 1048576) :
    Calls Tryd.prog 62 #[.pointer (some ⟨B, 0, none⟩), .int .i64 z] w fun e w' => e = .returned (.bool (inB z 0 (R.length - 1))) ∧ w' = w := by
  obtain ⟨a, cap, b, c2, c0, c1, _, _⟩ := h.cells
  clear h
  obtain ⟨m, hm'⟩ : ∃ m, R.length = m := ⟨_, rfl⟩
  rw [hm'] at hm c1 ⊢
  clear hm'
  go_enter Tryd.func62, Tryd.ntmps62
  go_wp2_with fail
  refine (in_any z 0 ((m : Int) - 1) _).mono ?_
  rintro e w2 ⟨rfl, hw⟩
  subst hw
  go_wp2_with fail
  go_ret
  exact ⟨rfl, rfl⟩

/-- The code of a table, a zone of it, and whether numbers are as told. -/
def asked (S : List Int) (R : List (List Int)) (z : Int) (fine : Bool) : Int :=
  if vldT S R = false then 1 else if inB z 0 (R.length - 1) = false ∨ fine = false then 2 else 0
theorem asked_1 {S : List Int} {R : List (List Int)} (z : Int) (fine : Bool) (h : vldT S R = false) : asked S R z fine = 1 := if_pos h
theorem asked_2 {S : List Int} {R : List (List Int)} {z : Int} {fine : Bool} (h : vldT S R = true) (h2 : inB z 0 (R.length - 1) = false ∨ fine = false) : asked S R z fine = 2 := by
  unfold asked; rw [if_neg (by rw [h]; simp), if_pos h2]
theorem asked_0 {S : List Int} {R : List (List Int)} {z : Int} {fine : Bool} (h : vldT S R = true) (h2 : inB z 0 (R.length - 1) = true) (h3 : fine = true) : asked S R z fine = 0 := by
  unfold asked; rw [if_neg (by rw [h]; simp), if_neg (by rw [h2, h3]; simp)]

set_option maxHeartbeats 2000000 in
theorem asked_any (B : Nat) (S : List Int) (R : List (List Int)) (z : Int) (fine : Bool) (w : World) (h : AtT w B S R) (k : TabOk S R) :
    Calls Tryd.prog 34 #[.pointer (some ⟨B, 0, none⟩), .int .i64 z, .bool fine] w fun e w' => e = .returned (.int .i64 (asked S R z fine)) ∧ Below w.heap.size w w' := by
  have H := Lib.hid h
  have K := Lib.hid k
  clear h k
  by_cases hv : vldT S R = true
  · have HV := Lib.hid hv
    clear hv
    by_cases hz : inB z 0 (R.length - 1) = true
    · have HZ := Lib.hid hz
      clear hz
      cases fine
      · have HA : Hid (asked S R z false = 2) := Lib.hid (asked_2 HV.out (.inr rfl))
        go_enter Tryd.func34, Tryd.ntmps34
        go_wp2_with fail
        refine (sok_at B S R _ H.out K.out).mono ?_
        rintro e w2 ⟨rfl, b2⟩
        rw [HV.out]
        have B2 := Lib.hid b2
        clear b2
        go_wp2_with fail
        refine (szone_any B S R z _ (H.out.below B2.out) K.out.rl).mono ?_
        rintro e w3 ⟨rfl, hw⟩
        subst hw
        rw [HZ.out]
        go_wp2_with fail
        go_ret
        exact ⟨ret_int HA.out.symm, B2.out⟩
      · have HA : Hid (asked S R z true = 0) := Lib.hid (asked_0 HV.out HZ.out rfl)
        go_enter Tryd.func34, Tryd.ntmps34
        go_wp2_with fail
        refine (sok_at B S R _ H.out K.out).mono ?_
        rintro e w2 ⟨rfl, b2⟩
        rw [HV.out]
        have B2 := Lib.hid b2
        clear b2
        go_wp2_with fail
        refine (szone_any B S R z _ (H.out.below B2.out) K.out.rl).mono ?_
        rintro e w3 ⟨rfl, hw⟩
        subst hw
        rw [HZ.out]
        go_wp2_with fail
        go_ret
        exact ⟨ret_int HA.out.symm, B2.out⟩
    · have HZ : Hid (inB z 0 (R.length - 1) = false) := Lib.hid (by simpa using hz)
      clear hz
      have HA : Hid (asked S R z fine = 2) := Lib.hid (asked_2 HV.out (.inl HZ.out))
      go_enter Tryd.func34, Tryd.ntmps34
      go_wp2_with fail
      refine (sok_at B S R _ H.out K.out).mono ?_
      rintro e w2 ⟨rfl, b2⟩
      rw [HV.out]
      have B2 := Lib.hid b2
      clear b2
      go_wp2_with fail
      refine (szone_any B S R z _ (H.out.below B2.out) K.out.rl).mono ?_
      rintro e w3 ⟨rfl, hw⟩
      subst hw
      rw [HZ.out]
      go_wp2_with fail
      go_ret
      exact ⟨ret_int HA.out.symm, B2.out⟩
  · have HV : Hid (vldT S R = false) := Lib.hid (by simpa using hv)
    clear hv
    have HA : Hid (asked S R z fine = 1) := Lib.hid (asked_1 z fine HV.out)
    go_enter Tryd.func34, Tryd.ntmps34
    go_wp2_with fail
    refine (sok_at B S R _ H.out K.out).mono ?_
    rintro e w2 ⟨rfl, b2⟩
    rw [HV.out]
    have B2 := Lib.hid b2
    clear b2
    go_wp2_with fail
    go_ret
    exact ⟨ret_int HA.out.symm, B2.out⟩

set_option maxHeartbeats 2000000 in
set_option maxRecDepth 100000 in
theorem withinI_any (v : Value) (r : List Int) (lo hi : Int) (w : World) (hv : ReadsI w v r) (hn : r.length ≤ 1048576) :
    Calls Tryd.prog 55 #[v, .int .i64 lo, .int .i64 hi] w fun e w' => e = .returned (.bool (betwB r lo hi)) ∧ w = w' := by
  obtain ⟨a, cap, rfl, ha⟩ := hv
  have HA := Lib.hid ha
  obtain ⟨n, hn'⟩ : ∃ n, r.length = n := ⟨_, rfl⟩
  rw [hn'] at hn ⊢
  have HN := Lib.hid hn'
  clear ha hn'
  go_enter Tryd.func55, Tryd.ntmps55
  go_wp2_with fail
  go_loop [11] (fun i => ∃ k : Nat, k ≤ n ∧ i = .int .i64 k ∧ betw r lo hi k) (fun i => n - (intOf i).toNat)
  case atStart => exact ⟨0, Nat.zero_le _, rfl, betw.zero _ _ _⟩
  case round =>
    obtain ⟨k, hk, rfl, hb⟩ := hrel
    have HB := Lib.hid hb
    by_cases hlt : k < n
    · obtain ⟨g, rfl, hc⟩ := HA.out (by intro e; have := HN.out; rw [e] at this; simp at this; omega)
      have cx := hc k (by have := HN.out; omega)
      have HS : Hid (lo ≤ r.getD k 0 ∧ r.getD k 0 ≤ hi → betw r lo hi (k + 1)) := Lib.hid HB.out.succ
      have HBAD : Hid (¬ (lo ≤ r.getD k 0 ∧ r.getD k 0 ≤ hi) → betwB r lo hi = false) := Lib.hid (betwB_bad (by have := HN.out; omega))
      obtain ⟨x, hx⟩ : ∃ x, r.getD k 0 = x := ⟨_, rfl⟩
      rw [hx] at cx HS HBAD
      clear hc hx hb
      by_cases h1 : lo ≤ x
      · by_cases h2 : x ≤ hi
        · have t1 : decide (x < lo) = false := by simp; omega
          have t2 : decide (hi < x) = false := by simp; omega
          go_wp2_with fail
          go_round
          case rel => exact ⟨k + 1, by omega, by go_num, HS.out ⟨h1, h2⟩⟩
          case measure => simp [intOf]; omega
        · have t1 : decide (x < lo) = false := by simp; omega
          have t2 : decide (hi < x) = true := by simp; omega
          go_wp2_with fail
          go_ret
          exact ⟨(ret_bool (HBAD.out (by omega))).symm, rfl⟩
      · have t1 : decide (x < lo) = true := by simp; omega
        go_wp2_with fail
        go_ret
        exact ⟨(ret_bool (HBAD.out (by omega))).symm, rfl⟩
    · have hk' : k = n := by omega
      have HE : Hid (betwB r lo hi = true) := Lib.hid (betwB_true (by rw [HN.out, ← hk']; exact hb))
      clear hk' hb
      go_wp2_with fail
      go_ret
      exact ⟨(ret_bool HE.out).symm, rfl⟩

theorem reaches_any (v : Value) (S : List Int) (R : List (List Int)) (z : Int) (w : World) (hv : ReadsT w v S R) (hm : R.length ≤ 1048576) :
    Calls Tryd.prog 64 #[v, .int .i64 z] w fun e w' => e = .returned (.bool (decide (z < R.length))) ∧ Below w.heap.size w w' := by
  obtain ⟨v1, v2, rfl, h1, ⟨b, c2, rfl, h2⟩⟩ := hv
  clear h1 h2
  obtain ⟨m, hm'⟩ : ∃ m, R.length = m := ⟨_, rfl⟩
  rw [hm'] at hm ⊢
  clear hm'
  go_enter Tryd.func64, Tryd.ntmps64
  go_wp2_with fail
  go_ret
  exact ⟨rfl, allocB _ _⟩

/-- The code of a table, a zone of it, and weights in their range and number. -/
def chk (S : List Int) (R : List (List Int)) (z : Int) (ws : List Int) : Int :=
  if vldT S R = false then 1 else if inB z 0 (R.length - 1) = false ∨ betwB ws 1 2000 = false then 2 else if 8 < ws.length then 3 else 0
theorem chk_1 {S : List Int} {R : List (List Int)} (z : Int) (ws : List Int) (h : vldT S R = false) : chk S R z ws = 1 := if_pos h
theorem chk_2 {S : List Int} {R : List (List Int)} {z : Int} {ws : List Int} (h : vldT S R = true) (h2 : inB z 0 (R.length - 1) = false ∨ betwB ws 1 2000 = false) : chk S R z ws = 2 := by
  unfold chk; rw [if_neg (by rw [h]; simp), if_pos h2]
theorem chk_3 {S : List Int} {R : List (List Int)} {z : Int} {ws : List Int} (h : vldT S R = true) (h2 : inB z 0 (R.length - 1) = true) (h3 : betwB ws 1 2000 = true) (h4 : 8 < ws.length) : chk S R z ws = 3 := by
  unfold chk; rw [if_neg (by rw [h]; simp), if_neg (by rw [h2, h3]; simp), if_pos h4]
theorem chk_0 {S : List Int} {R : List (List Int)} {z : Int} {ws : List Int} (h : vldT S R = true) (h2 : inB z 0 (R.length - 1) = true) (h3 : betwB ws 1 2000 = true) (h4 : ¬ 8 < ws.length) : chk S R z ws = 0 := by
  unfold chk; rw [if_neg (by rw [h]; simp), if_neg (by rw [h2, h3]; simp), if_neg h4]
theorem chk_cases (S : List Int) (R : List (List Int)) (z : Int) (ws : List Int) : chk S R z ws = 0 ∨ chk S R z ws = 1 ∨ chk S R z ws = 2 ∨ chk S R z ws = 3 := by
  unfold chk; split
  · simp
  · split
    · simp
    · split <;> simp
theorem chk_spec {S : List Int} {R : List (List Int)} {z : Int} {ws : List Int} (h : chk S R z ws = 0) : vldT S R = true ∧ inB z 0 (R.length - 1) = true ∧ betwB ws 1 2000 = true ∧ ws.length ≤ 8 := by
  unfold chk at h
  split at h
  · simp at h
  · rename_i h1
    split at h
    · simp at h
    · rename_i h2
      split at h
      · simp at h
      · rename_i h3
        simp only [not_or, Bool.not_eq_false] at h1 h2
        exact ⟨h1, h2.1, h2.2, by omega⟩
theorem inB_spec {n lo hi : Int} (h : inB n lo hi = true) : lo ≤ n ∧ n ≤ hi := of_decide_eq_true h
/-- The error of a code. -/
def errOf (a0 a1 a2 : Addr) (c : Int) : Value :=
  if c = 0 then .nilIface else if c = 1 then .iface 104 (.pointer (some a0)) else if c = 2 then .iface 104 (.pointer (some a1)) else .iface 104 (.pointer (some a2))

set_option maxHeartbeats 4000000 in
set_option maxRecDepth 100000 in
theorem check_any (v u : Value) (S : List Int) (R : List (List Int)) (z : Int) (ws : List Int) (a0 a1 a2 : Addr) (w : World) (hv : ReadsT w v S R) (hu : ReadsI w u ws) (k : TabOk S R) (hws : ws.length ≤ 1048576) (E : Errs3 w a0 a1 a2) :
    Calls Tryd.prog 39 #[v, .int .i64 z, u] w fun e w' => e = .returned (errOf a0 a1 a2 (chk S R z ws)) ∧ Below w.heap.size w w' := by
  obtain ⟨v1, v2, rfl, ⟨a, cap, rfl, ha⟩, ⟨b, c2, rfl, hb⟩⟩ := hv
  have H0 : Hid (ReadsT w (.agg #[.slice a S.length cap, .slice b R.length c2]) S R) := Lib.hid ⟨_, _, rfl, ⟨a, cap, rfl, ha⟩, ⟨b, c2, rfl, hb⟩⟩
  obtain ⟨ua, uc, rfl, hua⟩ := hu
  have HU : Hid (ReadsI w (.slice ua ws.length uc) ws) := Lib.hid ⟨ua, uc, rfl, hua⟩
  have K := Lib.hid k
  have HE := Lib.hid E
  have HW := Lib.hid hws
  obtain ⟨n, hn⟩ : ∃ n, ws.length = n := ⟨_, rfl⟩
  have hnb : n ≤ 1048576 := by omega
  rw [hn] at HU ⊢
  have HN := Lib.hid hn
  clear ha hb hua k E hws hn
  by_cases hval : vldT S R = true
  · have HV := Lib.hid hval
    clear hval
    by_cases hz : 0 ≤ z
    · have t1 : decide (z < 0) = false := by simp; omega
      by_cases hzm : z < R.length
      · have HZ : Hid (inB z 0 (R.length - 1) = true) := Lib.hid (inB_true (by omega))
        have t2 : decide (z < (R.length : Int)) = true := by simp; omega
        have T2 := Lib.hid t2
        clear t2
        by_cases hbt : betwB ws 1 2000 = true
        · have HBT := Lib.hid hbt
          clear hbt
          by_cases h8 : 8 < n
          · have HC : Hid (chk S R z ws = 3) := Lib.hid (chk_3 HV.out HZ.out HBT.out (by rw [HN.out]; exact h8))
            go_enter Tryd.func39, Tryd.ntmps39
            go_wp2_with fail
            refine (ivalT_ok _ S R _ (H0.out.below (allocB _ _)) K.out).mono ?_
            rintro e w2 ⟨rfl, b2⟩
            rw [HV.out]
            have q := (Blk2.new (w := w) rfl _ _ _).below b2
            have c := blink (allocB w _) b2
            have g0 := q.at0
            have g1 := q.at1
            have C := Lib.hid c
            clear q c b2
            go_wp2_with fail
            refine (reaches_any _ S R z _ (H0.out.below C.out) K.out.rl).mono ?_
            rintro e w3 ⟨rfl, b3⟩
            rw [T2.out]
            have C3 := Lib.hid (blink C.out b3)
            clear b3
            go_wp2_with fail
            refine (withinI_any _ ws 1 2000 _ (HU.out.below C3.out) HW.out).mono ?_
            rintro e w4 ⟨rfl, rfl⟩
            rw [HBT.out]
            have e2 := (HE.out.below C3.out).g2
            go_wp2_with fail
            go_ret
            exact ⟨by rw [HC.out]; rfl, C3.out⟩
          · have HC : Hid (chk S R z ws = 0) := Lib.hid (chk_0 HV.out HZ.out HBT.out (by rw [HN.out]; exact h8))
            go_enter Tryd.func39, Tryd.ntmps39
            go_wp2_with fail
            refine (ivalT_ok _ S R _ (H0.out.below (allocB _ _)) K.out).mono ?_
            rintro e w2 ⟨rfl, b2⟩
            rw [HV.out]
            have q := (Blk2.new (w := w) rfl _ _ _).below b2
            have c := blink (allocB w _) b2
            have g0 := q.at0
            have g1 := q.at1
            have C := Lib.hid c
            clear q c b2
            go_wp2_with fail
            refine (reaches_any _ S R z _ (H0.out.below C.out) K.out.rl).mono ?_
            rintro e w3 ⟨rfl, b3⟩
            rw [T2.out]
            have C3 := Lib.hid (blink C.out b3)
            clear b3
            go_wp2_with fail
            refine (withinI_any _ ws 1 2000 _ (HU.out.below C3.out) HW.out).mono ?_
            rintro e w4 ⟨rfl, rfl⟩
            rw [HBT.out]
            go_wp2_with fail
            go_ret
            exact ⟨by rw [HC.out]; rfl, C3.out⟩
        · have HBT : Hid (betwB ws 1 2000 = false) := Lib.hid (by simpa using hbt)
          clear hbt
          have HC : Hid (chk S R z ws = 2) := Lib.hid (chk_2 HV.out (.inr HBT.out))
          go_enter Tryd.func39, Tryd.ntmps39
          go_wp2_with fail
          refine (ivalT_ok _ S R _ (H0.out.below (allocB _ _)) K.out).mono ?_
          rintro e w2 ⟨rfl, b2⟩
          rw [HV.out]
          have q := (Blk2.new (w := w) rfl _ _ _).below b2
          have c := blink (allocB w _) b2
          have g0 := q.at0
          have g1 := q.at1
          have C := Lib.hid c
          clear q c b2
          go_wp2_with fail
          refine (reaches_any _ S R z _ (H0.out.below C.out) K.out.rl).mono ?_
          rintro e w3 ⟨rfl, b3⟩
          rw [T2.out]
          have C3 := Lib.hid (blink C.out b3)
          clear b3
          go_wp2_with fail
          refine (withinI_any _ ws 1 2000 _ (HU.out.below C3.out) HW.out).mono ?_
          rintro e w4 ⟨rfl, rfl⟩
          rw [HBT.out]
          have e2 := (HE.out.below C3.out).g1
          go_wp2_with fail
          go_ret
          exact ⟨by rw [HC.out]; rfl, C3.out⟩
      · have HZ : Hid (inB z 0 (R.length - 1) = false) := Lib.hid (inB_false (by omega))
        have t2 : decide (z < (R.length : Int)) = false := by simp; omega
        have T2 := Lib.hid t2
        clear t2
        have HC : Hid (chk S R z ws = 2) := Lib.hid (chk_2 HV.out (.inl HZ.out))
        go_enter Tryd.func39, Tryd.ntmps39
        go_wp2_with fail
        refine (ivalT_ok _ S R _ (H0.out.below (allocB _ _)) K.out).mono ?_
        rintro e w2 ⟨rfl, b2⟩
        rw [HV.out]
        have q := (Blk2.new (w := w) rfl _ _ _).below b2
        have c := blink (allocB w _) b2
        have g0 := q.at0
        have g1 := q.at1
        have C := Lib.hid c
        clear q c b2
        go_wp2_with fail
        refine (reaches_any _ S R z _ (H0.out.below C.out) K.out.rl).mono ?_
        rintro e w3 ⟨rfl, b3⟩
        rw [T2.out]
        have C3 := Lib.hid (blink C.out b3)
        clear b3
        have e2 := (HE.out.below C3.out).g1
        go_wp2_with fail
        go_ret
        exact ⟨by rw [HC.out]; rfl, C3.out⟩
    · have HZ : Hid (inB z 0 (R.length - 1) = false) := Lib.hid (inB_false (by omega))
      have t1 : decide (z < 0) = true := by simp; omega
      have HC : Hid (chk S R z ws = 2) := Lib.hid (chk_2 HV.out (.inl HZ.out))
      go_enter Tryd.func39, Tryd.ntmps39
      go_wp2_with fail
      refine (ivalT_ok _ S R _ (H0.out.below (allocB _ _)) K.out).mono ?_
      rintro e w2 ⟨rfl, b2⟩
      rw [HV.out]
      have C := Lib.hid (blink (allocB w _) b2)
      clear b2
      have e2 := (HE.out.below C.out).g1
      go_wp2_with fail
      go_ret
      exact ⟨by rw [HC.out]; rfl, C.out⟩
  · have HV : Hid (vldT S R = false) := Lib.hid (by simpa using hval)
    clear hval
    have HC : Hid (chk S R z ws = 1) := Lib.hid (chk_1 z ws HV.out)
    go_enter Tryd.func39, Tryd.ntmps39
    go_wp2_with fail
    refine (ivalT_ok _ S R _ (H0.out.below (allocB _ _)) K.out).mono ?_
    rintro e w2 ⟨rfl, b2⟩
    rw [HV.out]
    have C := Lib.hid (blink (allocB w _) b2)
    clear b2
    have e2 := (HE.out.below C.out).g0
    go_wp2_with fail
    go_ret
    exact ⟨by rw [HC.out]; rfl, C.out⟩
end Go.Proofs.YtkhemijanhcibaaDoor
