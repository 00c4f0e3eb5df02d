/-
  The program's CheckParcels.
-/
import Derived.Test.YtkhemijanhcibaaDoorLoads
namespace Go.Proofs.YtkhemijanhcibaaDoor
open Go Go.RowKit
set_option linter.unusedVariables false

set_option maxHeartbeats 1000000 in
theorem last_any (v : Value) (S : List Int) (R : List (List Int)) (w : World) (hv : ReadsT w v S R) (k : TabOk S R) (h1 : 1 ≤ S.length) :
    Calls Tryd.prog 57 #[v] w fun e w' => e = .returned (.int .i64 (lastS S)) ∧ Below w.heap.size w w' := by
  obtain ⟨v1, v2, rfl, ⟨a, cap, rfl, ha⟩, ⟨b, c2, rfl, hb⟩⟩ := hv
  obtain ⟨g, rfl, hc⟩ := ha (by intro e; rw [e] at h1; simp at h1)
  have cx := hc.below (allocB w (.cells #[.slice (some ⟨g, 0, none⟩) S.length cap, .slice b R.length c2] 29)) (S.length - 1) (by omega)
  have hw := k.s16.get (S.length - 1) (by omega)
  have hl : S.getD (S.length - 1) 0 = lastS S := rfl
  rw [hl] at cx hw
  obtain ⟨hw1, hw2⟩ := hw
  have hsl := k.sl
  have hkm : ((S.length : Int) - 1).toNat = S.length - 1 := by omega
  have hkm2 : (S.length : Int) - 1 < (S.length : Int) := by omega
  have hkm3 : 0 ≤ (S.length : Int) - 1 := by omega
  obtain ⟨x, hx⟩ : ∃ x, lastS S = x := ⟨_, rfl⟩
  rw [hx] at cx hw1 hw2 ⊢
  clear hc hb ha k hl hx
  go_enter Tryd.func57, Tryd.ntmps57
  go_wp2_with fail
  go_ret
  exact ⟨rfl, allocB _ _⟩

/-- m is the greatest of the first k numbers. -/
def isMax (L : List Int) (k : Nat) (m : Int) : Prop := (∀ i, i < k → L.getD i 0 ≤ m) ∧ ∃ i, i < k ∧ L.getD i 0 = m
set_option maxHeartbeats 2000000 in
set_option maxRecDepth 100000 in
theorem max_any (v : Value) (L : List Int) (w : World) (hv : ReadsI w v L) (hn : L.length ≤ 1048576) (h1 : 1 ≤ L.length) :
    Calls Tryd.prog 56 #[v] w fun e w' => (∃ m, e = .returned (.int .i64 m) ∧ isMax L L.length m) ∧ w = w' := by
  obtain ⟨a, cap, rfl, ha⟩ := hv
  obtain ⟨g, rfl, hc⟩ := ha (by intro e; rw [e] at h1; simp at h1)
  obtain ⟨n, hn'⟩ : ∃ n, L.length = n := ⟨_, rfl⟩
  rw [hn'] at hn h1 ⊢
  have HN := Lib.hid hn'
  have HC := Lib.hid hc
  have c0 := hc 0 (by omega)
  have HM0 : Hid (isMax L 1 (L.getD 0 0)) := Lib.hid ⟨fun i hi => (by
    have e : i = 0 := by omega
    subst e
    exact Int.le_refl _), 0, by omega, rfl⟩
  obtain ⟨x0, hx0⟩ : ∃ x, L.getD 0 0 = x := ⟨_, rfl⟩
  rw [hx0] at c0 HM0
  have t0 : decide ((n : Int) < 1) = false := by simp; omega
  have hn0 : (0 : Int) < (n : Int) := by omega
  have hn0' : 0 < n := by omega
  clear hn' hc ha hx0
  go_enter Tryd.func56, Tryd.ntmps56
  go_wp2_with fail
  clear c0
  go_loop [3, 4] (fun s i => ∃ (k : Nat) (mm : Int), 1 ≤ k ∧ k ≤ n ∧ i = .int .i64 k ∧ s = .int .i64 mm ∧ isMax L k mm) (fun _ i => n - (intOf i).toNat)
  case atStart => exact ⟨1, x0, by omega, by omega, rfl, rfl, HM0.out⟩
  case round =>
    obtain ⟨k, mm, hk1, hk, rfl, rfl, hmx⟩ := hrel
    have HMX := Lib.hid hmx
    by_cases hlt : k < n
    · have cx := HC.out k (by have := HN.out; omega)
      have HUP : Hid (∀ m', mm ≤ m' → L.getD k 0 ≤ m' → (m' = mm ∨ m' = L.getD k 0) → isMax L (k + 1) m') := Lib.hid (fun m' h1 h2 h3 => ⟨fun i hi => by
        by_cases e : i = k
        · subst e; exact h2
        · have := HMX.out.1 i (by omega); omega, by
        rcases h3 with rfl | rfl
        · obtain ⟨i, hi, he⟩ := HMX.out.2; exact ⟨i, by omega, he⟩
        · exact ⟨k, by omega, rfl⟩⟩)
      obtain ⟨x, hx⟩ : ∃ x, L.getD k 0 = x := ⟨_, rfl⟩
      rw [hx] at cx HUP
      clear hx hmx
      by_cases hc1 : mm < x
      · have hc2 : ¬ x < mm := by omega
        go_wp2_with fail
        go_round
        case rel => exact ⟨k + 1, x, by omega, by omega, by go_num, rfl, HUP.out x (by omega) (by omega) (.inr rfl)⟩
        case measure => simp [intOf]; omega
      · by_cases hc2 : x < mm
        · go_wp2_with fail
          go_round
          case rel => exact ⟨k + 1, mm, by omega, by omega, by go_num, rfl, HUP.out mm (by omega) (by omega) (.inl rfl)⟩
          case measure => simp [intOf]; omega
        · obtain rfl : x = mm := by omega
          go_wp2_with fail
          go_round
          case rel => exact ⟨k + 1, x, by omega, by omega, by go_num, rfl, HUP.out x (by omega) (by omega) (.inl rfl)⟩
          case measure => simp [intOf]; omega
    · have hk' : k = n := by omega
      have HE : Hid (isMax L n mm) := Lib.hid (by rw [← hk']; exact hmx)
      clear hk' hmx
      go_wp2_with fail
      go_ret
      exact ⟨⟨mm, rfl, HE.out⟩, rfl⟩

set_option maxHeartbeats 1000000 in
theorem checkItems_any (v u : Value) (S : List Int) (R : List (List Int)) (ws : List Int) (a0 a1 a2 : Addr) (w : World) (hv : ReadsT w v S R) (hu : ReadsI w u ws) (k : TabOk S R) (hws : ws.length ≤ 1048576) (E : Errs3 w a0 a1 a2) :
    Calls Tryd.prog 54 #[v, u] w fun e w' => e = .returned (errOf a0 a1 a2 (chk S R 0 ws)) ∧ Below w.heap.size w w' := by
  obtain ⟨v1, v2, rfl, ⟨a, cap, rfl, ha⟩, ⟨b, c2, rfl, hb⟩⟩ := hv
  have H0 : Hid (ReadsT w (.agg #[.slice a S.length cap, .slice b R.length c2]) S R) := Lib.hid ⟨_, _, rfl, ⟨a, cap, rfl, ha⟩, ⟨b, c2, rfl, hb⟩⟩
  obtain ⟨ua, uc, rfl, hua⟩ := hu
  have HU : Hid (ReadsI w (.slice ua ws.length uc) ws) := Lib.hid ⟨ua, uc, rfl, hua⟩
  have K := Lib.hid k
  have HE := Lib.hid E
  have HW := Lib.hid hws
  clear ha hb hua k E hws
  go_enter Tryd.func54, Tryd.ntmps54
  go_wp2_with fail
  refine (check_any _ _ S R 0 ws a0 a1 a2 _ (H0.out.below (allocB _ _)) (HU.out.below (allocB _ _)) K.out HW.out (HE.out.below (allocB _ _))).mono ?_
  rintro e w2 ⟨rfl, b2⟩
  have C := Lib.hid (blink (allocB w _) b2)
  clear b2
  go_wp2_with fail
  go_ret
  exact ⟨rfl, C.out⟩

set_option maxHeartbeats 4000000 in
set_option maxRecDepth 100000 in
theorem iCheck_ok (v u1 u2 : Value) (S : List Int) (R : List (List Int)) (items parcels : List Int) (w : World) (hv : ReadsT w v S R) (hu1 : ReadsI w u1 items) (hu2 : ReadsI w u2 parcels) (k : TabOk S R) (hw1 : items.length ≤ 1048576) (hw2 : parcels.length ≤ 1048576) (a0 a1 a2 : Addr) (E : Errs3 w a0 a1 a2) :
    Calls Tryd.prog 29 #[v, u1, u2] w fun e w' => e = .returned (.tuple #[.bool (ckX S R items parcels), .int .i64 (ckC S R items)]) ∧ Below w.heap.size w w' := by
  obtain ⟨v1, v2, rfl, ⟨a, cap, rfl, ha⟩, ⟨b, c2, rfl, hb⟩⟩ := hv
  have H0 : Hid (ReadsT w (.agg #[.slice a S.length cap, .slice b R.length c2]) S R) := Lib.hid ⟨_, _, rfl, ⟨a, cap, rfl, ha⟩, ⟨b, c2, rfl, hb⟩⟩
  obtain ⟨r1, d1, rfl, hr1⟩ := hu1
  obtain ⟨r2, d2, rfl, hr2⟩ := hu2
  have HU1 : Hid (ReadsI w (.slice r1 items.length d1) items) := Lib.hid ⟨r1, d1, rfl, hr1⟩
  have HU2 : Hid (ReadsI w (.slice r2 parcels.length d2) parcels) := Lib.hid ⟨r2, d2, rfl, hr2⟩
  have HR1 := Lib.hid hr1
  have HR2 := Lib.hid hr2
  have HW1 := Lib.hid hw1
  have HW2 := Lib.hid hw2
  have K := Lib.hid k
  have HE := Lib.hid E
  obtain ⟨n, hn⟩ : ∃ n, items.length = n := ⟨_, rfl⟩
  obtain ⟨m, hm⟩ : ∃ m, parcels.length = m := ⟨_, rfl⟩
  have hnb : n ≤ 1048576 := by omega
  have hmb : m ≤ 1048576 := by omega
  rw [hn] at HU1 ⊢
  rw [hm] at HU2 ⊢
  have HN := Lib.hid hn
  have HM := Lib.hid hm
  clear ha hb hr1 hr2 hw1 hw2 k E hn hm
  by_cases hc : chk S R 0 items = 0
  · have HC := Lib.hid hc
    have HX := Lib.hid (ckX_0 parcels hc)
    have hs1 : 1 ≤ S.length := (vldS_spec (vldT_spec (chk_spec hc).1).1).1
    have HS1 := Lib.hid hs1
    clear hc hs1
    by_cases hlen : m = n
    · subst hlen
      by_cases hbt : betwB parcels 0 7 = true
      · have HBT := Lib.hid hbt
        clear hbt
        go_enter Tryd.func29, Tryd.ntmps29
        go_wp2_with fail
        refine (checkItems_any _ _ S R items a0 a1 a2 _ (H0.out.below (allocB _ _)) (HU1.out.below (allocB _ _)) K.out HW1.out (HE.out.below (allocB _ _))).mono ?_
        rintro e w2 ⟨rfl, b2⟩
        rw [HC.out, errOf_0]
        have q := (Blk2.new (w := w) rfl _ _ _).below b2
        have Q := Lib.hid q
        have C := Lib.hid (blink (allocB w _) b2)
        clear q b2
        go_wp2_with fail
        refine (withinI_any _ parcels 0 7 _ (HU2.out.below C.out) HW2.out).mono ?_
        rintro e w3 ⟨rfl, rfl⟩
        rw [HBT.out]
        go_wp2_with fail
        have HK0 : Hid (BlockI (w2.alloc (.cells #[.int .i64 0, .int .i64 0, .int .i64 0, .int .i64 0, .int .i64 0, .int .i64 0, .int .i64 0, .int .i64 0] 72)) w2.heap.size 72 zero8) := Lib.hid (BlockI.new w2 72 zero8)
        go_loopw [31] (fun i wr => ∃ q : Nat, q ≤ m ∧ i = .int .i64 q ∧ BlockI wr w2.heap.size 72 (ldK items parcels q) ∧ Below w2.heap.size w2 wr) (fun i _ => m - (intOf i).toNat)
        case atStart => exact ⟨0, Nat.zero_le _, rfl, HK0.out, allocB _ _⟩
        case round =>
          obtain ⟨q, hq, rfl, hbl, hnx⟩ := hrel
          have HB := Lib.hid hnx
          have HBL := Lib.hid hbl
          by_cases hlt : q < m
          · obtain ⟨gi, rfl, hci⟩ := HR1.out (by intro e; have := HN.out; rw [e] at this; simp at this; omega)
            obtain ⟨gp, rfl, hcp⟩ := HR2.out (by intro e; have := HM.out; rw [e] at this; simp at this; omega)
            have ci := hci.below (blink C.out hnx) q (by have := HN.out; omega)
            have cp := hcp.below (blink C.out hnx) q (by have := HM.out; omega)
            have hin := betwB_spec HBT.out q (by have := HM.out; omega)
            have HLS := Lib.hid (ldK_succ items parcels q)
            have HLL := Lib.hid (ldK_len items parcels q)
            obtain ⟨it, hit⟩ : ∃ it, items.getD q 0 = it := ⟨_, rfl⟩
            obtain ⟨p, hp⟩ : ∃ p, parcels.getD q 0 = p := ⟨_, rfl⟩
            rw [hit] at ci HLS
            rw [hp] at cp hin HLS
            clear hci hcp hnx hbl hit hp
            obtain ⟨pn, rfl⟩ : ∃ pn : Nat, p = pn := ⟨p.toNat, by omega⟩
            have hpn : pn < 8 := by omega
            have hpn2 : (pn : Int) < 8 := by omega
            have cl := HBL.out.cell pn (by rw [HLL.out]; exact hpn)
            have fl := HBL.out.frozen pn
            obtain ⟨L, hL⟩ : ∃ L, ldK items parcels q = L := ⟨_, rfl⟩
            rw [hL] at cl HLS HBL
            obtain ⟨y, hy⟩ : ∃ y, L.getD pn 0 = y := ⟨_, rfl⟩
            rw [hy] at cl
            have HNB : Hid (BlockI (wr.setCell ⟨w2.heap.size, pn, none⟩ (.int .i64 (wrap64 (y + it)))) w2.heap.size 72 (ldK items parcels (q + 1))) := Lib.hid (by
              rw [HLS.out, Int.toNat_natCast, addAt, hy]
              exact HBL.out.set pn _)
            clear hin hL hy
            go_wp2_with fail
            go_region
            go_wp2_with fail
            go_roundw
            case rel => exact ⟨q + 1, by omega, by go_num, HNB.out, (HB.out.setCell (Nat.le_refl _) _).drew⟩
            case measure => simp [intOf]; omega
          · have hq' : q = m := by omega
            have HLK : Hid (BlockI wr w2.heap.size 72 (ldK items parcels items.length)) := Lib.hid (by rw [HN.out, ← hq']; exact hbl)
            have g0 := (Q.out.below hnx).at0
            have g1 := (Q.out.below hnx).at1
            have C2 := Lib.hid (blink C.out hnx)
            have HLEN := Lib.hid (ldK_len items parcels items.length)
            clear hq' hbl hnx HBL
            go_wp2_with fail
            obtain ⟨wq, hwq⟩ : ∃ wq : World, wq = wr := ⟨_, rfl⟩
            rw [← hwq] at HLK C2 g0 g1 ⊢
            clear hwq
            have HRD : Hid (ReadsI wq (.slice (some ⟨w2.heap.size, 0, none⟩) 8 8) (ldK items parcels items.length)) := Lib.hid (by have h := HLK.out.reads; rw [HLEN.out] at h; exact h)
            have SD : wq.drew.cell? ⟨w.heap.size, 0, none⟩ = some (.slice a S.length cap) ∧ wq.drew.cell? ⟨w.heap.size, 1, none⟩ = some (.slice b R.length c2) ∧ Hid (Below wq.heap.size wq wq.drew) := ⟨g0, g1, Lib.hid (Below.refl _ _).drew⟩
            go_region_held3 (fun v => v.cell? ⟨w.heap.size, 0, none⟩ = some (.slice a S.length cap) ∧ v.cell? ⟨w.heap.size, 1, none⟩ = some (.slice b R.length c2) ∧ Hid (Below wq.heap.size wq v)) (first | exact SD | exact keepT1 (by assumption) (by assumption) | go_keep) (first | (go_at_call 56; refine (max_any _ (ldK items parcels items.length) _ (HRD.out.below (kb1 (by assumption))) (by rw [HLEN.out]; omega) (by rw [HLEN.out]; omega)).mono ?_; rintro e zq ⟨⟨mm, rfl, hmx⟩, rfl⟩; have HMX := Lib.hid hmx; clear hmx) | (go_at_call 57; refine (last_any _ S R _ (H0.out.below (blink C2.out (kb1 (by assumption)))) K.out HS1.out).mono ?_; rintro e zz ⟨rfl, b1⟩))
            have hS : zz.cell? ⟨w.heap.size, 0, none⟩ = some (.slice a S.length cap) ∧ zz.cell? ⟨w.heap.size, 1, none⟩ = some (.slice b R.length c2) ∧ Hid (Below wq.heap.size wq zz) := by assumption
            have C3 := Lib.hid (blink C2.out (kb1 hS))
            clear hS SD
            by_cases hle : mm ≤ lastS S
            · have t9 : decide (mm ≤ lastS S) = true := by simp; omega
              have HT := Lib.hid (ckB_true (S := S) (items := items) (parcels := parcels) (by rw [HM.out, HN.out]) HBT.out (fun i hi => by
                have h := HMX.out.1 i (by rw [HLEN.out]; exact hi)
                omega))
              rw [t9]
              go_wp2_with fail
              go_ret2
              exact ⟨ret_eq (by rw [HX.out, HT.out, ckC, HC.out]; rfl), C3.out⟩
            · have t9 : decide (mm ≤ lastS S) = false := by simp; omega
              have HT : Hid (ckB S items parcels = false) := Lib.hid (by
                obtain ⟨i, hi, he⟩ := HMX.out.2
                rw [HLEN.out] at hi
                exact ckB_bad hi (by rw [he]; exact hle))
              rw [t9]
              go_wp2_with fail
              go_ret2
              exact ⟨ret_eq (by rw [HX.out, HT.out, ckC, HC.out]; rfl), C3.out⟩
      · have HBT : Hid (betwB parcels 0 7 = false) := Lib.hid (by simpa using hbt)
        have HF := Lib.hid (ckB_num (S := S) (items := items) HBT.out)
        clear hbt
        go_enter Tryd.func29, Tryd.ntmps29
        go_wp2_with fail
        refine (checkItems_any _ _ S R items a0 a1 a2 _ (H0.out.below (allocB _ _)) (HU1.out.below (allocB _ _)) K.out HW1.out (HE.out.below (allocB _ _))).mono ?_
        rintro e w2 ⟨rfl, b2⟩
        rw [HC.out, errOf_0]
        have C := Lib.hid (blink (allocB w _) b2)
        clear b2
        go_wp2_with fail
        refine (withinI_any _ parcels 0 7 _ (HU2.out.below C.out) HW2.out).mono ?_
        rintro e w3 ⟨rfl, rfl⟩
        rw [HBT.out]
        go_wp2_with fail
        go_ret2
        exact ⟨ret_eq (by rw [HX.out, HF.out, ckC, HC.out]; rfl), C.out⟩
    · have t1 : ((m : Int) != (n : Int)) = true := by simp; omega
      have HF := Lib.hid (ckB_len (S := S) (items := items) (parcels := parcels) (by rw [HM.out, HN.out]; exact hlen))
      clear hlen
      go_enter Tryd.func29, Tryd.ntmps29
      go_wp2_with fail
      refine (checkItems_any _ _ S R items a0 a1 a2 _ (H0.out.below (allocB _ _)) (HU1.out.below (allocB _ _)) K.out HW1.out (HE.out.below (allocB _ _))).mono ?_
      rintro e w2 ⟨rfl, b2⟩
      rw [HC.out, errOf_0]
      have C := Lib.hid (blink (allocB w _) b2)
      clear b2
      go_wp2_with fail
      go_ret2
      exact ⟨ret_eq (by rw [HX.out, HF.out, ckC, HC.out]; rfl), C.out⟩
  · have HX := Lib.hid (ckX_c parcels hc)
    have HK : Hid (chk S R 0 items = 1 ∨ chk S R 0 items = 2 ∨ chk S R 0 items = 3) := Lib.hid (by rcases chk_cases S R 0 items with h | h | h | h; exact absurd h hc; exact .inl h; exact .inr (.inl h); exact .inr (.inr h))
    have HC := Lib.hid hc
    clear hc
    go_enter Tryd.func29, Tryd.ntmps29
    go_wp2_with fail
    refine (checkItems_any _ _ S R items a0 a1 a2 _ (H0.out.below (allocB _ _)) (HU1.out.below (allocB _ _)) K.out HW1.out (HE.out.below (allocB _ _))).mono ?_
    rintro e w2 ⟨rfl, b2⟩
    rw [errOf_ptr HC.out]
    have C := Lib.hid (blink (allocB w _) b2)
    clear b2
    go_wp2_with fail
    refine (code_of a0 a1 a2 _ HK.out _ (HE.out.below C.out)).mono ?_
    rintro e w4 ⟨rfl, rfl⟩
    go_wp2_with fail
    go_ret2
    exact ⟨ret_eq (by rw [HX.out, ckC]; rfl), C.out⟩
end Go.Proofs.YtkhemijanhcibaaDoor
