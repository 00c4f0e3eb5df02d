/-
  Loads of parcels, and the model's CheckParcels.
-/
import Derived.Test.YtkhemijanhcibaaDoorItems
import Derived.Test.YtkhemijanhcibaaDoorDearP
import Derived.BigRegion
namespace Go.Proofs.YtkhemijanhcibaaDoor
open Go Go.RowKit
set_option linter.unusedVariables false

theorem BlockI.below {W W' : World} {B : Nat} {T : TypeId} {L : List Int} (h : BlockI W B T L) (hb : Below W.heap.size W W') : BlockI W' B T L := by
  unfold BlockI; rw [hb.block B h.lt]; exact h
theorem BlockI.reads {W : World} {B : Nat} {T : TypeId} {L : List Int} (h : BlockI W B T L) : ReadsI W (.slice (some ⟨B, 0, none⟩) L.length L.length) L :=
  ⟨_, _, rfl, fun _ => ⟨B, rfl, fun i hi => h.cell i hi⟩⟩
def zero8 : List Int := [0, 0, 0, 0, 0, 0, 0, 0]
def addAt (L : List Int) (i : Nat) (x : Int) : List Int := L.set i (wrap64 (L.getD i 0 + x))
/-- The loads when k items have been put. -/
def ldK (items parcels : List Int) (k : Nat) : List Int := (List.range k).foldl (fun L i => addAt L (parcels.getD i 0).toNat (items.getD i 0)) zero8
theorem ldK_succ (items parcels : List Int) (k : Nat) : ldK items parcels (k + 1) = addAt (ldK items parcels k) (parcels.getD k 0).toNat (items.getD k 0) := by
  unfold ldK; rw [List.range_succ, List.foldl_append]; rfl
theorem ldK_len (items parcels : List Int) (k : Nat) : (ldK items parcels k).length = 8 := by
  induction k with
  | zero => rfl
  | succ k ih => rw [ldK_succ]; simp [addAt, ih]
/-- The first k loads are not too heavy. -/
def lightL (S L : List Int) (k : Nat) : Prop := ∀ i, i < k → L.getD i 0 ≤ lastS S
instance (S L : List Int) (k : Nat) : Decidable (lightL S L k) := inferInstanceAs (Decidable (∀ i, i < k → _))
def ckB (S items parcels : List Int) : Bool := decide (parcels.length = items.length ∧ betwB parcels 0 7 = true ∧ lightL S (ldK items parcels items.length) 8)
theorem ckB_true {S items parcels : List Int} (h : parcels.length = items.length) (h1 : betwB parcels 0 7 = true) (h2 : lightL S (ldK items parcels items.length) 8) : ckB S items parcels = true := decide_eq_true ⟨h, h1, h2⟩
theorem ckB_len {S items parcels : List Int} (h : parcels.length ≠ items.length) : ckB S items parcels = false := decide_eq_false fun k => h k.1
theorem ckB_num {S items parcels : List Int} (h : betwB parcels 0 7 = false) : ckB S items parcels = false := decide_eq_false fun k => by rw [h] at k; exact absurd k.2.1 (by simp)
theorem ckB_bad {S items parcels : List Int} {j : Nat} (hj : j < 8) (h : ¬ (ldK items parcels items.length).getD j 0 ≤ lastS S) : ckB S items parcels = false := decide_eq_false fun k => h (k.2.2 j hj)
/-- The answers of CheckParcels. -/
def ckX (S : List Int) (R : List (List Int)) (items parcels : List Int) : Bool := if chk S R 0 items = 0 then ckB S items parcels else false
def ckC (S : List Int) (R : List (List Int)) (items : List Int) : Int := chk S R 0 items
theorem ckX_0 {S : List Int} {R : List (List Int)} {items : List Int} (parcels : List Int) (h : chk S R 0 items = 0) : ckX S R items parcels = ckB S items parcels := if_pos h
theorem ckX_c {S : List Int} {R : List (List Int)} {items : List Int} (parcels : List Int) (h : chk S R 0 items ≠ 0) : ckX S R items parcels = false := if_neg h

set_option maxHeartbeats 4000000 in
set_option maxRecDepth 100000 in
theorem sCheck_ok (v u1 u2 : Value) (S : List Int) (R : List (List Int)) (items parcels : List Int) (w : World) (hv : ReadsT w v S R) (hu1 : ReadsI w u1 items) (hu2 : ReadsI w u2 parcels) (k : TabOk S R) (hw1 : items.length ≤ 1048576) (hw2 : parcels.length ≤ 1048576) :
    Calls Tryd.prog 28 #[v, u1, u2] w fun e w' => e = .returned (.tuple #[.bool (ckX S R items parcels), .int .i64 (ckC S R items)]) ∧ Below w.heap.size w w' := by
  obtain ⟨v1, v2, rfl, h1, h2⟩ := hv
  have H := Lib.hid (AtT.box (T := 29) h1 h2)
  obtain ⟨a1, c1, rfl, hr1⟩ := hu1
  obtain ⟨a2, c2, rfl, hr2⟩ := hu2
  have HU1 : Hid (ReadsI w (.slice a1 items.length c1) items) := Lib.hid ⟨a1, c1, rfl, hr1⟩
  have HR1 := Lib.hid hr1
  have HR2 := Lib.hid hr2
  have HW1 := Lib.hid hw1
  have K := Lib.hid k
  obtain ⟨n, hn⟩ : ∃ n, items.length = n := ⟨_, rfl⟩
  obtain ⟨m, hm⟩ : ∃ m, parcels.length = m := ⟨_, rfl⟩
  have hnb : n ≤ 1048576 := by omega
  have hmb : m ≤ 1048576 := by omega
  rw [hn] at HU1 ⊢
  rw [hm]
  have HN := Lib.hid hn
  have HM := Lib.hid hm
  clear h1 h2 hr1 hr2 hw1 hw2 k hn hm
  by_cases hc : chk S R 0 items = 0
  · have HC := Lib.hid hc
    have HX := Lib.hid (ckX_0 parcels hc)
    have hs1 : 1 ≤ S.length := (vldS_spec (vldT_spec (chk_spec hc).1).1).1
    have hlb := lastS_bound (vldT_spec (chk_spec hc).1).1
    have HS1 := Lib.hid hs1
    have HLB := Lib.hid hlb
    clear hc hs1 hlb
    by_cases hlen : m = n
    · subst hlen
      go_enter Tryd.func28, Tryd.ntmps28
      go_wp2_with fail
      refine (sitems_any w.heap.size _ S R 0 items _ H.out (HU1.out.below (allocB _ _)) K.out HW1.out).mono ?_
      rintro e w2 ⟨rfl, b2⟩
      rw [HC.out]
      have C := Lib.hid (blink (allocB w _) b2)
      have H2 := Lib.hid (H.out.below b2)
      clear b2
      go_wp2_with fail
      have HK0 : Hid (BlockI (w2.alloc (.cells #[.int .i64 0, .int .i64 0, .int .i64 0, .int .i64 0, .int .i64 0, .int .i64 0, .int .i64 0, .int .i64 0] 72)) w2.heap.size 72 zero8) := Lib.hid (BlockI.new w2 72 zero8)
      have HB0 : Hid (Below w2.heap.size w2 (w2.alloc (.cells #[.int .i64 0, .int .i64 0, .int .i64 0, .int .i64 0, .int .i64 0, .int .i64 0, .int .i64 0, .int .i64 0] 72))) := Lib.hid (allocB _ _)
      go_loopw [10] (fun i wr => ∃ q : Nat, q ≤ m ∧ i = .int .i64 q ∧ BlockI wr w2.heap.size 72 (ldK items parcels q) ∧ betw parcels 0 7 q ∧ Below w2.heap.size w2 wr) (fun i _ => m - (intOf i).toNat)
      case atStart => exact ⟨0, Nat.zero_le _, rfl, HK0.out, betw.zero _ _ _, HB0.out⟩
      case round =>
        obtain ⟨q, hq, rfl, hbl, hbw, hnx⟩ := hrel
        have HB := Lib.hid hnx
        have HBL := Lib.hid hbl
        have HBW := Lib.hid hbw
        by_cases hlt : q < m
        · obtain ⟨gi, rfl, hci⟩ := HR1.out (by intro e; have := HN.out; rw [e] at this; simp at this; omega)
          obtain ⟨gp, rfl, hcp⟩ := HR2.out (by intro e; have := HM.out; rw [e] at this; simp at this; omega)
          have ci := hci.below (blink C.out hnx) q (by have := HN.out; omega)
          have cp := hcp.below (blink C.out hnx) q (by have := HM.out; omega)
          have HST : Hid (0 ≤ parcels.getD q 0 ∧ parcels.getD q 0 ≤ 7 → betw parcels 0 7 (q + 1)) := Lib.hid HBW.out.succ
          have HBAD : Hid (¬ (0 ≤ parcels.getD q 0 ∧ parcels.getD q 0 ≤ 7) → ckB S items parcels = false) := Lib.hid (fun h => ckB_num (betwB_bad (k := q) (by have := HM.out; omega) h))
          have HLS := Lib.hid (ldK_succ items parcels q)
          have HLL := Lib.hid (ldK_len items parcels q)
          obtain ⟨it, hit⟩ : ∃ it, items.getD q 0 = it := ⟨_, rfl⟩
          obtain ⟨p, hp⟩ : ∃ p, parcels.getD q 0 = p := ⟨_, rfl⟩
          rw [hit] at ci HLS
          rw [hp] at cp HST HBAD HLS
          clear hci hcp hnx hbl hbw hit hp
          by_cases hin : 0 ≤ p ∧ p ≤ 7
          · obtain ⟨pn, rfl⟩ : ∃ pn : Nat, p = pn := ⟨p.toNat, by omega⟩
            have HIN := Lib.hid hin
            have T := Lib.hid (inB_true hin)
            have hpn : pn < 8 := by omega
            have hpn2 : (pn : Int) < 8 := by omega
            have cl := HBL.out.cell pn (by rw [HLL.out]; exact hpn)
            have fl := HBL.out.frozen pn
            obtain ⟨L, hL⟩ : ∃ L, ldK items parcels q = L := ⟨_, rfl⟩
            rw [hL] at cl HLS HBL
            obtain ⟨y, hy⟩ : ∃ y, L.getD pn 0 = y := ⟨_, rfl⟩
            rw [hy] at cl
            have HNB : Hid (BlockI (wr.setCell ⟨w2.heap.size, pn, none⟩ (.int .i64 (wrap64 (y + it)))) w2.heap.size 72 (ldK items parcels (q + 1))) := Lib.hid (by
              rw [HLS.out, Int.toNat_natCast, addAt, hy]
              exact HBL.out.set pn _)
            clear hin hL hy
            go_wp2_with fail
            refine (in_any _ 0 7 _).mono ?_
            rintro e w4 ⟨rfl, hw⟩
            subst hw
            rw [T.out]
            go_wp2_with fail
            go_region
            go_wp2_with fail
            go_roundw
            case rel => exact ⟨q + 1, by omega, by go_num, HNB.out, HST.out HIN.out, (HB.out.setCell (Nat.le_refl _) _).drew⟩
            case measure => simp [intOf]; omega
          · have HIN := Lib.hid hin
            have T := Lib.hid (inB_false hin)
            clear hin
            go_wp2_with fail
            refine (in_any _ 0 7 _).mono ?_
            rintro e w4 ⟨rfl, hw⟩
            subst hw
            rw [T.out]
            go_wp2_with fail
            go_ret2
            exact ⟨ret_eq (by rw [HX.out, HBAD.out HIN.out, ckC, HC.out]; rfl), blink C.out HB.out⟩
        · have hq' : q = m := by omega
          have HBB : Hid (betwB parcels 0 7 = true) := Lib.hid (betwB_true (by rw [HM.out, ← hq']; exact hbw))
          have HLK : Hid (BlockI wr w2.heap.size 72 (ldK items parcels items.length)) := Lib.hid (by rw [HN.out, ← hq']; exact hbl)
          have H3 := Lib.hid (H2.out.below hnx)
          clear hq' hbl hbw hnx HBL HBW
          go_wp2_with fail
          obtain ⟨wo, hwo⟩ : ∃ wo : World, wo = wr := ⟨_, rfl⟩
          rw [← hwo] at HLK H3 HB ⊢
          clear hwo
          go_loop [11] (fun i => ∃ j : Nat, j ≤ 8 ∧ i = .int .i64 j ∧ lightL S (ldK items parcels items.length) j) (fun i => 8 - (intOf i).toNat)
          case atStart => exact ⟨0, by omega, rfl, fun i hi => absurd hi (by omega)⟩
          case round =>
            obtain ⟨j, hj, rfl, hlg⟩ := hrel
            have HLG := Lib.hid hlg
            by_cases hlt : j < 8
            · have hj8 : (j : Int) < 8 := by omega
              have cl := HLK.out.cell j (by rw [ldK_len]; exact hlt)
              have HBAD : Hid (¬ (ldK items parcels items.length).getD j 0 ≤ lastS S → ckB S items parcels = false) := Lib.hid (ckB_bad hlt)
              have HST : Hid ((ldK items parcels items.length).getD j 0 ≤ lastS S → lightL S (ldK items parcels items.length) (j + 1)) := Lib.hid (fun h i hi => by
                by_cases e : i = j
                · subst e; exact h
                · exact HLG.out i (by omega))
              obtain ⟨x, hx⟩ : ∃ x, (ldK items parcels items.length).getD j 0 = x := ⟨_, rfl⟩
              rw [hx] at cl HBAD HST
              clear hx hlg
              by_cases hx0 : 0 < x
              · have t1 : decide (0 < x) = true := by simp; omega
                by_cases hs : stp S x < S.length
                · have HS := Lib.hid hs
                  have HLE : Hid (x ≤ lastS S) := Lib.hid (by
                    have h3 := stp_at S x hs
                    have h4 := rise_le_last (vldS_spec (vldT_spec (chk_spec HC.out).1).1).2.2 hs
                    omega)
                  have t2 : decide ((stp S x : Int) < 0) = false := by first | (simp; done) | (simp; omega)
                  clear hs
                  go_wp2_with fail
                  refine (sstep_any w.heap.size S R x _ H3.out K.out).mono ?_
                  rintro e w4 ⟨rfl, rfl⟩
                  rw [stpI_yes HS.out]
                  go_wp2_with fail
                  go_round
                  case rel => exact ⟨j + 1, by omega, by go_num, HST.out HLE.out⟩
                  case measure => simp [intOf]; omega
                · have HS := Lib.hid hs
                  have HLE : Hid (¬ x ≤ lastS S) := Lib.hid (fun h => hs (stp_last HS1.out h))
                  clear hs
                  go_wp2_with fail
                  refine (sstep_any w.heap.size S R x _ H3.out K.out).mono ?_
                  rintro e w4 ⟨rfl, rfl⟩
                  rw [stpI_no HS.out]
                  go_wp2_with fail
                  go_ret2
                  exact ⟨ret_eq (by rw [HX.out, HBAD.out HLE.out, ckC, HC.out]; rfl), blink C.out HB.out⟩
              · have t1 : decide (0 < x) = false := by simp; omega
                have HLE : Hid (x ≤ lastS S) := Lib.hid (by have := HLB.out; omega)
                go_wp2_with fail
                go_round
                case rel => exact ⟨j + 1, by omega, by go_num, HST.out HLE.out⟩
                case measure => simp [intOf]; omega
            · have hj' : j = 8 := by omega
              have HT := Lib.hid (ckB_true (S := S) (items := items) (parcels := parcels) (by rw [HM.out, HN.out]) HBB.out (by rw [← hj']; exact hlg))
              clear hj' hlg
              go_wp2_with fail
              go_ret2
              exact ⟨ret_eq (by rw [HX.out, HT.out, ckC, HC.out]; rfl), blink C.out HB.out⟩
    · have t1 : ((m : Int) != (n : Int)) = true := by simp; omega
      have HF := Lib.hid (ckB_len (S := S) (items := items) (parcels := parcels) (by rw [HM.out, HN.out]; exact hlen))
      clear hlen
      go_enter Tryd.func28, Tryd.ntmps28
      go_wp2_with fail
      refine (sitems_any w.heap.size _ S R 0 items _ H.out (HU1.out.below (allocB _ _)) K.out HW1.out).mono ?_
      rintro e w2 ⟨rfl, b2⟩
      rw [HC.out]
      have C := Lib.hid (blink (allocB w _) b2)
      clear b2
      go_wp2_with fail
      go_ret2
      exact ⟨ret_eq (by rw [HX.out, HF.out, ckC, HC.out]; rfl), C.out⟩
  · have HX := Lib.hid (ckX_c parcels hc)
    obtain ⟨c, hcc⟩ : ∃ c, chk S R 0 items = c := ⟨_, rfl⟩
    have t1 : (c != 0) = true := by rw [← hcc]; simpa using hc
    have HC := Lib.hid hcc
    clear hc hcc
    go_enter Tryd.func28, Tryd.ntmps28
    go_wp2_with fail
    refine (sitems_any w.heap.size _ S R 0 items _ H.out (HU1.out.below (allocB _ _)) K.out HW1.out).mono ?_
    rintro e w2 ⟨rfl, b2⟩
    rw [HC.out]
    have C := Lib.hid (blink (allocB w _) b2)
    clear b2
    go_wp2_with fail
    go_ret2
    exact ⟨ret_eq (by rw [HX.out, ckC, HC.out]; rfl), C.out⟩
end Go.Proofs.YtkhemijanhcibaaDoor
