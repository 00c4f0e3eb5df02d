/-
  The model's ArrivalsAt.
-/
import Derived.Test.YtkcbhipgdajdkaaCgS
import Derived.Test.YtkcbhipgdajdkaaAsI
namespace Go.Proofs.Ytkcbhipgdajdkaa
open Go Go.RowKit
set_option linter.unusedVariables false

def aaC (st sy : Int) (ps : List Lan) (x0 x1 y : Int) : Int := askC st sy ps (scB st x0 x1 && inB y 0 (st - 1))
noncomputable def aaR (st sy : Int) (ps : List Lan) (x0 x1 y : Int) : List Int := if aaC st sy ps x0 x1 y = 0 then hourTo (fun h => arrB ps (-1) sy x0 x1 y (h : Int)) 301 else []
theorem aaR_len (st sy : Int) (ps : List Lan) (x0 x1 y : Int) : (aaR st sy ps x0 x1 y).length ≤ 1048575 := by
  unfold aaR
  split
  · have := hourTo_len (fun h => arrB ps (-1) sy x0 x1 y (h : Int)) 301
    omega
  · simp
theorem own_ne {w : World} {B n k Bt : Nat} {T T' : TypeId} {v : Value} {xs : List Value} {cs : Array Value} (h : w.ownsRow B T n v k xs) (hb : BlkA w Bt T' cs) (hT : T ≠ T') : some Bt ≠ v.ownBlock := by
  rcases h.2 with ⟨rfl, _⟩ | ⟨g, cap, cur, rfl, hB, hg, rest⟩
  · intro e; cases e
  · intro e
    have e2 : Bt = g := by simpa [Value.ownBlock] using e
    subst e2
    have h1 : w.heap[Bt]? = some (.cells cs T' (0, 0)) := hb
    rw [h1] at hg
    simp only [Option.some.injEq, Obj.cells.injEq] at hg
    exact hT hg.2.1.symm
theorem stat_nat {st y : Int} (hst : st ≤ 8) (h : inB y 0 (st - 1) = true) : ∃ s : Nat, y = (s : Int) ∧ s < 8 := by
  have h1 : 0 ≤ y ∧ y ≤ st - 1 := by simpa [inB] using h
  exact ⟨y.toNat, by omega, by omega⟩

set_option maxHeartbeats 8000000 in
set_option maxRecDepth 100000 in
theorem saa_any (st sy : Int) (v : Value) (ps : List Lan) (x0 x1 y : Int) (w : World) (hn : FitN st sy ps) (hx : FitSc (x0, x1)) (hv : ReadsLa w v ps) :
    Calls Try.prog 37 #[netV st sy v, .agg #[.int .i8 x0, .int .i16 x1], .int .i64 y] w (RetL1 w.heap.size w (aaR st sy ps x0 x1 y) (aaC st sy ps x0 x1 y)) := by
  obtain ⟨i0, hi, hz0, hz1, hz2⟩ := info_parts info_i64
  have HV := Lib.hid hv
  have HST := Lib.hid hn.s
  have HN := Lib.hid hn
  have HX := Lib.hid hx
  obtain ⟨a, cap, rfl, ha⟩ := hv
  obtain ⟨len, hlen⟩ : ∃ m, ps.length = m := ⟨_, rfl⟩
  have HM := Lib.hid hlen
  have hb1 : Below w.heap.size w ((w.alloc (.cells #[.int .i8 st, .int .i16 sy, .slice a len cap] 31)).alloc (.cells #[.int .i8 x0, .int .i16 x1] 46)) := ((Below.refl _ _).alloc (Nat.le_refl _) _).alloc (by simp) _
  have BN : BlkA ((w.alloc (.cells #[.int .i8 st, .int .i16 sy, .slice a len cap] 31)).alloc (.cells #[.int .i8 x0, .int .i16 x1] 46)) w.heap.size 31 #[.int .i8 st, .int .i16 sy, .slice a len cap] := (BlkA.new rfl _ _).alloc _
  have BX : BlkA ((w.alloc (.cells #[.int .i8 st, .int .i16 sy, .slice a len cap] 31)).alloc (.cells #[.int .i8 x0, .int .i16 x1] 46)) (w.heap.size + 1) 46 #[.int .i8 x0, .int .i16 x1] := BlkA.new (by simp) _ _
  rw [hlen] at HV ⊢
  clear ha hlen hn hx
  obtain ⟨W0, hW0⟩ : ∃ W, ((w.alloc (.cells #[.int .i8 st, .int .i16 sy, .slice a len cap] 31)).alloc (.cells #[.int .i8 x0, .int .i16 x1] 46)) = W := ⟨_, rfl⟩
  rw [hW0] at hb1 BN BX
  have hs0 : W0.heap.size = w.heap.size + 1 + 1 := by rw [← hW0]; simp
  have hown0 : (W0.alloc (.cells #[] 2)).ownsRow W0.heap.size 2 1 (.slice (some ⟨W0.heap.size, 0, none⟩) 0 0) 0 [] := World.ownsRow_made W0 #[] 0 (Nat.le_refl _) (Nat.zero_le _) rfl
  have b2 : Below W0.heap.size W0 (W0.alloc (.cells #[] 2)) := (Below.refl _ _).alloc (Nat.le_refl _) _
  obtain ⟨W1, hW⟩ : ∃ W, W0.alloc (.cells #[] 2) = W := ⟨_, rfl⟩
  rw [hW] at hown0 b2
  have HB1 := Lib.hid (blink hb1 b2)
  have HBN := Lib.hid (BN.below b2)
  have HBX := Lib.hid (BX.below b2)
  rw [hs0] at hown0
  have HO1 := Lib.hid hown0
  rw [← hW0] at hW
  have HW := Lib.hid hW
  clear hW hW0 hb1 BN BX b2 hown0 hs0
  go_enter Try.func37, Try.ntmps37
  go_wp2_with fail
  rw [HW.out]
  refine (sscan_any w.heap.size st sy (.slice a len cap) x0 x1 W1 HST.out HX.out HBN.out).mono ?_
  rintro e w2 ⟨rfl, b2⟩
  have HB2 := Lib.hid b2
  have HN2 := Lib.hid (HBN.out.below b2)
  have HV2 := Lib.hid (HV.out.below (blink HB1.out b2))
  have HCG : Hid (∀ c, askC st sy ps (scB st x0 x1 && inB y 0 (st - 1)) = c → aaC st sy ps x0 x1 y = c) := Lib.hid (fun c h => h)
  obtain ⟨p, hp⟩ : ∃ p, scB st x0 x1 = p := ⟨_, rfl⟩
  obtain ⟨q, hq⟩ : ∃ q, inB y 0 (st - 1) = q := ⟨_, rfl⟩
  have HP := Lib.hid hp
  have HQ := Lib.hid hq
  rw [hp, hq] at HCG
  rw [hp]
  clear hp hq b2
  cases p with
  | false =>
    go_wp2_with fail
    refine (sasked_any w.heap.size st sy (.slice a len cap) ps false w2 HN.out HV2.out HN2.out).mono ?_
    rintro e w3 ⟨rfl, b3⟩
    have HB3 := Lib.hid (blink (blink HB1.out HB2.out) b3)
    have HO3 : Hid (OwnI (w.heap.size + 1 + 1) w3 (.slice (some ⟨w.heap.size + 1 + 1, 0, none⟩) 0 0) []) := Lib.hid (show OwnI _ _ _ [] from ownRow_below (ownRow_below HO1.out HB2.out) b3)
    obtain ⟨c, hc⟩ : ∃ c, askC st sy ps false = c := ⟨_, rfl⟩
    have HCD : Hid (aaC st sy ps x0 x1 y = c) := Lib.hid (HCG.out c (by rw [Bool.false_and]; exact hc))
    have hne : c ≠ 0 := fun h => by have := (askC_ok (hc.trans h)).2; cases this
    have HR : Hid (aaR st sy ps x0 x1 y = []) := Lib.hid (if_neg (by rw [HCD.out]; exact hne))
    rw [hc]
    have t0 : (c == 0) = false := by simp [hne]
    have t1 : (c != 0) = true := by simp [hne]
    clear hc hne b3
    go_wp2_with fail
    go_ret2
    exact ⟨_, ret_pair HCD.out.symm, by rw [HR.out]; exact HO3.out.mono (by omega), HB3.out⟩
  | true =>
    go_wp2_with fail
    refine (sstat_any w.heap.size 31 st sy (.slice a len cap) y _ HST.out HN2.out).mono ?_
    rintro e w3 ⟨rfl, rfl⟩
    rw [HQ.out]
    go_wp2_with fail
    refine (sasked_any w.heap.size st sy (.slice a len cap) ps q w2 HN.out HV2.out HN2.out).mono ?_
    rintro e w4 ⟨rfl, b4⟩
    have HB4 := Lib.hid (blink HB2.out b4)
    have HN4 := Lib.hid (HN2.out.below b4)
    have HV4 := Lib.hid (HV2.out.below b4)
    have HO4 := Lib.hid (ownRow_below HO1.out HB4.out)
    obtain ⟨c, hc⟩ : ∃ c, askC st sy ps q = c := ⟨_, rfl⟩
    have HCD : Hid (aaC st sy ps x0 x1 y = c) := Lib.hid (HCG.out c (by rw [Bool.true_and]; exact hc))
    have HC := Lib.hid hc
    rw [hc]
    have bx4 := HBX.out.below HB4.out
    have c0 : w4.cell? ⟨w.heap.size + 1, 0, none⟩ = some (.int .i8 x0) := bx4.at 0
    have c1 : w4.cell? ⟨w.heap.size + 1, 1, none⟩ = some (.int .i16 x1) := bx4.at 1
    have HZ := Lib.hid (blink HB1.out HB4.out)
    clear hc b4 bx4
    by_cases h0 : c = 0
    rotate_left
    · have t0 : (c == 0) = false := by simp [h0]
      have t1 : (c != 0) = true := by simp [h0]
      have HR : Hid (aaR st sy ps x0 x1 y = []) := Lib.hid (if_neg (by rw [HCD.out]; exact h0))
      clear h0
      go_wp2_with fail
      go_ret2
      exact ⟨_, ret_pair HCD.out.symm, by rw [HR.out]; exact (show OwnI _ _ _ [] from HO4.out).mono (by omega), HZ.out⟩
    subst h0
    have HOK : Hid (okNet st sy ps) := Lib.hid (vldN_spec (askC_ok HC.out).1)
    have HQT : Hid (q = true) := Lib.hid (askC_ok HC.out).2
    go_wp2_with fail
    obtain ⟨sn, yn, rfl, rfl⟩ := net_nat HOK.out
    obtain ⟨s0, h0, rfl, rfl, hs0, hh0⟩ := scan_nats HOK.out.1.2 HP.out
    obtain ⟨s, rfl, hs8⟩ := stat_nat HOK.out.1.2 (HQ.out.trans HQT.out)
    refine (sbehind_any w.heap.size sn yn (.slice a len cap) ps s0 h0 (-1) HOK.out hs0 hh0 (by omega) w4 HV4.out HN4.out).mono ?_
    rintro e w5 ⟨Bt, rfl, hBt, ⟨cs, A, bt, hT, hA⟩, b5⟩
    have HBT := Lib.hid bt
    have HT := Lib.hid hT
    have HRES : Hid (aaR (sn : Int) (yn : Int) ps s0 h0 s = hourTo (fun h => A s h) 301) := Lib.hid (by
      unfold aaR
      rw [if_pos HCD.out]
      exact hourTo_congr fun i hi => (arrB_of (by simpa using hA s i hs8 (by omega))).symm)
    have HZ5 := Lib.hid (blink HZ.out b5)
    have HO5 := Lib.hid (ownRow_below HO4.out b5)
    have hs8i : (s : Int) < 8 := by omega
    have hBt2 : w.heap.size + 1 + 1 < Bt := by
      have h2 := (HO4.out.lt (w.heap.size + 1 + 1) rfl).2
      omega
    clear bt hT hA b5 hBt c0 c1
    go_wp2_with fail
    go_loopw [8, 11] (fun g i wr => ∃ k : Nat, k ≤ 301 ∧ i = .int .i64 k ∧ wr.ownsRow (w.heap.size + 1 + 1) 2 1 g (hourTo (fun h => A s h) k).length ((hourTo (fun h => A s h) k).map (Value.int .i64)) ∧ BlkA wr Bt 134 cs ∧ Below w.heap.size w wr) (fun _ i _ => 301 - (intOf i).toNat)
    case atStart => exact ⟨0, by omega, rfl, HO5.out, HBT.out, HZ5.out⟩
    case round =>
      obtain ⟨k, hk, rfl, hown, bx, hnx⟩ := hrel
      have hww : Bt < wr.heap.size := bx.lt
      have hwz : w.heap.size + 1 + 1 ≤ wr.heap.size := by omega
      have hkl := hourTo_len (fun h => A s h) k
      by_cases hlt : k < 301
      · have t0 : decide ((k : Int) ≤ 300) = true := decide_eq_true (by omega)
        have hk3 : (k : Int) < 301 := by omega
        have z0 : wr.cell? ⟨Bt, s * 301 + k, none⟩ = some (.bool (A s k)) := (bx.at _).trans (HT.out.at' s k hs8 (by omega))
        have HYES : Hid (A s k = true → hourTo (fun h => A s h) (k + 1) = hourTo (fun h => A s h) k ++ [(k : Int)]) := Lib.hid (fun h => hourTo_yes (p := fun h => A s h) h)
        have HNO : Hid (A s k = false → hourTo (fun h => A s h) (k + 1) = hourTo (fun h => A s h) k) := Lib.hid (fun h => hourTo_no (p := fun h => A s h) h)
        have HNE := Lib.hid (own_ne hown bx (by decide))
        have HBX5 := Lib.hid bx
        have HN0 := Lib.hid hnx
        obtain ⟨bv, hbv⟩ : ∃ bv, A s k = bv := ⟨_, rfl⟩
        rw [hbv] at z0
        clear bx hnx
        cases bv with
        | true =>
          have HG := Lib.hid (HYES.out hbv)
          clear hbv HYES HNO
          go_wp2_with (at_builtin; refine wpList_append_own _ rfl _ _ 36 rfl (w.heap.size + 1 + 1) 2 i0 (.int .i64 0) 1 8 Try.underlying36 hi hz0 hz1 hz2 rfl (by decide) _ _ _ rfl (hown.alloc _) ⟨wr.heap.size, 0, none⟩ 1 1 [.int .i64 k] rfl rfl (cell_one_new _ _ _) (ints_oneCell .i64 [(k : Int)]) ?c3 ?c4 ?c5 ?_)
          case c3 => unfold maxLen; omega
          case c4 => omega
          case c5 => first | omega | (simp; omega)
          intro v' w3 hown' hgrow _
          have HO' : Hid (w3.ownsRow (w.heap.size + 1 + 1) 2 1 v' (hourTo (fun h => A s h) (k + 1)).length ((hourTo (fun h => A s h) (k + 1)).map (Value.int .i64))) := Lib.hid (by
            rw [HG.out, List.map_append, List.length_append]; exact hown')
          have HB' : Hid (Below w.heap.size w w3) := Lib.hid ((HN0.out.alloc (by omega) _).grown hgrow (by simp; omega) (fun j hj => by have := (hown.lt j hj).1; omega))
          have HX' : Hid (BlkA w3 Bt 134 cs) := Lib.hid ((hgrow.block _ (by simp; omega) HNE.out).trans (BlkA.alloc HBX5.out _))
          clear hown' hgrow hown z0
          go_wp2
          go_roundw
          case rel => exact ⟨k + 1, by omega, by go_num, HO'.out, HX'.out, HB'.out⟩
          case measure => simp [intOf]; omega
        | false =>
          have HG := Lib.hid (HNO.out hbv)
          have HO2 := Lib.hid hown
          clear hbv HYES HNO hown
          go_wp2_with fail
          go_roundw
          case rel => exact ⟨k + 1, by omega, by go_num, by rw [HG.out]; exact HO2.out, HBX5.out, HN0.out⟩
          case measure => simp [intOf]; omega
      · have hk' : k = 301 := by omega
        have t0 : decide ((k : Int) ≤ 300) = false := decide_eq_false (by omega)
        have HO2 : Hid (OwnI (w.heap.size + 1 + 1) wr _ (aaR (sn : Int) (yn : Int) ps s0 h0 s)) := Lib.hid (by rw [HRES.out, ← hk']; exact hown)
        have HN0 := Lib.hid hnx
        clear hk' hown hnx bx
        go_wp2_with fail
        go_ret2
        exact ⟨_, ret_pair HCD.out.symm, HO2.out.mono (by omega), HN0.out⟩
end Go.Proofs.Ytkcbhipgdajdkaa
