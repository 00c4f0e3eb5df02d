/-
  'FnExactEarliestAt' answers true at every input, and leaves all memory that was there as it was. Conditions: none beyond the row's own.
-/
import Derived.Test.YtloelbaaolhlhaaRows
import Derived.ProofKit
import Derived.OpenShut
import Derived.ShutString
import Derived.ChangeOld
import Derived.Below
import Derived.Deep.SlicePairs
import Derived.Lib.SmallJoins
import Derived.Test.YtloelbaaolhlhaaONet
import Derived.Test.YtloelbaaolhlhaaEaP
import Derived.Test.YtloelbaaolhlhaaAvI
import Derived.Test.YtloelbaaolhlhaaRelI
import Derived.Test.YtloelbaaolhlhaaStI
import Derived.OwnWalkIn
import Derived.Test.YtloelbaaolhlhaaNtA
import Derived.Test.YtloelbaaolhlhaaTScan
import Derived.Test.YtloelbaaolhlhaaToI
import Derived.Test.YtloelbaaolhlhaaKeepO
/-
  The model's EarliestAt.
-/
namespace Go.Proofs.Ytloelbaaolhlhaa
open Go Go.RowKit
set_option linter.unusedVariables false

theorem eaR_len (st sy : Int) (ps : List Lan) (x0 x1 : Int) : (eaR st sy ps x0 x1).length ≤ 1048575 := by
  unfold eaR
  split
  · rename_i h
    have h1 := (vldN_spec (askC_ok h).1).1
    simp; omega
  · simp

set_option maxHeartbeats 8000000 in
set_option maxRecDepth 100000 in
theorem sea_any (st sy : Int) (v : Value) (ps : List Lan) (x0 x1 : Int) (w : World) (hn : FitN st sy ps) (hx : FitSc (x0, x1)) (hv : ReadsLa w v ps) :
    Calls Try.prog 15 #[netV st sy v, .agg #[.int .i8 x0, .int .i16 x1]] w (RetL1 w.heap.size w (eaR st sy ps x0 x1) (eaC st sy ps x0 x1)) := by
  obtain ⟨i0, hi, hz0, hz1, hz2⟩ := info_parts info_i64
  have HV := Lib.hid hv
  have HST := Lib.hid hn.s
  have HN := Lib.hid hn
  have HX := Lib.hid hx
  obtain ⟨a, cap, rfl, ha⟩ := hv
  obtain ⟨len, hlen⟩ : ∃ m, ps.length = m := ⟨_, rfl⟩
  have HM := Lib.hid hlen
  have hb1 : Below w.heap.size w ((w.alloc (.cells #[.int .i8 st, .int .i16 sy, .slice a len cap] 35)).alloc (.cells #[.int .i8 x0, .int .i16 x1] 37)) := ((Below.refl _ _).alloc (Nat.le_refl _) _).alloc (by simp) _
  have BN : BlkA ((w.alloc (.cells #[.int .i8 st, .int .i16 sy, .slice a len cap] 35)).alloc (.cells #[.int .i8 x0, .int .i16 x1] 37)) w.heap.size 35 #[.int .i8 st, .int .i16 sy, .slice a len cap] := (BlkA.new rfl _ _).alloc _
  have BX : BlkA ((w.alloc (.cells #[.int .i8 st, .int .i16 sy, .slice a len cap] 35)).alloc (.cells #[.int .i8 x0, .int .i16 x1] 37)) (w.heap.size + 1) 37 #[.int .i8 x0, .int .i16 x1] := BlkA.new (by simp) _ _
  rw [hlen] at HV ⊢
  clear ha hlen hn hx
  obtain ⟨W0, hW0⟩ : ∃ W, ((w.alloc (.cells #[.int .i8 st, .int .i16 sy, .slice a len cap] 35)).alloc (.cells #[.int .i8 x0, .int .i16 x1] 37)) = W := ⟨_, rfl⟩
  rw [hW0] at hb1 BN BX
  have hs0 : W0.heap.size = w.heap.size + 1 + 1 := by rw [← hW0]; simp
  have hown0 : (W0.alloc (.cells #[] 2)).ownsRow W0.heap.size 2 1 (.slice (some ⟨W0.heap.size, 0, none⟩) 0 0) 0 [] := World.ownsRow_made W0 #[] 0 (Nat.le_refl _) (Nat.zero_le _) rfl
  have b2 : Below W0.heap.size W0 (W0.alloc (.cells #[] 2)) := (Below.refl _ _).alloc (Nat.le_refl _) _
  obtain ⟨W1, hW⟩ : ∃ W, W0.alloc (.cells #[] 2) = W := ⟨_, rfl⟩
  rw [hW] at hown0 b2
  have HB1 := Lib.hid (blink hb1 b2)
  have HBN := Lib.hid (BN.below b2)
  have HBX := Lib.hid (BX.below b2)
  rw [hs0] at hown0
  have HO1 := Lib.hid hown0
  rw [← hW0] at hW
  have HW := Lib.hid hW
  clear hW hW0 hb1 BN BX b2 hown0 hs0
  go_enter Try.func15, Try.ntmps15
  go_wp2_with fail
  rw [HW.out]
  refine (sscan_any w.heap.size st sy (.slice a len cap) x0 x1 W1 HST.out HX.out HBN.out).mono ?_
  rintro e w2 ⟨rfl, b2⟩
  have HB2 := Lib.hid b2
  have HN2 := Lib.hid (HBN.out.below b2)
  have HV2 := Lib.hid (HV.out.below (blink HB1.out b2))
  obtain ⟨q, hq⟩ : ∃ q, scB st x0 x1 = q := ⟨_, rfl⟩
  have HP := Lib.hid hq
  have HCG : Hid (∀ c, askC st sy ps q = c → eaC st sy ps x0 x1 = c) := Lib.hid (fun c h => by rw [← hq] at h; exact h)
  rw [hq]
  clear hq b2
  go_wp2_with fail
  refine (sasked_any w.heap.size st sy (.slice a len cap) ps q w2 HN.out HV2.out HN2.out).mono ?_
  rintro e w4 ⟨rfl, b4⟩
  have HB4 := Lib.hid (blink HB2.out b4)
  have HN4 := Lib.hid (HN2.out.below b4)
  have HV4 := Lib.hid (HV2.out.below b4)
  have HO4 := Lib.hid (ownRow_below HO1.out HB4.out)
  obtain ⟨c, hc⟩ : ∃ c, askC st sy ps q = c := ⟨_, rfl⟩
  have HCD : Hid (eaC st sy ps x0 x1 = c) := Lib.hid (HCG.out c hc)
  have HC := Lib.hid hc
  rw [hc]
  have bx4 := HBX.out.below HB4.out
  have HX4 := Lib.hid bx4
  have c0 : w4.cell? ⟨w.heap.size + 1, 0, none⟩ = some (.int .i8 x0) := bx4.at 0
  have c1 : w4.cell? ⟨w.heap.size + 1, 1, none⟩ = some (.int .i16 x1) := bx4.at 1
  have HZ := Lib.hid (blink HB1.out HB4.out)
  clear hc b4 bx4
  by_cases h0 : c = 0
  rotate_left
  · have t0 : (c == 0) = false := by simp [h0]
    have t1 : (c != 0) = true := by simp [h0]
    have HR : Hid (eaR st sy ps x0 x1 = []) := Lib.hid (if_neg (by rw [HCD.out]; exact h0))
    clear h0
    go_wp2_with fail
    go_ret2
    exact ⟨_, ret_pair HCD.out.symm, by rw [HR.out]; exact (show OwnI _ _ _ [] from HO4.out).mono (by omega), HZ.out⟩
  subst h0
  have HOK : Hid (okNet st sy ps) := Lib.hid (vldN_spec (askC_ok HC.out).1)
  have HQT : Hid (q = true) := Lib.hid (askC_ok HC.out).2
  go_wp2_with fail
  obtain ⟨sn, yn, rfl, rfl⟩ := net_nat HOK.out
  obtain ⟨s0, h0, rfl, rfl, hs0, hh0⟩ := scan_nats HOK.out.1.2 (HP.out.trans HQT.out)
  refine (sbehind_any w.heap.size sn yn (.slice a len cap) ps s0 h0 (-1) HOK.out hs0 hh0 (by omega) w4 HV4.out HN4.out).mono ?_
  rintro e w5 ⟨Bt, rfl, hBt, ⟨cs, A, bt, hT, hA⟩, b5⟩
  have hsn8 : sn ≤ 8 := by have := HOK.out.1.2; omega
  have HBT := Lib.hid bt
  have HT := Lib.hid hT
  have HPP : Hid (∀ s h, s < 8 → h ≤ 300 → eaP (yn : Int) ps s0 h0 s h = (A s h || decide ((h : Int) = (h0 : Int) ∧ (s : Int) = (s0 : Int)))) := Lib.hid (fun s h hs hh => by
    unfold eaP
    rw [← arrB_of (r := A s h) (by simpa using hA s h hs hh)])
  have HRES : Hid (eaR (sn : Int) (yn : Int) ps s0 h0 = (List.range sn).map (fun s => frst (eaP (yn : Int) ps s0 h0 s))) := Lib.hid (by
    unfold eaR
    rw [if_pos HCD.out, Int.toNat_natCast])
  have HZ5 := Lib.hid (blink HZ.out b5)
  have HN5 := Lib.hid (HN4.out.below b5)
  have HX5 := Lib.hid (HX4.out.below b5)
  have HO5 := Lib.hid (ownRow_below HO4.out b5)
  have hBt2 : w.heap.size + 1 + 1 < Bt := by
    have h2 := (HO4.out.lt (w.heap.size + 1 + 1) rfl).2
    omega
  clear bt hT hA b5 hBt c0 c1
  go_wp2_with fail
  go_loopw [6, 9] (fun g i wr => ∃ k : Nat, k ≤ sn ∧ i = .int .i64 k ∧ wr.ownsRow (w.heap.size + 1 + 1) 2 1 g ((List.range k).map (fun s => frst (eaP (yn : Int) ps s0 h0 s))).length (((List.range k).map (fun s => frst (eaP (yn : Int) ps s0 h0 s))).map (Value.int .i64)) ∧ BlkA wr Bt 136 cs ∧ BlkA wr w.heap.size 35 #[.int .i8 (sn : Int), .int .i16 (yn : Int), .slice a len cap] ∧ BlkA wr (w.heap.size + 1) 37 #[.int .i8 (s0 : Int), .int .i16 (h0 : Int)] ∧ Below w.heap.size w wr) (fun _ i _ => sn - (intOf i).toNat)
  case atStart => exact ⟨0, by omega, rfl, HO5.out, HBT.out, HN5.out, HX5.out, HZ5.out⟩
  case round =>
    obtain ⟨k, hk, rfl, hown, bx, bn, bs, hnx⟩ := hrel
    obtain ⟨wq, rfl⟩ : ∃ V, V = wr := ⟨wr, rfl⟩
    obtain ⟨ls, hls⟩ : ∃ ls, (List.range k).map (fun s => frst (eaP (yn : Int) ps s0 h0 s)) = ls := ⟨_, rfl⟩
    have hkl : ls.length = k := by rw [← hls]; simp
    rw [hls] at hown
    have HLS := Lib.hid hls
    have hww : Bt < wq.heap.size := bx.lt
    have n0 : wq.cell? ⟨w.heap.size, 0, none⟩ = some (.int .i8 (sn : Int)) := bn.at 0
    have HBX5 := Lib.hid bx
    have HBN := Lib.hid bn
    have HBS := Lib.hid bs
    have HN0 := Lib.hid hnx
    have HOW := Lib.hid hown
    clear bx bn bs hnx hown hls
    by_cases hlt : k < sn
    · have tk : decide ((k : Int) < (sn : Int)) = true := decide_eq_true (by omega)
      have hk8 : (k : Int) < 8 := by omega
      have HG : Hid ((List.range (k + 1)).map (fun s => frst (eaP (yn : Int) ps s0 h0 s)) = ls ++ [bst (eaP (yn : Int) ps s0 h0 k) 301]) := Lib.hid (by rw [List.range_succ, List.map_append, HLS.out, bst_frst]; rfl)
      have HPK : Hid (∀ h, h ≤ 300 → eaP (yn : Int) ps s0 h0 k h = (A k h || decide ((h : Int) = (h0 : Int) ∧ (k : Int) = (s0 : Int)))) := Lib.hid (fun h hh => HPP.out k h (by omega) hh)
      obtain ⟨p, hp⟩ : ∃ p, eaP (yn : Int) ps s0 h0 k = p := ⟨_, rfl⟩
      rw [hp] at HG HPK
      clear hp
      go_wp2_with fail
      go_loopw [10, 11] (fun b i wr => ∃ m : Nat, m ≤ 301 ∧ i = .int .i64 ((m : Int) - 1) ∧ b = .int .i64 (bst p (301 - m)) ∧ wr = wq) (fun _ i _ => (intOf i + 1).toNat)
      case atStart => exact ⟨301, by omega, rfl, rfl, rfl⟩
      case round =>
        obtain ⟨m, hm, rfl, rfl, hwr⟩ := hrel
        have hwr2 := hwr.symm
        clear hwr
        subst hwr2
        rcases m with _ | h
        · have HO2 := Lib.hid (own_ne HOW.out HBX5.out (by decide))
          have hown := HOW.out
          rw [show bst p (301 - 0) = bst p 301 from rfl]
          obtain ⟨z, hz⟩ : ∃ z, bst p 301 = z := ⟨_, rfl⟩
          rw [hz] at HG ⊢
          have th : decide (((0 : Nat) : Int) - 1 ≥ 0) = false := by decide
          have hwz : w.heap.size + 1 + 1 ≤ wq.heap.size := by omega
          clear hz
          go_wp2_with (at_builtin; refine wpList_append_own _ rfl _ _ 30 rfl (w.heap.size + 1 + 1) 2 i0 (.int .i64 0) 1 8 Try.underlying30 hi hz0 hz1 hz2 rfl (by decide) _ _ _ rfl (hown.alloc _) ⟨wq.heap.size, 0, none⟩ 1 1 [.int .i64 z] rfl rfl (cell_one_new _ _ _) (ints_oneCell .i64 [z]) ?c3 ?c4 ?c5 ?_)
          case c3 => unfold maxLen; omega
          case c4 => omega
          case c5 => first | omega | (simp; omega)
          intro v' w3 hown' hgrow _
          have HO' : Hid (w3.ownsRow (w.heap.size + 1 + 1) 2 1 v' ((List.range (k + 1)).map (fun s => frst (eaP (yn : Int) ps s0 h0 s))).length (((List.range (k + 1)).map (fun s => frst (eaP (yn : Int) ps s0 h0 s))).map (Value.int .i64))) := Lib.hid (by
            rw [HG.out, List.map_append, List.length_append, hkl]; exact hown')
          have HB' : Hid (Below w.heap.size w w3) := Lib.hid ((HN0.out.alloc (by omega) _).grown hgrow (by simp; omega) (fun j hj => by have := (hown.lt j hj).1; omega))
          have HX' : Hid (BlkA w3 Bt 136 cs) := Lib.hid ((hgrow.block _ (by simp; omega) HO2.out).trans (BlkA.alloc HBX5.out _))
          have HN' : Hid (BlkA w3 w.heap.size 35 #[.int .i8 (sn : Int), .int .i16 (yn : Int), .slice a len cap]) := Lib.hid ((hgrow.block _ (by simp; omega) (fun e => by have := (hown.lt _ e.symm).1; omega)).trans (BlkA.alloc HBN.out _))
          have HS' : Hid (BlkA w3 (w.heap.size + 1) 37 #[.int .i8 (s0 : Int), .int .i16 (h0 : Int)]) := Lib.hid ((hgrow.block _ (by simp; omega) (fun e => by have := (hown.lt _ e.symm).1; omega)).trans (BlkA.alloc HBS.out _))
          clear hown' hgrow hown
          go_wp2
          go_roundw
          case rel => exact ⟨k + 1, by omega, by go_num, HO'.out, HX'.out, HN'.out, HS'.out, HB'.out⟩
          case measure => simp [intOf]; omega
        · have e1 : ((h + 1 : Nat) : Int) - 1 = (h : Int) := by omega
          rw [e1]
          clear e1
          have th : decide ((h : Int) ≥ 0) = true := decide_eq_true (by omega)
          have hh3 : (h : Int) < 301 := by omega
          have hj : 300 - (300 - h) = h := by omega
          have hj1 : 300 - h + 1 = 301 - h := by omega
          have hj2 : 300 - h = 301 - (h + 1) := by omega
          have HYES : Hid (p h = true → bst p (301 - h) = (h : Int)) := Lib.hid (fun hp => by
            have := bst_yes (p := p) (j := 300 - h) (by rw [hj]; exact hp)
            rw [hj, hj1] at this; exact this)
          have HNO : Hid (p h = false → bst p (301 - h) = bst p (301 - (h + 1))) := Lib.hid (fun hp => by
            have := bst_no (p := p) (j := 300 - h) (by rw [hj]; exact hp)
            rw [hj1, hj2] at this; exact this)
          have HPH := Lib.hid (HPK.out h (by omega))
          have z0 : wq.cell? ⟨Bt, k * 301 + h, none⟩ = some (.bool (A k h)) := (HBX5.out.at _).trans (HT.out.at' k h (by omega) (by omega))
          have c0 : wq.cell? ⟨w.heap.size + 1, 0, none⟩ = some (.int .i8 (s0 : Int)) := HBS.out.at 0
          have c1 : wq.cell? ⟨w.heap.size + 1, 1, none⟩ = some (.int .i16 (h0 : Int)) := HBS.out.at 1
          obtain ⟨bo, hbo⟩ : ∃ bo, bst p (301 - (h + 1)) = bo := ⟨_, rfl⟩
          rw [hbo] at HNO ⊢
          obtain ⟨bv, hbv⟩ : ∃ bv, A k h = bv := ⟨_, rfl⟩
          rw [hbv] at z0 HPH
          clear hbv hbo hj hj1 hj2
          cases bv with
          | true =>
            have HR := Lib.hid (HYES.out (by rw [HPH.out]; rfl))
            clear HYES HNO
            go_wp2_with fail
            go_roundw
            case rel => exact ⟨h, by omega, by go_num, by rw [HR.out], (by first | rfl | trivial)⟩
            case measure => simp [intOf]
          | false =>
            by_cases e1 : (h : Int) = (h0 : Int)
            · have u1 : ((h : Int) == (h0 : Int)) = true := by simp [e1]
              by_cases e2 : (k : Int) = (s0 : Int)
              · have u2 : ((k : Int) == (s0 : Int)) = true := by simp [e2]
                have HR := Lib.hid (HYES.out (by rw [HPH.out, decide_eq_true ⟨e1, e2⟩]; rfl))
                clear HYES HNO e1 e2
                go_wp2_with fail
                go_roundw
                case rel => exact ⟨h, by omega, by go_num, by rw [HR.out], (by first | rfl | trivial)⟩
                case measure => simp [intOf]
              · have u2 : ((k : Int) == (s0 : Int)) = false := by simp; omega
                have HR := Lib.hid (HNO.out (by rw [HPH.out, decide_eq_false (fun h => e2 h.2)]; rfl))
                clear HYES HNO e1 e2
                go_wp2_with fail
                go_roundw
                case rel => exact ⟨h, by omega, by go_num, by rw [HR.out], (by first | rfl | trivial)⟩
                case measure => simp [intOf]
            · have u1 : ((h : Int) == (h0 : Int)) = false := by simp; omega
              have HR := Lib.hid (HNO.out (by rw [HPH.out, decide_eq_false (fun h => e1 h.1)]; rfl))
              clear HYES HNO e1
              go_wp2_with fail
              go_roundw
              case rel => exact ⟨h, by omega, by go_num, by rw [HR.out], (by first | rfl | trivial)⟩
              case measure => simp [intOf]
    · have hk' : k = sn := by omega
      have tk : decide ((k : Int) < (sn : Int)) = false := decide_eq_false (by omega)
      have HO2 : Hid (OwnI (w.heap.size + 1 + 1) wq _ (eaR (sn : Int) (yn : Int) ps s0 h0)) := Lib.hid (by rw [HRES.out, ← hk', HLS.out]; exact HOW.out)
      clear hk'
      go_wp2_with fail
      go_ret2
      exact ⟨_, ret_pair HCD.out.symm, HO2.out.mono (by omega), HN0.out⟩
end Go.Proofs.Ytloelbaaolhlhaa
/-
  The program's EarliestAt.
-/
namespace Go.Proofs.Ytloelbaaolhlhaa
open Go Go.RowKit Go.Shelf
set_option linter.unusedVariables false
attribute [local go_sem] Oper.semAt_some

theorem ea_chk (st sy : Int) (ps : List Lan) (x0 x1 : Int) : chkC st sy ps [(x0, x1)] [] [] = eaC st sy ps x0 x1 := by
  unfold chkC eaC askC
  have h1 : betwB [] 0 (st - 1) = true := betwB_true (betw.zero _ _ _)
  have h2 : betwB [] 0 300 = true := betwB_true (betw.zero _ _ _)
  have h3 : scsB st [(x0, x1)] = scB st x0 x1 := by
    rw [Bool.eq_iff_iff]
    unfold scsB scB
    simp only [decide_eq_true_eq]
    constructor
    · intro h; exact h 0 (by simp)
    · rintro h i hi
      match i, hi with
      | 0, _ => exact h
  rw [h1, h2, h3]
  cases scB st x0 x1 <;> simp

abbrev rarr (yn : Nat) (ps : List Lan) (s0 h0 k : Nat) : List Nat := seenK (onw (hopsL (yn : Int) ps)) (onw (hopsL (yn : Int) ps) (tOf s0 h0)) k
abbrev rend (yn : Nat) (ps : List Lan) (s0 h0 k : Nat) : Prop := orT (atK (onw (hopsL (yn : Int) ps)) (onw (hopsL (yn : Int) ps) (tOf s0 h0)) k) (rarr yn ps s0 h0 k) = rarr yn ps s0 h0 k

theorem ea_bits {sn yn : Nat} {ps : List Lan} (hok : okNet (sn : Int) (yn : Int) ps) {s0 h0 : Nat} (hs0 : s0 < 8) (hh0 : h0 ≤ 300) {k : Nat} (hend : rend yn ps s0 h0 k) (s h : Nat) (h8 : s < 8) (hh : h < 320) : ((orT (tOf s0 h0) (rarr yn ps s0 h0 k)).getD s 0).testBit h = eaP (yn : Int) ps s0 h0 s h := by
  show bitT (orT (tOf s0 h0) (rarr yn ps s0 h0 k)) s h = _
  rw [bitT_or (tOf_ok s0 h0 hh0) s h h8]
  unfold eaP
  have e1 : bitT (rarr yn ps s0 h0 k) s h = arrB ps (-1) (yn : Int) s0 h0 s h := arrB_of (by simpa using seen_arr hok hs0 hh0 hend s h h8 hh)
  have e2 : bitT (tOf s0 h0) s h = decide ((h : Int) = (h0 : Int) ∧ (s : Int) = (s0 : Int)) := by rw [Bool.eq_iff_iff, bitT_tOf hs0, decide_eq_true_iff]; omega
  rw [e1, e2, Bool.or_comm]
theorem ea_frst {sn yn : Nat} {ps : List Lan} (hok : okNet (sn : Int) (yn : Int) ps) {s0 h0 : Nat} (hs0 : s0 < 8) (hh0 : h0 ≤ 300) {k : Nat} (hend : rend yn ps s0 h0 k) (s : Nat) (h8 : s < 8) : (frst fun h => ((orT (tOf s0 h0) (rarr yn ps s0 h0 k)).getD s 0).testBit h) = frst (eaP (yn : Int) ps s0 h0 s) := by
  unfold frst
  rw [hourTo_congr fun i hi => ea_bits hok hs0 hh0 hend s i h8 (by omega)]

/-- What holds between the rounds: the hours, the list, and what lay before. -/
def EaInv (w : World) (Bt Bl : Nat) (R : List Nat) (xs : List (Fin 8)) (W : World) : Prop := BlkT W Bt R ∧ (∃ v, BlkA W Bl 30 #[v] ∧ W.ownsRow (Bl + 1) 2 1 v (xs.map fun s : Fin 8 => frst fun h => (R.getD s.val 0).testBit h).length ((xs.map fun s : Fin 8 => frst fun h => (R.getD s.val 0).testBit h).map (Value.int .i64))) ∧ Below w.heap.size w W ∧ Bl + 1 ≤ W.heap.size

set_option maxHeartbeats 4000000 in
set_option maxRecDepth 100000 in
theorem iea_in (sn yn : Nat) (a : Option Addr) (len cap : Nat) (ps : List Lan) (s0 h0 : Nat) (w : World) (hok : okNet (sn : Int) (yn : Int) ps) (hn : FitN (sn : Int) (yn : Int) ps) (hc0 : eaC (sn : Int) (yn : Int) ps s0 h0 = 0) (hs0 : s0 < 8) (hh0 : h0 ≤ 300) (hx : FitSc ((s0 : Int), (h0 : Int))) (hv : ReadsLa w (.slice a len cap) ps) (hl : ps.length = len) :
    CallsIn Fence.wide 9 Try.prog 18 #[netV (sn : Int) (yn : Int) (.slice a len cap), .agg #[.int .i8 (s0 : Int), .int .i16 (h0 : Int)]] w fun e w' => ∃ v, e = .returned (.tuple #[v, .int .i64 0]) ∧ OwnI w.heap.size w' v ((List.range sn).map (fun s => frst (eaP (yn : Int) ps s0 h0 s))) ∧ Below w.heap.size w w' := by
  obtain ⟨i0, hi, hz0, hz1, hz2⟩ := info_parts info_i64
  have hro : Fence.wide.round = none := rfl
  have hFF : ∀ f, Fence.wide.fn f := fun _ => trivial
  have HOK := Lib.hid hok
  have HN := Lib.hid hn
  have HV := Lib.hid hv
  have HX := Lib.hid hx
  have HC0 := Lib.hid hc0
  have HLN := Lib.hid hl
  have hsn8 : sn ≤ 8 := by have := hok.1.2; omega
  have hb1 : Below w.heap.size w ((w.alloc (.cells #[.int .i8 (sn : Int), .int .i16 (yn : Int), .slice a len cap] 35)).alloc (.cells #[.int .i8 (s0 : Int), .int .i16 (h0 : Int)] 37)) := ((Below.refl _ _).alloc (Nat.le_refl _) _).alloc (by simp) _
  have BN : BlkA ((w.alloc (.cells #[.int .i8 (sn : Int), .int .i16 (yn : Int), .slice a len cap] 35)).alloc (.cells #[.int .i8 (s0 : Int), .int .i16 (h0 : Int)] 37)) w.heap.size 35 #[.int .i8 (sn : Int), .int .i16 (yn : Int), .slice a len cap] := (BlkA.new rfl _ _).alloc _
  have BX : BlkA ((w.alloc (.cells #[.int .i8 (sn : Int), .int .i16 (yn : Int), .slice a len cap] 35)).alloc (.cells #[.int .i8 (s0 : Int), .int .i16 (h0 : Int)] 37)) (w.heap.size + 1) 37 #[.int .i8 (s0 : Int), .int .i16 (h0 : Int)] := BlkA.new (by simp) _ _
  obtain ⟨W1, hW⟩ : ∃ W, ((w.alloc (.cells #[.int .i8 (sn : Int), .int .i16 (yn : Int), .slice a len cap] 35)).alloc (.cells #[.int .i8 (s0 : Int), .int .i16 (h0 : Int)] 37)) = W := ⟨_, rfl⟩
  rw [hW] at hb1 BN BX
  have hs1 : W1.heap.size = w.heap.size + 1 + 1 := by rw [← hW]; simp
  have b2 : Below W1.heap.size W1 (W1.alloc (.cells #[.int .i8 (s0 : Int), .int .i16 (h0 : Int)] 37)) := (Below.refl _ _).alloc (Nat.le_refl _) _
  have BL : BlkA (W1.alloc (.cells #[.int .i8 (s0 : Int), .int .i16 (h0 : Int)] 37)) W1.heap.size 37 #[.int .i8 (s0 : Int), .int .i16 (h0 : Int)] := BlkA.new rfl _ _
  obtain ⟨W2, hW2⟩ : ∃ W, W1.alloc (.cells #[.int .i8 (s0 : Int), .int .i16 (h0 : Int)] 37) = W := ⟨_, rfl⟩
  rw [hW2] at b2 BL
  have HB2 := Lib.hid (blink hb1 b2)
  have HN2 := Lib.hid (BN.below b2)
  have HX2 := Lib.hid (BX.below b2)
  rw [hs1] at BL
  have HL2 := Lib.hid BL
  have HV2 := Lib.hid (HV.out.below (blink hb1 b2))
  rw [← hW] at hW2
  have HW2 := Lib.hid hW2
  clear hW hW2 hb1 BN BX b2 BL hs1 hok hn hx hc0 hl hv
  refine callsIn_of_wp_marks Try.func18 rfl (hFF _) ?_ hro
  simp only [Try.ntmps18, List.size_toArray, List.length_cons, List.length_nil, Nat.reduceAdd, Nat.reduceSub, Array.replicate_succ, Array.replicate_zero, List.push_toArray, List.append_toArray, List.nil_append, List.cons_append]
  gi_wp2
  rw [HW2.out]
  refine ((callsIn_wide (n := 8)).2 (ichk_any (sn : Int) (yn : Int) (.slice a len cap) ps _ _ _ [((s0 : Int), (h0 : Int))] [] [] W2 HN.out HV2.out (reads_sc1 (HL2.out.at 0) (HL2.out.at 1)) (fun p hp => by simp at hp; subst hp; exact HX.out) (reads_nil _) (reads_nil _) (by simp) (by simp) (by simp))).mono ?_
  rintro e w3 ⟨rfl, b3⟩
  have HB3 := Lib.hid (blink HB2.out b3)
  have HN3 := Lib.hid (HN2.out.below b3)
  have HX3 := Lib.hid (HX2.out.below b3)
  have HV3 := Lib.hid (HV2.out.below b3)
  rw [ea_chk, HC0.out]
  clear b3
  gi_wp2
  refine wpIn_region_relL (fun W => Below w3.heap.size w3 W) (fun W W' => Below W.heap.size W W') 8 [fun v _ => v = Value.agg #[.int .i8 (s0 : Int), .int .i16 (h0 : Int)], fun v _ => v = tv (tOf s0 h0), fun v _ => v = netV (sn : Int) (yn : Int) (.slice a len cap), fun v W => ReadsLa W v (hopsL (yn : Int) ps), fun v _ => v = Value.agg #[.int .i8 (s0 : Int), .int .i16 (h0 : Int)],
    fun v _ => ∃ k, v = tv (rarr yn ps s0 h0 k) ∧ rend yn ps s0 h0 k, fun v _ => ∃ k, v = tv (orT (tOf s0 h0) (rarr yn ps s0 h0 k)) ∧ rend yn ps s0 h0 k, fun v W => ∃ B, v = Value.pointer (some ⟨B, 0, none⟩) ∧ w3.heap.size ≤ B ∧ BlkT W B t0] (by kernel_rfl) (by kernel_rfl) (by kernel_rfl) rfl (Below.refl _ _).drew ?_
  simp only [List.take_succ_cons, List.take_zero, List.drop_succ_cons, List.drop_zero]
  refine wpRelI_cons (fun _ _ _ _ _ h => h) (fun W hC hd => relOblI_intro fun K hK => ?_) (fun v18 => ?_)
  · have HK := Lib.hid hK
    have HC := Lib.hid hC
    have c0 : W.cell? ⟨w.heap.size + 1, 0, none⟩ = some (.int .i8 (s0 : Int)) := (HX3.out.below hC).at 0
    have c1 : W.cell? ⟨w.heap.size + 1, 1, none⟩ = some (.int .i16 (h0 : Int)) := (HX3.out.below hC).at 1
    clear hK hd hC
    go_simp
    exact HK.out _ _ ⟨_, rfl, HC.out, Below.refl _ _, rfl⟩
  simp only [Act.put, List.setIfInBounds_toArray, List.set_cons_zero, List.set_cons_succ]
  refine wpRelI_cons (fun _ _ _ _ _ h => h) (fun W hC hd => relOblI_intro fun K hK => ?_) (fun v19 => ?_)
  · have HK := Lib.hid hK
    have HC := Lib.hid hC
    obtain rfl : v18 = Value.agg #[.int .i8 (s0 : Int), .int .i16 (h0 : Int)] := hd 0 rfl _ rfl
    clear hK hd hC
    go_simp
    refine ((callsIn_wide (n := 8)).2 (itimesOf_any s0 h0 hs0 hh0 W)).mono ?_
    rintro e W5 ⟨rfl, b5⟩
    exact HK.out _ _ ⟨_, rfl, blink HC.out b5, b5, rfl⟩
  simp only [Act.put, List.setIfInBounds_toArray, List.set_cons_zero, List.set_cons_succ]
  refine wpRelI_cons (fun _ _ _ _ _ h => h) (fun W hC hd => relOblI_intro fun K hK => ?_) (fun v20 => ?_)
  · have HK := Lib.hid hK
    have HC := Lib.hid hC
    have c0 : W.cell? ⟨w.heap.size, 0, none⟩ = some (.int .i8 (sn : Int)) := (HN3.out.below hC).at 0
    have c1 : W.cell? ⟨w.heap.size, 1, none⟩ = some (.int .i16 (yn : Int)) := (HN3.out.below hC).at 1
    have c2 : W.cell? ⟨w.heap.size, 2, none⟩ = some (.slice a len cap) := (HN3.out.below hC).at 2
    clear hK hd hC
    go_simp
    exact HK.out _ _ ⟨_, rfl, HC.out, Below.refl _ _, rfl⟩
  simp only [Act.put, List.setIfInBounds_toArray, List.set_cons_zero, List.set_cons_succ]
  refine wpRelI_cons (fun _ _ _ _ hS h => h.below hS) (fun W hC hd => relOblI_intro fun K hK => ?_) (fun v21 => ?_)
  · have HK := Lib.hid hK
    have HC := Lib.hid hC
    obtain rfl : v20 = netV (sn : Int) (yn : Int) (.slice a len cap) := hd 2 rfl _ rfl
    have HVW := Lib.hid (HV3.out.below hC)
    clear hK hd hC
    go_simp
    refine ((callsIn_wide (n := 8)).2 (ihops_any (sn : Int) (yn : Int) (.slice a len cap) ps W HOK.out HVW.out)).mono ?_
    rintro e W5 ⟨u, rfl, o5, b5⟩
    exact HK.out _ _ ⟨_, rfl, blink HC.out b5, b5, OwnLa.reads o5⟩
  simp only [Act.put, List.setIfInBounds_toArray, List.set_cons_zero, List.set_cons_succ]
  refine wpRelI_cons (fun _ _ _ _ _ h => h) (fun W hC hd => relOblI_intro fun K hK => ?_) (fun v22 => ?_)
  · have HK := Lib.hid hK
    have HC := Lib.hid hC
    have c0 : W.cell? ⟨w.heap.size + 1, 0, none⟩ = some (.int .i8 (s0 : Int)) := (HX3.out.below hC).at 0
    have c1 : W.cell? ⟨w.heap.size + 1, 1, none⟩ = some (.int .i16 (h0 : Int)) := (HX3.out.below hC).at 1
    clear hK hd hC
    go_simp
    exact HK.out _ _ ⟨_, rfl, HC.out, Below.refl _ _, rfl⟩
  simp only [Act.put, List.setIfInBounds_toArray, List.set_cons_zero, List.set_cons_succ]
  refine wpRelI_cons (fun _ _ _ _ _ h => h) (fun W hC hd => relOblI_intro fun K hK => ?_) (fun v23 => ?_)
  · have HK := Lib.hid hK
    have HC := Lib.hid hC
    obtain rfl : v22 = Value.agg #[.int .i8 (s0 : Int), .int .i16 (h0 : Int)] := hd 4 rfl _ rfl
    obtain ⟨au, cu, rfl, hcu⟩ := (show ReadsLa W v21 (hopsL (yn : Int) ps) from hd 3 rfl _ rfl)
    have HRD : Hid (ReadsLa W (.slice au (hopsL (yn : Int) ps).length cu) (hopsL (yn : Int) ps)) := Lib.hid ⟨au, cu, rfl, hcu⟩
    clear hK hd hC hcu
    go_simp
    refine ((callsIn_wide (n := 8)).2 (callsIn_wide.1 (iarr_in au _ cu (hopsL (yn : Int) ps) s0 h0 (hops_ok HOK.out) (by rw [hopsL_len]; exact HN.out.n) hs0 hh0 W HRD.out))).mono ?_
    rintro e W5 ⟨k, rfl, hend, b5⟩
    exact HK.out _ _ ⟨_, rfl, blink HC.out b5, b5, k, rfl, hend⟩
  simp only [Act.put, List.setIfInBounds_toArray, List.set_cons_zero, List.set_cons_succ]
  refine wpRelI_cons (fun _ _ _ _ _ h => h) (fun W hC hd => relOblI_intro fun K hK => ?_) (fun v24 => ?_)
  · have HK := Lib.hid hK
    have HC := Lib.hid hC
    obtain rfl : v19 = tv (tOf s0 h0) := hd 1 rfl _ rfl
    obtain ⟨k, rfl, hend⟩ := (show ∃ k, v23 = tv (rarr yn ps s0 h0 k) ∧ rend yn ps s0 h0 k from hd 5 rfl _ rfl)
    have HEND := Lib.hid hend
    clear hK hd hC hend
    go_simp
    refine ((callsIn_wide (n := 8)).2 (itor_any (tOf s0 h0) (rarr yn ps s0 h0 k) (tOf_ok s0 h0 hh0) (seenK_ok (fun T h => onw_ok h) (onw_ok (tOf_ok s0 h0 hh0)) k) W)).mono ?_
    rintro e W5 ⟨rfl, b5⟩
    exact HK.out _ _ ⟨_, rfl, blink HC.out b5, b5, k, rfl, HEND.out⟩
  simp only [Act.put, List.setIfInBounds_toArray, List.set_cons_zero, List.set_cons_succ]
  refine wpRelI_cons (fun _ _ _ _ hS ⟨B, e, h1, h2⟩ => ⟨B, e, h1, BlkA.below h2 hS⟩) (fun W hC hd => relOblI_intro fun K hK => ?_) (fun v7 => ?_)
  · have HK := Lib.hid hK
    have HC := Lib.hid hC
    clear hK hd hC
    go_simp
    refine HK.out _ _ ⟨_, rfl, HC.out.alloc HC.out.size _, (Below.refl _ _).alloc (Nat.le_refl _) _, W.heap.size, rfl, HC.out.size, ?_⟩
    show BlkA _ _ _ (tw t0)
    rw [tw_zero]
    exact BlkA.new rfl _ _
  simp only [Act.put, List.setIfInBounds_toArray, List.set_cons_zero, List.set_cons_succ]
  refine wpRelI_nil fun W4 hC hd => ?_
  obtain ⟨k, rfl, hend⟩ := (show ∃ k, v24 = tv (orT (tOf s0 h0) (rarr yn ps s0 h0 k)) ∧ rend yn ps s0 h0 k from hd 6 _ rfl)
  obtain ⟨Bt, rfl, hBt, bt⟩ := (show ∃ B, v7 = Value.pointer (some ⟨B, 0, none⟩) ∧ w3.heap.size ≤ B ∧ BlkT W4 B t0 from hd 7 _ rfl)
  have HFR : Hid (∀ s, s < 8 → (frst fun h => ((orT (tOf s0 h0) (rarr yn ps s0 h0 k)).getD s 0).testBit h) = frst (eaP (yn : Int) ps s0 h0 s)) := Lib.hid (fun s h8 => ea_frst HOK.out hs0 hh0 hend s h8)
  have hRk : TOk (orT (tOf s0 h0) (rarr yn ps s0 h0 k)) := orT_ok (tOf_ok s0 h0 hh0) (seenK_ok (fun T h => onw_ok h) (onw_ok (tOf_ok s0 h0 hh0)) k)
  obtain ⟨R, hR⟩ : ∃ R, orT (tOf s0 h0) (rarr yn ps s0 h0 k) = R := ⟨_, rfl⟩
  rw [hR] at HFR hRk ⊢
  have HRK := Lib.hid hRk
  have HBT := Lib.hid bt
  have hn4 := HN3.out.below hC
  have hb4 := blink HB3.out hC
  have hgs := grown_setRow W4 Bt (tw R)
  have hlt4 : w.heap.size + 1 < w3.heap.size := HX3.out.lt
  have hBw : Bt < W4.heap.size := BlkA.lt bt
  have hr5 : BlkT (W4.setRow Bt (tw R)) Bt R := bt.setRow_same
  have hn5 : BlkA (W4.setRow Bt (tw R)) w.heap.size 35 #[.int .i8 (sn : Int), .int .i16 (yn : Int), .slice a len cap] := (hgs.block _ (BlkA.lt hn4) (by simp; omega)).trans hn4
  have hb5 : Below w.heap.size w (W4.setRow Bt (tw R)) := hb4.grown hgs hb4.size (fun k e => by cases e; omega)
  have hz5 : (W4.setRow Bt (tw R)).heap.size = W4.heap.size := by simp [World.setRow]
  obtain ⟨W5, hW5⟩ : ∃ W5, W4.setRow Bt (tw R) = W5 := ⟨_, rfl⟩
  rw [hW5] at hr5 hn5 hb5 hz5
  have HW5 := Lib.hid hW5
  have HR5 := Lib.hid hr5
  have HN5 := Lib.hid hn5
  have HB5 := Lib.hid hb5
  have hBt5 : Bt < W5.heap.size := by omega
  have hlt5 : w.heap.size < W5.heap.size := by omega
  have n0 : W5.cell? ⟨w.heap.size, 0, none⟩ = some (.int .i8 (sn : Int)) := hn5.at 0
  have n1 : W5.cell? ⟨w.heap.size, 1, none⟩ = some (.int .i16 (yn : Int)) := hn5.at 1
  have n2 : W5.cell? ⟨w.heap.size, 2, none⟩ = some (.slice a len cap) := hn5.at 2
  clear hd hC hend bt hn4 hb4 hgs hr5 hn5 hb5 hW5 hR hRk HB2 HN2 HX2 HL2 HV2 HW2 hz5
  gi_wp2_with (refine wpListIn_store_row (o := ⟨none, _, _, _, _, _⟩) rfl 87 (.tmp 7) (.tmp 24) rfl Bt (tw R) rfl rfl 87 (tw t0) HBT.out (tw_info HRK.out.len) (by rw [tw_size, tw_size, HRK.out.len, t0_ok.len]) (tw_ones _) ?_; rw [HW5.out])
  refine ((callsIn_wide (n := 8)).2 (istats_any (sn : Int) (yn : Int) (.slice a len cap) _)).mono ?_
  rintro e W7 ⟨rfl, e7⟩
  have hz6 : (W5.alloc (.cells #[.slice none 0 0] 30)).heap.size = W5.heap.size + 1 := by simp
  rw [hz6]
  have bl7 : BlkA W7 W5.heap.size 30 #[.slice none 0 0] := by rw [e7]; exact (BlkA.new rfl _ _).alloc _
  have bn7 : BlkA W7 (W5.heap.size + 1) 35 (netB (sn : Int) (yn : Int) (.slice a len cap)) := by rw [e7]; exact BlkA.new (by simp) _ _
  have b57 : Below W5.heap.size W5 W7 := by rw [e7]; exact ((Below.refl _ _).alloc (Nat.le_refl _) _).alloc (by simp) _
  have br7 : BlkT W7 Bt R := BlkA.below HR5.out b57
  have hw7 := blink HB5.out b57
  have HL7 := Lib.hid bl7
  have HS7 := Lib.hid bn7
  have HR7 := Lib.hid br7
  have HB7 := Lib.hid hw7
  have hs7 : W5.heap.size + 1 < W7.heap.size := BlkA.lt bn7
  clear e7 hz6 bl7 bn7 b57 br7 hw7 n0 n1 n2
  gi_wp2
  refine wpIn_rangeFunc_ownF (α := Fin 8) hro (by omega) (gf := 109) (lb := #[.pointer (some ⟨W5.heap.size + 1, 0, none⟩)]) rfl (hFF _) (enters_of Try.func109 (by kernel_rfl) rfl)
    (stat_stops 8 (by omega) (W5.heap.size + 1) sn hsn8 W7 (HS7.out.at 0) hs7) (fun _ _ => trivial) (fun _ _ _ _ _ _ _ _ => trivial) (Below.refl _ _) (fun _ => rfl)
    (EaInv w Bt W5.heap.size R)
    (fun _ _ _ => False) ?own (fun _ _ _ _ _ h _ _ => h) ⟨HR7.out, ⟨_, HL7.out, World.ownsRow_nil _ _ _ _⟩, HB7.out, by omega⟩ ?act ?assign ?body ?done (fun _ _ _ _ _ _ h _ => h.elim)
  case own =>
    rintro xs A B row ⟨h1, ⟨v, h2, h3⟩, h4, h5⟩ hg hr
    exact ⟨blkA_kept h1 hg (fun r e => (hr r e).2), ⟨v, blkA_kept h2 hg (fun r e => (hr r e).2), row_kept h3 hg (fun r e => (hr r e).2)⟩, below_kept h4 h4.size (by omega) hg (fun r e => (hr r e).1), Nat.le_trans h5 hg.size⟩
  case assign =>
    intro l x W K hK
    gi_wp2
    exact hK
  case body =>
    rintro l pre ⟨x, hx8⟩ W ⟨h1, ⟨v, h2, h3⟩, h4, h5⟩ hpl
    simp only
    obtain ⟨ls, hls⟩ : ∃ ls, pre.map (fun s : Fin 8 => frst fun h => (R.getD s.val 0).testBit h) = ls := ⟨_, rfl⟩
    have hll : ls.length = pre.length := by rw [← hls]; simp
    have HLS : Hid ((pre ++ [(⟨x, hx8⟩ : Fin 8)]).map (fun s : Fin 8 => frst fun h => (R.getD s.val 0).testBit h) = ls ++ [frst fun h => (R.getD x 0).testBit h]) := Lib.hid (by rw [List.map_append, hls]; rfl)
    rw [hls] at h3
    have hB1 := h1.lt
    have hB2 := h2.lt
    have H1 := Lib.hid h1
    have H2 := Lib.hid h2
    have H3 := Lib.hid h3
    have H4 := Lib.hid h4
    have hx0 : (0 : Int) ≤ (x : Int) := by omega
    have hx88 : (x : Int) < 8 := by omega
    have hfz : W.frozen? ⟨W5.heap.size, 0, none⟩ = false := h2.frozen 0
    clear h1 h2 h3 h4 hls
    have hll' : ls.length < 8 := by omega
    have HPL := Lib.hid hll
    clear hll
    obtain ⟨z, hz⟩ : ∃ z, (frst fun h => (R.getD x 0).testBit h) = z := ⟨_, rfl⟩
    rw [hz] at HLS
    have HZ := Lib.hid hz
    clear hz
    gi_wp2
    refine wpIn_region_relL (fun W' => Below W.heap.size W W') (fun W W' => Below W.heap.size W W') 6 [fun u _ => u = v, fun u _ => u = Value.int .i64 (x : Int), fun u _ => u = Value.pointer (some ⟨Bt, x * 5, none⟩), fun u _ => u = hv (R.getD x 0), fun u _ => u = Value.int .i64 z, fun u W' => ∃ B, u = Value.slice (some ⟨B, 0, none⟩) 1 1 ∧ W.heap.size ≤ B ∧ BlkA W' B 2 #[.int .i64 z]] (by kernel_rfl) (by kernel_rfl) (by kernel_rfl) rfl (Below.refl _ _).drew ?_
    simp only [List.take_succ_cons, List.take_zero, List.drop_succ_cons, List.drop_zero]
    refine wpRelI_cons (fun _ _ _ _ _ h => h) (fun V hC hd => relOblI_intro fun K hK => ?_) (fun v28 => ?_)
    · have HK := Lib.hid hK
      have HC := Lib.hid hC
      have c0 : V.cell? ⟨W5.heap.size, 0, none⟩ = some v := (H2.out.below hC).at 0
      clear hK hd hC
      go_simp
      exact HK.out _ _ ⟨_, rfl, HC.out, Below.refl _ _, rfl⟩
    simp only [Act.put, List.setIfInBounds_toArray, List.set_cons_zero, List.set_cons_succ]
    refine wpRelI_cons (fun _ _ _ _ _ h => h) (fun V hC hd => relOblI_intro fun K hK => ?_) (fun v29 => ?_)
    · have HK := Lib.hid hK
      have HC := Lib.hid hC
      clear hK hd hC
      go_simp
      exact HK.out _ _ ⟨_, rfl, HC.out, Below.refl _ _, rfl⟩
    simp only [Act.put, List.setIfInBounds_toArray, List.set_cons_zero, List.set_cons_succ]
    refine wpRelI_cons (fun _ _ _ _ _ h => h) (fun V hC hd => relOblI_intro fun K hK => ?_) (fun v30 => ?_)
    · have HK := Lib.hid hK
      have HC := Lib.hid hC
      obtain rfl : v29 = Value.int .i64 (x : Int) := hd 1 rfl _ rfl
      clear hK hd hC
      go_simp
      exact HK.out _ _ ⟨_, rfl, HC.out, Below.refl _ _, rfl⟩
    simp only [Act.put, List.setIfInBounds_toArray, List.set_cons_zero, List.set_cons_succ]
    refine wpRelI_cons (fun _ _ _ _ _ h => h) (fun V hC hd => relOblI_intro fun K hK => ?_) (fun v31 => ?_)
    · have HK := Lib.hid hK
      have HC := Lib.hid hC
      obtain rfl : v30 = Value.pointer (some ⟨Bt, x * 5, none⟩) := hd 2 rfl _ rfl
      obtain ⟨c0, c1, c2, c3, c4⟩ := BlkT.cells (BlkA.below H1.out hC) x (by rw [HRK.out.len]; exact hx8)
      clear hK hd hC
      go_simp
      exact HK.out _ _ ⟨_, rfl, HC.out, Below.refl _ _, rfl⟩
    simp only [Act.put, List.setIfInBounds_toArray, List.set_cons_zero, List.set_cons_succ]
    refine wpRelI_cons (fun _ _ _ _ _ h => h) (fun V hC hd => relOblI_intro fun K hK => ?_) (fun v32 => ?_)
    · have HK := Lib.hid hK
      have HC := Lib.hid hC
      obtain rfl : v31 = hv (R.getD x 0) := hd 3 rfl _ rfl
      clear hK hd hC
      go_simp
      refine (CallsIn.inRound l ((callsIn_wide (n := _)).2 (ifirst_any (R.getD x 0) V))).mono ?_
      rintro e V5 ⟨rfl, b5⟩
      rw [HZ.out]
      exact HK.out _ _ ⟨_, rfl, blink HC.out b5, b5, rfl⟩
    simp only [Act.put, List.setIfInBounds_toArray, List.set_cons_zero, List.set_cons_succ]
    refine wpRelI_cons (fun _ _ _ _ hS ⟨B, e, h1, h2⟩ => ⟨B, e, h1, h2.below hS⟩) (fun V hC hd => relOblI_intro fun K hK => ?_) (fun v33 => ?_)
    · have HK := Lib.hid hK
      have HC := Lib.hid hC
      obtain rfl : v32 = Value.int .i64 z := hd 4 rfl _ rfl
      clear hK hd hC
      go_simp
      exact HK.out _ _ ⟨_, rfl, HC.out.alloc HC.out.size _, (Below.refl _ _).alloc (Nat.le_refl _) _, V.heap.size, rfl, HC.out.size, BlkA.new rfl _ _⟩
    simp only [Act.put, List.setIfInBounds_toArray, List.set_cons_zero, List.set_cons_succ]
    refine wpRelI_nil fun V hC hd => ?_
    obtain rfl : v28 = v := hd 0 _ rfl
    obtain ⟨B, rfl, hB, hb⟩ := (show ∃ B, v33 = Value.slice (some ⟨B, 0, none⟩) 1 1 ∧ W.heap.size ≤ B ∧ BlkA V B 2 #[.int .i64 z] from hd 5 _ rfl)
    have HB := Lib.hid hb
    have HC := Lib.hid hC
    have HOV := Lib.hid (ownRow_below H3.out hC)
    have HLV := Lib.hid (H2.out.below hC)
    have HTV := Lib.hid (BlkA.below H1.out hC)
    have hsz : W.heap.size ≤ V.heap.size := hC.size
    clear hd hC hb hfz
    gi_wp2_with (gi_at_builtin; refine wpListIn_append_own _ rfl _ _ 30 rfl (W5.heap.size + 1) 2 i0 (.int .i64 0) 1 8 Try.underlying30 hi hz0 hz1 hz2 rfl (by decide) _ _ _ rfl HOV.out ⟨B, 0, none⟩ 1 1 [.int .i64 z] rfl rfl ?c1 (ints_oneCell .i64 [z]) ?c3 ?c4 ?c5 ?_)
    case c1 =>
      intro j u hj
      rcases j with _ | j
      · simp at hj; subst hj; exact HB.out.at 0
      · simp at hj
    case c3 => unfold maxLen; omega
    case c4 => omega
    case c5 => first | omega | (simp; omega)
    intro v' V2 hown' hgrow _
    obtain ⟨gv, cv, rfl⟩ : ∃ gv cv, v' = .slice (some ⟨gv, 0, none⟩) (ls.length + 1) cv := by
      rcases hown'.2 with ⟨_, h0⟩ | ⟨gu, cu, cur, h1, _⟩
      · omega
      · exact ⟨gu, cu, h1⟩
    obtain ⟨v', hv'⟩ : ∃ v', Value.slice (some ⟨gv, 0, none⟩) (ls.length + 1) cv = v' := ⟨_, rfl⟩
    have HV' := Lib.hid hv'
    rw [hv'] at hown'
    have hbl2 : BlkA V2 W5.heap.size 30 #[v28] := (hgrow.block _ HLV.out.lt (fun e => by have := (HOV.out.lt _ e.symm).1; omega)).trans HLV.out
    have hbt2 : BlkT V2 Bt R := (hgrow.block _ (BlkA.lt HTV.out) (fun e => by have := (HOV.out.lt _ e.symm).1; omega)).trans HTV.out
    have hb2 : Below w.heap.size w V2 := (blink H4.out HC.out).grown hgrow (by omega) (fun k e => by have := (HOV.out.lt _ e).1; omega)
    have hko : KeepsOthers W V2 := KeepsOthers.trans ⟨HC.out.size, fun k o hk _ => (HC.out.block k (Array.getElem?_eq_some_iff.1 hk).1).trans hk⟩ (KeepsOthers.of_grownBy hgrow (fun j o hj ho => by
      rcases HOV.out.2 with ⟨rfl, _⟩ | ⟨g, cap', cur, rfl, _, hg, _⟩
      · cases hj
      · simp [Value.ownBlock] at hj; subst hj; rw [hg] at ho; cases ho; rfl))
    have hsz2 := hgrow.size
    have c0 : V2.cell? ⟨W5.heap.size, 0, none⟩ = some v28 := hbl2.at 0
    have f0 : V2.frozen? ⟨W5.heap.size, 0, none⟩ = false := hbl2.frozen 0
    have HFIN : Hid (EaInv w Bt W5.heap.size R (pre ++ [(⟨x, hx8⟩ : Fin 8)]) (V2.setCell ⟨W5.heap.size, 0, none⟩ v')) := Lib.hid ⟨BlkA.other hbt2 _ _ (by simp; omega), ⟨v', by have := hbl2.set 0 v'; simpa using this, row_other (by rw [HLS.out, List.map_append, List.length_append]; exact hown') _ _ (by simp)⟩, hb2.setCell (by simp; omega) _, by simp; omega⟩
    have HKO : Hid (KeepsOthers W (V2.setCell ⟨W5.heap.size, 0, none⟩ v')) := Lib.hid (hko.trans (KeepsOthers.setCell _ _ _))
    rw [← HV'.out] at HKO HFIN
    clear hown' hgrow hbl2 hbt2 hb2 hko hv'
    gi_wp2
    exact ⟨HKO.out, trivial, HFIN.out⟩
  case done =>
    rintro D xs W hD hxs ⟨h1, ⟨v, h2, h3⟩, h4, h5⟩ hK
    have c0 : W.cell? ⟨W5.heap.size, 0, none⟩ = some v := h2.at 0
    have HK := Lib.hid hK
    have HO := Lib.hid (row_kept h3 (grownBy_putObj' W D (.deferred none)) (fun r e => by cases e; exact ⟨_, hK, rfl⟩))
    have HL : Hid (xs.map (fun s : Fin 8 => frst fun h => (R.getD s.val 0).testBit h) = (List.range sn).map (fun s => frst (eaP (yn : Int) ps s0 h0 s))) := Lib.hid (by
      rw [← hxs, List.map_map]
      exact List.map_congr_left fun s _ => HFR.out s.val s.isLt)
    have HB := Lib.hid (h4.trans (belowK_b (w := w) (Nat.le_refl _) W D _ (.deferred none) (by have := HB7.out.size; omega) hK rfl rfl))
    have hl5 : w.heap.size ≤ W5.heap.size + 1 := by omega
    clear h1 h2 h3 h4 hK hxs
    gi_wp2
    refine ⟨by simp, .inl ⟨_, _, rfl, run_takeDeferred HK.out, ?_⟩⟩
    refine ⟨.tuple #[v, .int .i64 0], by simp [results, Try.results18, go_sem], v, rfl, ?_, HB.out⟩
    rw [← HL.out]
    exact (show OwnI (W5.heap.size + 1) _ v _ from HO.out).mono hl5
end Go.Proofs.Ytloelbaaolhlhaa
/-
  The program's EarliestAt, whatever the code.
-/
namespace Go.Proofs.Ytloelbaaolhlhaa
open Go Go.RowKit
set_option linter.unusedVariables false

set_option maxHeartbeats 2000000 in
set_option maxRecDepth 100000 in
theorem iea_any (st sy : Int) (v : Value) (ps : List Lan) (x0 x1 : Int) (w : World) (hn : FitN st sy ps) (hx : FitSc (x0, x1)) (hv : ReadsLa w v ps) :
    Calls Try.prog 18 #[netV st sy v, .agg #[.int .i8 x0, .int .i16 x1]] w (RetL1 w.heap.size w (eaR st sy ps x0 x1) (eaC st sy ps x0 x1)) := by
  by_cases hz : eaC st sy ps x0 x1 = 0
  · have hak := askC_ok (show askC st sy ps (scB st x0 x1) = 0 from hz)
    have hok := vldN_spec hak.1
    obtain ⟨a, cap, rfl, ha⟩ := hv
    obtain ⟨sn, yn, rfl, rfl⟩ := net_nat hok
    obtain ⟨s0, h0, rfl, rfl, hs0, hh0⟩ := scan_nats hok.1.2 hak.2
    refine (callsIn_wide.1 (iea_in sn yn a ps.length cap ps s0 h0 w hok hn hz hs0 hh0 hx ⟨a, cap, rfl, ha⟩ rfl)).mono ?_
    rintro e w2 ⟨u, rfl, o, b⟩
    refine ⟨u, ret_pair hz.symm, ?_, b⟩
    unfold eaR
    rw [if_pos hz, Int.toNat_natCast]
    exact o
  · have HV := Lib.hid hv
    have HN := Lib.hid hn
    have HX := Lib.hid hx
    obtain ⟨a, cap, rfl, ha⟩ := hv
    obtain ⟨len, hlen⟩ : ∃ m, ps.length = m := ⟨_, rfl⟩
    have HM := Lib.hid hlen
    have hb1 : Below w.heap.size w ((w.alloc (.cells #[.int .i8 st, .int .i16 sy, .slice a len cap] 35)).alloc (.cells #[.int .i8 x0, .int .i16 x1] 37)) := ((Below.refl _ _).alloc (Nat.le_refl _) _).alloc (by simp) _
    rw [hlen] at HV ⊢
    clear ha hlen hn hx
    obtain ⟨W1, hW⟩ : ∃ W, ((w.alloc (.cells #[.int .i8 st, .int .i16 sy, .slice a len cap] 35)).alloc (.cells #[.int .i8 x0, .int .i16 x1] 37)) = W := ⟨_, rfl⟩
    rw [hW] at hb1
    have hs1 : W1.heap.size = w.heap.size + 1 + 1 := by rw [← hW]; simp
    have b2 : Below W1.heap.size W1 (W1.alloc (.cells #[.int .i8 x0, .int .i16 x1] 37)) := (Below.refl _ _).alloc (Nat.le_refl _) _
    have BL : BlkA (W1.alloc (.cells #[.int .i8 x0, .int .i16 x1] 37)) W1.heap.size 37 #[.int .i8 x0, .int .i16 x1] := BlkA.new rfl _ _
    obtain ⟨W2, hW2⟩ : ∃ W, W1.alloc (.cells #[.int .i8 x0, .int .i16 x1] 37) = W := ⟨_, rfl⟩
    rw [hW2] at b2 BL
    have HB2 := Lib.hid (blink hb1 b2)
    rw [hs1] at BL
    have HL2 := Lib.hid BL
    have HV2 := Lib.hid (HV.out.below (blink hb1 b2))
    rw [← hW] at hW2
    have HW2 := Lib.hid hW2
    clear hW hW2 hb1 b2 BL hs1
    go_enter Try.func18, Try.ntmps18
    go_wp2_with fail
    rw [HW2.out]
    refine (ichk_any st sy (.slice a len cap) ps _ _ _ [(x0, x1)] [] [] W2 HN.out HV2.out (reads_sc1 (HL2.out.at 0) (HL2.out.at 1)) (fun p hp => by simp at hp; subst hp; exact HX.out) (reads_nil _) (reads_nil _) (by simp) (by simp) (by simp)).mono ?_
    rintro e w3 ⟨rfl, b3⟩
    have HB3 := Lib.hid (blink HB2.out b3)
    obtain ⟨c, hc⟩ : ∃ c, eaC st sy ps x0 x1 = c := ⟨_, rfl⟩
    have HCD := Lib.hid hc
    rw [hc] at hz
    rw [ea_chk, hc]
    have t0 : (c == 0) = false := by simp [hz]
    have t1 : (c != 0) = true := by simp [hz]
    have HR : Hid (eaR st sy ps x0 x1 = []) := Lib.hid (if_neg (by rw [HCD.out]; exact hz))
    clear hc b3 hz
    go_wp2_with fail
    go_ret2
    exact ⟨_, ret_pair HCD.out.symm, by rw [HR.out]; exact World.ownsRow_nil _ _ _ _, HB3.out⟩
end Go.Proofs.Ytloelbaaolhlhaa
/-
  The walk of FnExactEarliestAt: program and model answer the same at every argument; neither writes into its arguments, and what is answered lies in new memory.
-/
namespace Go.Proofs.Ytloelbaaolhlhaa.fnExactEarliestAt
open Go Go.RowKit
set_option linter.unusedVariables false

set_option maxHeartbeats 16000000 in
set_option maxRecDepth 100000 in
theorem walk (st0 sy0 : Int) (a0 : Option Addr) (len0 cap0 : Nat) (ps0 : List Lan) (x10 x11 : Int) (w : World) (hh0 : (IsRowLa w a0 len0 cap0 ps0 ∧ FitsLa ps0) ∧ (-128 ≤ st0 ∧ st0 ≤ 127) ∧ (-32768 ≤ sy0 ∧ sy0 ≤ 32767)) (hv1 : FitSc (x10, x11)) :
    Calls Try.prog 3 #[.agg #[.int .i8 st0, .int .i16 sy0, .slice a0 len0 cap0], .agg #[.int .i8 x10, .int .i16 x11]] w fun e w' => e = .returned (.bool true) ∧ Below w.heap.size w w' := by
  obtain ⟨⟨hr0, hf0⟩, hst0, hsy0⟩ := hh0
  have HFQ0 := Lib.hid hf0
  have HST0 := Lib.hid hst0
  have HSY0 := Lib.hid hsy0
  have HN0 := Lib.hid hr0.len_ok
  clear hf0 hst0 hsy0
  have HV1 := Lib.hid hv1
  clear hv1
  by_cases hm0 : 0 ≤ 1048576 - (len0 : Int)
  rotate_left
  · have t0 : decide (1048576 - (len0 : Int) < 0) = true := decide_eq_true (by omega)
    go_enter Try.func3, Try.ntmps3
    go_wp2_with fail
    have b1 : Below w.heap.size w ((w.alloc (.cells #[.int .i8 st0, .int .i16 sy0, .slice a0 len0 cap0] 26)).alloc (.cells #[.int .i8 x10, .int .i16 x11] 28)) := (((Below.refl _ _).alloc (Nat.le_refl _) _).alloc (by simp) _)
    have BX0 : BlkA ((w.alloc (.cells #[.int .i8 st0, .int .i16 sy0, .slice a0 len0 cap0] 26)).alloc (.cells #[.int .i8 x10, .int .i16 x11] 28)) (w.heap.size) 26 #[.int .i8 st0, .int .i16 sy0, .slice a0 len0 cap0] := ((BlkA.new rfl _ _).alloc _)
    have BX1 : BlkA ((w.alloc (.cells #[.int .i8 st0, .int .i16 sy0, .slice a0 len0 cap0] 26)).alloc (.cells #[.int .i8 x10, .int .i16 x11] 28)) (w.heap.size + 1) 28 #[.int .i8 x10, .int .i16 x11] := (BlkA.new (by simp) _ _)
    generalize ((w.alloc (.cells #[.int .i8 st0, .int .i16 sy0, .slice a0 len0 cap0] 26)).alloc (.cells #[.int .i8 x10, .int .i16 x11] 28)) = w1 at b1 BX0 BX1 ⊢
    have c1 := b1
    have hs1 : w.heap.size ≤ w1.heap.size := b1.size
    have hb0 : w.heap.size < w1.heap.size := BX0.lt
    have hb1 : w.heap.size + 1 < w1.heap.size := BX1.lt
    have va0_0_1 : w1.cell? ⟨w.heap.size, 0, none⟩ = some (.int .i8 st0) := (BX0).at 0
    have va0_1_1 : w1.cell? ⟨w.heap.size, 1, none⟩ = some (.int .i16 sy0) := (BX0).at 1
    have va0_2_1 : w1.cell? ⟨w.heap.size, 2, none⟩ = some (.slice a0 len0 cap0) := (BX0).at 2
    have la0_1 : w.heap.size < w1.heap.size := (BX0).lt
    go_wp2_with fail
    refine (szNet_big st0 sy0 a0 len0 cap0 1048576 (by omega) (by omega) (by omega) HN0.out _).mono ?_
    rintro e w2 ⟨rfl, b2⟩
    have c2 : Below w.heap.size w w2 := blink c1 b2
    have hs2 : w1.heap.size ≤ w2.heap.size := b2.size
    go_wp2_with fail
    go_ret
    exact ⟨rfl, c2⟩
  have t0 : decide (1048576 - (len0 : Int) < 0) = false := decide_eq_false (by omega)
  have hlq0 : ps0.length = len0 := hr0.len_eq
  have HX0 : Hid (ps0.length ≤ 1048576) := Lib.hid (by omega)
  have HL0 : Hid (len0 ≤ 1048576) := Lib.hid (by omega)
  have hxb0 : ps0.length ≤ 1048576 := HX0.out
  clear hlq0
  have HF0 : Hid (FitN st0 sy0 ps0) := Lib.hid ⟨HST0.out, HSY0.out, HFQ0.out, HX0.out⟩
  have hlb0 := eaR_len st0 sy0 ps0 x10 x11
  have HLB0 : Hid ((eaR st0 sy0 ps0 x10 x11).length ≤ 1048576) := Lib.hid (by omega)
  go_enter Try.func3, Try.ntmps3
  go_wp2_with fail
  have b1 : Below w.heap.size w ((w.alloc (.cells #[.int .i8 st0, .int .i16 sy0, .slice a0 len0 cap0] 26)).alloc (.cells #[.int .i8 x10, .int .i16 x11] 28)) := (((Below.refl _ _).alloc (Nat.le_refl _) _).alloc (by simp) _)
  have BX0 : BlkA ((w.alloc (.cells #[.int .i8 st0, .int .i16 sy0, .slice a0 len0 cap0] 26)).alloc (.cells #[.int .i8 x10, .int .i16 x11] 28)) (w.heap.size) 26 #[.int .i8 st0, .int .i16 sy0, .slice a0 len0 cap0] := ((BlkA.new rfl _ _).alloc _)
  have BX1 : BlkA ((w.alloc (.cells #[.int .i8 st0, .int .i16 sy0, .slice a0 len0 cap0] 26)).alloc (.cells #[.int .i8 x10, .int .i16 x11] 28)) (w.heap.size + 1) 28 #[.int .i8 x10, .int .i16 x11] := (BlkA.new (by simp) _ _)
  generalize ((w.alloc (.cells #[.int .i8 st0, .int .i16 sy0, .slice a0 len0 cap0] 26)).alloc (.cells #[.int .i8 x10, .int .i16 x11] 28)) = w1 at b1 BX0 BX1 ⊢
  have c1 := b1
  have hs1 : w.heap.size ≤ w1.heap.size := b1.size
  have hb0 : w.heap.size < w1.heap.size := BX0.lt
  have hb1 : w.heap.size + 1 < w1.heap.size := BX1.lt
  have va0_0_1 : w1.cell? ⟨w.heap.size, 0, none⟩ = some (.int .i8 st0) := (BX0).at 0
  have va0_1_1 : w1.cell? ⟨w.heap.size, 1, none⟩ = some (.int .i16 sy0) := (BX0).at 1
  have va0_2_1 : w1.cell? ⟨w.heap.size, 2, none⟩ = some (.slice a0 len0 cap0) := (BX0).at 2
  have la0_1 : w.heap.size < w1.heap.size := (BX0).lt
  go_wp2_with fail
  refine (szNet_fit st0 sy0 a0 len0 cap0 1048576 (by omega) (by omega) _).mono ?_
  rintro e w2 ⟨rfl, b2⟩
  have c2 : Below w.heap.size w w2 := blink c1 b2
  have hs2 : w1.heap.size ≤ w2.heap.size := b2.size
  have CD2 : Below w.heap.size w w2.drew := Below.drew c2
  have BD2 : Below w2.heap.size w2 w2.drew := (Below.refl _ _).drew
  have SD2 : w2.drew.cell? ⟨w.heap.size, 0, none⟩ = some (.int .i8 st0) ∧ w2.drew.cell? ⟨w.heap.size, 1, none⟩ = some (.int .i16 sy0) ∧ w2.drew.cell? ⟨w.heap.size, 2, none⟩ = some (.slice a0 len0 cap0) ∧ w2.drew.cell? ⟨w.heap.size + 1, 0, none⟩ = some (.int .i8 x10) ∧ w2.drew.cell? ⟨w.heap.size + 1, 1, none⟩ = some (.int .i16 x11) := ⟨cbl BD2 (((BX0).below b2).at 0), cbl BD2 (((BX0).below b2).at 1), cbl BD2 (((BX0).below b2).at 2), cbl BD2 (((BX1).below b2).at 0), cbl BD2 (((BX1).below b2).at 1)⟩
  go_wp2_with fail
  go_region_held3 (fun v => v.cell? ⟨w.heap.size, 0, none⟩ = some (.int .i8 st0) ∧ v.cell? ⟨w.heap.size, 1, none⟩ = some (.int .i16 sy0) ∧ v.cell? ⟨w.heap.size, 2, none⟩ = some (.slice a0 len0 cap0) ∧ v.cell? ⟨w.heap.size + 1, 0, none⟩ = some (.int .i8 x10) ∧ v.cell? ⟨w.heap.size + 1, 1, none⟩ = some (.int .i16 x11)) (first | exact zS5 | exact zS4 | exact zS3 | exact SD2) (first | (go_at_call 16; (with_reducible refine (toNet_any st0 sy0 a0 len0 cap0 ps0 _ (hr0.below CD2) HL0.out).mono ?_); rintro e w3 ⟨g3, rfl, o3, d3⟩; have b3 : Below w2.heap.size w2 w3 := BD2.trans (d3.mono (Nat.le_refl _)); have zS3 : w3.cell? ⟨w.heap.size, 0, none⟩ = some (.int .i8 st0) ∧ w3.cell? ⟨w.heap.size, 1, none⟩ = some (.int .i16 sy0) ∧ w3.cell? ⟨w.heap.size, 2, none⟩ = some (.slice a0 len0 cap0) ∧ w3.cell? ⟨w.heap.size + 1, 0, none⟩ = some (.int .i8 x10) ∧ w3.cell? ⟨w.heap.size + 1, 1, none⟩ = some (.int .i16 x11) := ⟨cbl d3 SD2.1, cbl d3 SD2.2.1, cbl d3 SD2.2.2.1, cbl d3 SD2.2.2.2.1, cbl d3 SD2.2.2.2.2⟩) | (go_at_call 17; (with_reducible refine (toScan_one x10 x11 _).mono ?_); rintro e w4 ⟨rfl, b4⟩; have zS4 : w4.cell? ⟨w.heap.size, 0, none⟩ = some (.int .i8 st0) ∧ w4.cell? ⟨w.heap.size, 1, none⟩ = some (.int .i16 sy0) ∧ w4.cell? ⟨w.heap.size, 2, none⟩ = some (.slice a0 len0 cap0) ∧ w4.cell? ⟨w.heap.size + 1, 0, none⟩ = some (.int .i8 x10) ∧ w4.cell? ⟨w.heap.size + 1, 1, none⟩ = some (.int .i16 x11) := ⟨cbl b4 zS3.1, cbl b4 zS3.2.1, cbl b4 zS3.2.2.1, cbl b4 zS3.2.2.2.1, cbl b4 zS3.2.2.2.2⟩) | (go_at_call 15; (with_reducible refine (sea_any _ _ _ ps0 _ _ _ HF0.out HV1.out (o3.below b4).reads).mono ?_); rintro e w5 ⟨sv0, rfl, so0, b5⟩; have zS5 : w5.cell? ⟨w.heap.size, 0, none⟩ = some (.int .i8 st0) ∧ w5.cell? ⟨w.heap.size, 1, none⟩ = some (.int .i16 sy0) ∧ w5.cell? ⟨w.heap.size, 2, none⟩ = some (.slice a0 len0 cap0) ∧ w5.cell? ⟨w.heap.size + 1, 0, none⟩ = some (.int .i8 x10) ∧ w5.cell? ⟨w.heap.size + 1, 1, none⟩ = some (.int .i16 x11) := ⟨cbl b5 zS4.1, cbl b5 zS4.2.1, cbl b5 zS4.2.2.1, cbl b5 zS4.2.2.2.1, cbl b5 zS4.2.2.2.2⟩))
  have c3 : Below w.heap.size w w3 := blink c2 b3
  have hs3 : w2.heap.size ≤ w3.heap.size := b3.size
  have c4 : Below w.heap.size w w4 := blink c3 b4
  have hs4 : w3.heap.size ≤ w4.heap.size := b4.size
  have c5 : Below w.heap.size w w5 := blink c4 b5
  have hs5 : w4.heap.size ≤ w5.heap.size := b5.size
  clear zS3 zS4 zS5 SD2 CD2 BD2
  have lso0 : Hid (∀ k, Value.ownBlock sv0 = some k → w4.heap.size ≤ k ∧ k < w5.heap.size) := Lib.hid so0.block
  have va0_0_5 : w5.cell? ⟨w.heap.size, 0, none⟩ = some (.int .i8 st0) := (((((BX0).below b2).below b3).below b4).below b5).at 0
  have va0_1_5 : w5.cell? ⟨w.heap.size, 1, none⟩ = some (.int .i16 sy0) := (((((BX0).below b2).below b3).below b4).below b5).at 1
  have va0_2_5 : w5.cell? ⟨w.heap.size, 2, none⟩ = some (.slice a0 len0 cap0) := (((((BX0).below b2).below b3).below b4).below b5).at 2
  have la0_5 : w.heap.size < w5.heap.size := (((((BX0).below b2).below b3).below b4).below b5).lt
  go_wp2_with fail
  refine (toNet_any st0 sy0 a0 len0 cap0 ps0 _ (hr0.below c5) HL0.out).mono ?_
  rintro e w6 ⟨g6, rfl, o6, b6⟩
  have c6 : Below w.heap.size w w6 := blink c5 b6
  have hs6 : w5.heap.size ≤ w6.heap.size := b6.size
  have lo6 : Hid (∀ k, Value.ownBlock (.slice (some ⟨g6, 0, none⟩) len0 len0) = some k → w5.heap.size ≤ k ∧ k < w6.heap.size) := Lib.hid o6.block
  have va0_0_6 : w6.cell? ⟨w.heap.size, 0, none⟩ = some (.int .i8 st0) := ((((((BX0).below b2).below b3).below b4).below b5).below b6).at 0
  have va0_1_6 : w6.cell? ⟨w.heap.size, 1, none⟩ = some (.int .i16 sy0) := ((((((BX0).below b2).below b3).below b4).below b5).below b6).at 1
  have va0_2_6 : w6.cell? ⟨w.heap.size, 2, none⟩ = some (.slice a0 len0 cap0) := ((((((BX0).below b2).below b3).below b4).below b5).below b6).at 2
  have la0_6 : w.heap.size < w6.heap.size := ((((((BX0).below b2).below b3).below b4).below b5).below b6).lt
  have va1_0_6 : w6.cell? ⟨w.heap.size + 1, 0, none⟩ = some (.int .i8 x10) := ((((((BX1).below b2).below b3).below b4).below b5).below b6).at 0
  have va1_1_6 : w6.cell? ⟨w.heap.size + 1, 1, none⟩ = some (.int .i16 x11) := ((((((BX1).below b2).below b3).below b4).below b5).below b6).at 1
  have la1_6 : w.heap.size + 1 < w6.heap.size := ((((((BX1).below b2).below b3).below b4).below b5).below b6).lt
  go_wp2_with fail
  have b7 : Below w6.heap.size w6 (w6.alloc (.cells #[.int .i8 st0, .int .i16 sy0, .slice (some ⟨g6, 0, none⟩) len0 len0] 35)) := (Below.refl _ _).alloc (Nat.le_refl _) _
  have BY0 : BlkA (w6.alloc (.cells #[.int .i8 st0, .int .i16 sy0, .slice (some ⟨g6, 0, none⟩) len0 len0] 35)) w6.heap.size 35 #[.int .i8 st0, .int .i16 sy0, .slice (some ⟨g6, 0, none⟩) len0 len0] := BlkA.new rfl _ _
  generalize (w6.alloc (.cells #[.int .i8 st0, .int .i16 sy0, .slice (some ⟨g6, 0, none⟩) len0 len0] 35)) = w7 at b7 BY0 ⊢
  have c7 : Below w.heap.size w w7 := blink c6 b7
  have hs7 : w6.heap.size ≤ w7.heap.size := b7.size
  have hx0 : w6.heap.size < w7.heap.size := BY0.lt
  have CD7 : Below w.heap.size w w7.drew := Below.drew c7
  have BD7 : Below w7.heap.size w7 w7.drew := (Below.refl _ _).drew
  have SD7 : w7.drew.cell? ⟨w.heap.size, 0, none⟩ = some (.int .i8 st0) ∧ w7.drew.cell? ⟨w.heap.size, 1, none⟩ = some (.int .i16 sy0) ∧ w7.drew.cell? ⟨w.heap.size, 2, none⟩ = some (.slice a0 len0 cap0) ∧ w7.drew.cell? ⟨w.heap.size + 1, 0, none⟩ = some (.int .i8 x10) ∧ w7.drew.cell? ⟨w.heap.size + 1, 1, none⟩ = some (.int .i16 x11) ∧ w7.drew.cell? ⟨w6.heap.size, 0, none⟩ = some (.int .i8 st0) ∧ w7.drew.cell? ⟨w6.heap.size, 1, none⟩ = some (.int .i16 sy0) ∧ w7.drew.cell? ⟨w6.heap.size, 2, none⟩ = some (.slice (some ⟨g6, 0, none⟩) len0 len0) := ⟨cbl BD7 ((((((((BX0).below b2).below b3).below b4).below b5).below b6).below b7).at 0), cbl BD7 ((((((((BX0).below b2).below b3).below b4).below b5).below b6).below b7).at 1), cbl BD7 ((((((((BX0).below b2).below b3).below b4).below b5).below b6).below b7).at 2), cbl BD7 ((((((((BX1).below b2).below b3).below b4).below b5).below b6).below b7).at 0), cbl BD7 ((((((((BX1).below b2).below b3).below b4).below b5).below b6).below b7).at 1), cbl BD7 ((BY0).at 0), cbl BD7 ((BY0).at 1), cbl BD7 ((BY0).at 2)⟩
  go_wp2_with fail
  go_region_held3 (fun v => v.cell? ⟨w.heap.size, 0, none⟩ = some (.int .i8 st0) ∧ v.cell? ⟨w.heap.size, 1, none⟩ = some (.int .i16 sy0) ∧ v.cell? ⟨w.heap.size, 2, none⟩ = some (.slice a0 len0 cap0) ∧ v.cell? ⟨w.heap.size + 1, 0, none⟩ = some (.int .i8 x10) ∧ v.cell? ⟨w.heap.size + 1, 1, none⟩ = some (.int .i16 x11) ∧ v.cell? ⟨w6.heap.size, 0, none⟩ = some (.int .i8 st0) ∧ v.cell? ⟨w6.heap.size, 1, none⟩ = some (.int .i16 sy0) ∧ v.cell? ⟨w6.heap.size, 2, none⟩ = some (.slice (some ⟨g6, 0, none⟩) len0 len0)) (first | exact zS9 | exact zS8 | exact SD7) (first | (go_at_call 17; (with_reducible refine (toScan_one x10 x11 _).mono ?_); rintro e w8 ⟨rfl, d8⟩; have b8 : Below w7.heap.size w7 w8 := BD7.trans (d8.mono (Nat.le_refl _)); have zS8 : w8.cell? ⟨w.heap.size, 0, none⟩ = some (.int .i8 st0) ∧ w8.cell? ⟨w.heap.size, 1, none⟩ = some (.int .i16 sy0) ∧ w8.cell? ⟨w.heap.size, 2, none⟩ = some (.slice a0 len0 cap0) ∧ w8.cell? ⟨w.heap.size + 1, 0, none⟩ = some (.int .i8 x10) ∧ w8.cell? ⟨w.heap.size + 1, 1, none⟩ = some (.int .i16 x11) ∧ w8.cell? ⟨w6.heap.size, 0, none⟩ = some (.int .i8 st0) ∧ w8.cell? ⟨w6.heap.size, 1, none⟩ = some (.int .i16 sy0) ∧ w8.cell? ⟨w6.heap.size, 2, none⟩ = some (.slice (some ⟨g6, 0, none⟩) len0 len0) := ⟨cbl d8 SD7.1, cbl d8 SD7.2.1, cbl d8 SD7.2.2.1, cbl d8 SD7.2.2.2.1, cbl d8 SD7.2.2.2.2.1, cbl d8 SD7.2.2.2.2.2.1, cbl d8 SD7.2.2.2.2.2.2.1, cbl d8 SD7.2.2.2.2.2.2.2⟩) | (go_at_call 18; (with_reducible refine (iea_any _ _ _ ps0 _ _ _ HF0.out HV1.out ((((o6).below b7).below BD7).below d8).reads).mono ?_); rintro e w9 ⟨gv0, rfl, go0, b9⟩; have zS9 : w9.cell? ⟨w.heap.size, 0, none⟩ = some (.int .i8 st0) ∧ w9.cell? ⟨w.heap.size, 1, none⟩ = some (.int .i16 sy0) ∧ w9.cell? ⟨w.heap.size, 2, none⟩ = some (.slice a0 len0 cap0) ∧ w9.cell? ⟨w.heap.size + 1, 0, none⟩ = some (.int .i8 x10) ∧ w9.cell? ⟨w.heap.size + 1, 1, none⟩ = some (.int .i16 x11) ∧ w9.cell? ⟨w6.heap.size, 0, none⟩ = some (.int .i8 st0) ∧ w9.cell? ⟨w6.heap.size, 1, none⟩ = some (.int .i16 sy0) ∧ w9.cell? ⟨w6.heap.size, 2, none⟩ = some (.slice (some ⟨g6, 0, none⟩) len0 len0) := ⟨cbl b9 zS8.1, cbl b9 zS8.2.1, cbl b9 zS8.2.2.1, cbl b9 zS8.2.2.2.1, cbl b9 zS8.2.2.2.2.1, cbl b9 zS8.2.2.2.2.2.1, cbl b9 zS8.2.2.2.2.2.2.1, cbl b9 zS8.2.2.2.2.2.2.2⟩))
  have c8 : Below w.heap.size w w8 := blink c7 b8
  have hs8 : w7.heap.size ≤ w8.heap.size := b8.size
  have c9 : Below w.heap.size w w9 := blink c8 b9
  have hs9 : w8.heap.size ≤ w9.heap.size := b9.size
  clear zS8 zS9 SD7 CD7 BD7
  have lgo0 : Hid (∀ k, Value.ownBlock gv0 = some k → w8.heap.size ≤ k ∧ k < w9.heap.size) := Lib.hid go0.block
  go_wp2_with fail
  refine (eqI_any _ _ (eaR st0 sy0 ps0 x10 x11) (eaR st0 sy0 ps0 x10 x11) _ (go0).reads (((((so0).below b6).below b7).below b8).below b9).reads (HLB0.out) (HLB0.out)).mono ?_
  rintro e w10 ⟨rfl, b10⟩
  have c10 : Below w.heap.size w w10 := blink c9 b10
  have hs10 : w9.heap.size ≤ w10.heap.size := b10.size
  rw [eqB_true rfl]
  have CD10 : Below w.heap.size w w10.drew := Below.drew c10
  have BD10 : Below w10.heap.size w10 w10.drew := (Below.refl _ _).drew
  have SD10 : w10.drew.cell? ⟨w.heap.size, 0, none⟩ = some (.int .i8 st0) ∧ w10.drew.cell? ⟨w.heap.size, 1, none⟩ = some (.int .i16 sy0) ∧ w10.drew.cell? ⟨w.heap.size, 2, none⟩ = some (.slice a0 len0 cap0) ∧ w10.drew.cell? ⟨w.heap.size + 1, 0, none⟩ = some (.int .i8 x10) ∧ w10.drew.cell? ⟨w.heap.size + 1, 1, none⟩ = some (.int .i16 x11) ∧ w10.drew.cell? ⟨w6.heap.size, 0, none⟩ = some (.int .i8 st0) ∧ w10.drew.cell? ⟨w6.heap.size, 1, none⟩ = some (.int .i16 sy0) ∧ w10.drew.cell? ⟨w6.heap.size, 2, none⟩ = some (.slice (some ⟨g6, 0, none⟩) len0 len0) := ⟨cbl BD10 (((((((((((BX0).below b2).below b3).below b4).below b5).below b6).below b7).below b8).below b9).below b10).at 0), cbl BD10 (((((((((((BX0).below b2).below b3).below b4).below b5).below b6).below b7).below b8).below b9).below b10).at 1), cbl BD10 (((((((((((BX0).below b2).below b3).below b4).below b5).below b6).below b7).below b8).below b9).below b10).at 2), cbl BD10 (((((((((((BX1).below b2).below b3).below b4).below b5).below b6).below b7).below b8).below b9).below b10).at 0), cbl BD10 (((((((((((BX1).below b2).below b3).below b4).below b5).below b6).below b7).below b8).below b9).below b10).at 1), cbl BD10 (((((BY0).below b8).below b9).below b10).at 0), cbl BD10 (((((BY0).below b8).below b9).below b10).at 1), cbl BD10 (((((BY0).below b8).below b9).below b10).at 2)⟩
  go_wp2_with fail
  go_region_held3 (fun v => v.cell? ⟨w.heap.size, 0, none⟩ = some (.int .i8 st0) ∧ v.cell? ⟨w.heap.size, 1, none⟩ = some (.int .i16 sy0) ∧ v.cell? ⟨w.heap.size, 2, none⟩ = some (.slice a0 len0 cap0) ∧ v.cell? ⟨w.heap.size + 1, 0, none⟩ = some (.int .i8 x10) ∧ v.cell? ⟨w.heap.size + 1, 1, none⟩ = some (.int .i16 x11) ∧ v.cell? ⟨w6.heap.size, 0, none⟩ = some (.int .i8 st0) ∧ v.cell? ⟨w6.heap.size, 1, none⟩ = some (.int .i16 sy0) ∧ v.cell? ⟨w6.heap.size, 2, none⟩ = some (.slice (some ⟨g6, 0, none⟩) len0 len0)) (first | exact zS12 | exact zS11 | exact SD10) (first | (go_at_call 16; (with_reducible refine (toNet_any st0 sy0 a0 len0 cap0 ps0 _ (hr0.below CD10) HL0.out).mono ?_); rintro e w11 ⟨g11, rfl, o11, d11⟩; have b11 : Below w10.heap.size w10 w11 := BD10.trans (d11.mono (Nat.le_refl _)); have zS11 : w11.cell? ⟨w.heap.size, 0, none⟩ = some (.int .i8 st0) ∧ w11.cell? ⟨w.heap.size, 1, none⟩ = some (.int .i16 sy0) ∧ w11.cell? ⟨w.heap.size, 2, none⟩ = some (.slice a0 len0 cap0) ∧ w11.cell? ⟨w.heap.size + 1, 0, none⟩ = some (.int .i8 x10) ∧ w11.cell? ⟨w.heap.size + 1, 1, none⟩ = some (.int .i16 x11) ∧ w11.cell? ⟨w6.heap.size, 0, none⟩ = some (.int .i8 st0) ∧ w11.cell? ⟨w6.heap.size, 1, none⟩ = some (.int .i16 sy0) ∧ w11.cell? ⟨w6.heap.size, 2, none⟩ = some (.slice (some ⟨g6, 0, none⟩) len0 len0) := ⟨cbl d11 SD10.1, cbl d11 SD10.2.1, cbl d11 SD10.2.2.1, cbl d11 SD10.2.2.2.1, cbl d11 SD10.2.2.2.2.1, cbl d11 SD10.2.2.2.2.2.1, cbl d11 SD10.2.2.2.2.2.2.1, cbl d11 SD10.2.2.2.2.2.2.2⟩) | (go_at_call 20; (with_reducible refine (eqNet_eq st0 sy0 _ _ ps0 _ (((((((o6).below b7).below b8).below b9).below b10).below BD10).below d11).reads o11.reads HX0.out).mono ?_); rintro e w12 ⟨rfl, b12⟩; have zS12 : w12.cell? ⟨w.heap.size, 0, none⟩ = some (.int .i8 st0) ∧ w12.cell? ⟨w.heap.size, 1, none⟩ = some (.int .i16 sy0) ∧ w12.cell? ⟨w.heap.size, 2, none⟩ = some (.slice a0 len0 cap0) ∧ w12.cell? ⟨w.heap.size + 1, 0, none⟩ = some (.int .i8 x10) ∧ w12.cell? ⟨w.heap.size + 1, 1, none⟩ = some (.int .i16 x11) ∧ w12.cell? ⟨w6.heap.size, 0, none⟩ = some (.int .i8 st0) ∧ w12.cell? ⟨w6.heap.size, 1, none⟩ = some (.int .i16 sy0) ∧ w12.cell? ⟨w6.heap.size, 2, none⟩ = some (.slice (some ⟨g6, 0, none⟩) len0 len0) := ⟨cbl b12 zS11.1, cbl b12 zS11.2.1, cbl b12 zS11.2.2.1, cbl b12 zS11.2.2.2.1, cbl b12 zS11.2.2.2.2.1, cbl b12 zS11.2.2.2.2.2.1, cbl b12 zS11.2.2.2.2.2.2.1, cbl b12 zS11.2.2.2.2.2.2.2⟩))
  have c11 : Below w.heap.size w w11 := blink c10 b11
  have hs11 : w10.heap.size ≤ w11.heap.size := b11.size
  have c12 : Below w.heap.size w w12 := blink c11 b12
  have hs12 : w11.heap.size ≤ w12.heap.size := b12.size
  clear zS11 zS12 SD10 CD10 BD10
  have vx0_0_12 : w12.cell? ⟨w6.heap.size, 0, none⟩ = some (.int .i8 st0) := ((((((BY0).below b8).below b9).below b10).below b11).below b12).at 0
  have vx0_1_12 : w12.cell? ⟨w6.heap.size, 1, none⟩ = some (.int .i16 sy0) := ((((((BY0).below b8).below b9).below b10).below b11).below b12).at 1
  have vx0_2_12 : w12.cell? ⟨w6.heap.size, 2, none⟩ = some (.slice (some ⟨g6, 0, none⟩) len0 len0) := ((((((BY0).below b8).below b9).below b10).below b11).below b12).at 2
  have lx0_12 : w6.heap.size < w12.heap.size := ((((((BY0).below b8).below b9).below b10).below b11).below b12).lt
  go_wp2_with fail
  refine (markNet_any _ _ st0 sy0 _ ps0 _ _ (((((((o6).below b7).below b8).below b9).below b10).below b11).below b12) (by omega) (by omega) HX0.out).mono ?_
  rintro e w13 ⟨rfl, mk1, G13⟩
  have K13 : KeepsOut w5.heap.size w6.heap.size w12 w13 := G13 _ _ (fun k hk => by have := lo6.out k hk; omega)
  have c13 : Below w.heap.size w w13 := kout_below c12 K13 (by omega) (by omega)
  have hs13 : w12.heap.size ≤ w13.heap.size := K13.size
  go_wp2_with fail
  refine (eqI_any _ _ (eaR st0 sy0 ps0 x10 x11) (eaR st0 sy0 ps0 x10 x11) _ (((((go0).below b10).below b11).below b12).out K13 (fun k hk => by have := lgo0.out k hk; omega)).reads (((((((((so0).below b6).below b7).below b8).below b9).below b10).below b11).below b12).out K13 (fun k hk => by have := lso0.out k hk; omega)).reads (HLB0.out) (HLB0.out)).mono ?_
  rintro e w14 ⟨rfl, b14⟩
  have c14 : Below w.heap.size w w14 := blink c13 b14
  have hs14 : w13.heap.size ≤ w14.heap.size := b14.size
  rw [eqB_true rfl]
  go_wp2_with fail
  refine (mark_any _ _ (eaR st0 sy0 ps0 x10 x11) _ _ ((((((go0).below b10).below b11).below b12).out K13 (fun k hk => by have := lgo0.out k hk; omega)).below b14) (by omega) (by omega) (HLB0.out)).mono ?_
  rintro e w15 ⟨rfl, mk2, g15⟩
  have K15 : KeepsOut w8.heap.size w9.heap.size w14 w15 := keepsOut_grown g15 (fun k hk => by have := lgo0.out k hk; omega)
  have c15 : Below w.heap.size w w15 := kout_below c14 K15 (by omega) (by omega)
  have hs15 : w14.heap.size ≤ w15.heap.size := K15.size
  have lmk2 : Hid (∀ k, Value.ownBlock gv0 = some k → w8.heap.size ≤ k ∧ k < w9.heap.size) := lgo0
  go_wp2_with fail
  refine (held_any _ _ _ _ (mk2).reads (by omega) (by omega) (HLB0.out)).mono ?_
  rintro e w16 ⟨rfl, b16⟩
  have c16 : Below w.heap.size w w16 := blink c15 b16
  have hs16 : w15.heap.size ≤ w16.heap.size := b16.size
  have CD16 : Below w.heap.size w w16.drew := Below.drew c16
  have BD16 : Below w16.heap.size w16 w16.drew := (Below.refl _ _).drew
  have SD16 : w16.drew.cell? ⟨w.heap.size, 0, none⟩ = some (.int .i8 st0) ∧ w16.drew.cell? ⟨w.heap.size, 1, none⟩ = some (.int .i16 sy0) ∧ w16.drew.cell? ⟨w.heap.size, 2, none⟩ = some (.slice a0 len0 cap0) ∧ w16.drew.cell? ⟨w.heap.size + 1, 0, none⟩ = some (.int .i8 x10) ∧ w16.drew.cell? ⟨w.heap.size + 1, 1, none⟩ = some (.int .i16 x11) ∧ w16.drew.cell? ⟨w6.heap.size, 0, none⟩ = some (.int .i8 st0) ∧ w16.drew.cell? ⟨w6.heap.size, 1, none⟩ = some (.int .i16 sy0) ∧ w16.drew.cell? ⟨w6.heap.size, 2, none⟩ = some (.slice (some ⟨g6, 0, none⟩) len0 len0) := ⟨cbl BD16 (((((((((((((((((BX0).below b2).below b3).below b4).below b5).below b6).below b7).below b8).below b9).below b10).below b11).below b12).out K13 (by omega)).below b14).out K15 (by omega)).below b16).at 0), cbl BD16 (((((((((((((((((BX0).below b2).below b3).below b4).below b5).below b6).below b7).below b8).below b9).below b10).below b11).below b12).out K13 (by omega)).below b14).out K15 (by omega)).below b16).at 1), cbl BD16 (((((((((((((((((BX0).below b2).below b3).below b4).below b5).below b6).below b7).below b8).below b9).below b10).below b11).below b12).out K13 (by omega)).below b14).out K15 (by omega)).below b16).at 2), cbl BD16 (((((((((((((((((BX1).below b2).below b3).below b4).below b5).below b6).below b7).below b8).below b9).below b10).below b11).below b12).out K13 (by omega)).below b14).out K15 (by omega)).below b16).at 0), cbl BD16 (((((((((((((((((BX1).below b2).below b3).below b4).below b5).below b6).below b7).below b8).below b9).below b10).below b11).below b12).out K13 (by omega)).below b14).out K15 (by omega)).below b16).at 1), cbl BD16 (((((((((((BY0).below b8).below b9).below b10).below b11).below b12).out K13 (by omega)).below b14).out K15 (by omega)).below b16).at 0), cbl BD16 (((((((((((BY0).below b8).below b9).below b10).below b11).below b12).out K13 (by omega)).below b14).out K15 (by omega)).below b16).at 1), cbl BD16 (((((((((((BY0).below b8).below b9).below b10).below b11).below b12).out K13 (by omega)).below b14).out K15 (by omega)).below b16).at 2)⟩
  go_wp2_with fail
  go_region_held3 (fun v => v.cell? ⟨w.heap.size, 0, none⟩ = some (.int .i8 st0) ∧ v.cell? ⟨w.heap.size, 1, none⟩ = some (.int .i16 sy0) ∧ v.cell? ⟨w.heap.size, 2, none⟩ = some (.slice a0 len0 cap0) ∧ v.cell? ⟨w.heap.size + 1, 0, none⟩ = some (.int .i8 x10) ∧ v.cell? ⟨w.heap.size + 1, 1, none⟩ = some (.int .i16 x11) ∧ v.cell? ⟨w6.heap.size, 0, none⟩ = some (.int .i8 st0) ∧ v.cell? ⟨w6.heap.size, 1, none⟩ = some (.int .i16 sy0) ∧ v.cell? ⟨w6.heap.size, 2, none⟩ = some (.slice (some ⟨g6, 0, none⟩) len0 len0)) (first | exact zS19 | exact zS18 | exact zS17 | exact SD16) (first | (go_at_call 16; (with_reducible refine (toNet_any st0 sy0 a0 len0 cap0 ps0 _ (hr0.below CD16) HL0.out).mono ?_); rintro e w17 ⟨g17, rfl, o17, d17⟩; have b17 : Below w16.heap.size w16 w17 := BD16.trans (d17.mono (Nat.le_refl _)); have zS17 : w17.cell? ⟨w.heap.size, 0, none⟩ = some (.int .i8 st0) ∧ w17.cell? ⟨w.heap.size, 1, none⟩ = some (.int .i16 sy0) ∧ w17.cell? ⟨w.heap.size, 2, none⟩ = some (.slice a0 len0 cap0) ∧ w17.cell? ⟨w.heap.size + 1, 0, none⟩ = some (.int .i8 x10) ∧ w17.cell? ⟨w.heap.size + 1, 1, none⟩ = some (.int .i16 x11) ∧ w17.cell? ⟨w6.heap.size, 0, none⟩ = some (.int .i8 st0) ∧ w17.cell? ⟨w6.heap.size, 1, none⟩ = some (.int .i16 sy0) ∧ w17.cell? ⟨w6.heap.size, 2, none⟩ = some (.slice (some ⟨g6, 0, none⟩) len0 len0) := ⟨cbl d17 SD16.1, cbl d17 SD16.2.1, cbl d17 SD16.2.2.1, cbl d17 SD16.2.2.2.1, cbl d17 SD16.2.2.2.2.1, cbl d17 SD16.2.2.2.2.2.1, cbl d17 SD16.2.2.2.2.2.2.1, cbl d17 SD16.2.2.2.2.2.2.2⟩) | (go_at_call 17; (with_reducible refine (toScan_one x10 x11 _).mono ?_); rintro e w18 ⟨rfl, b18⟩; have zS18 : w18.cell? ⟨w.heap.size, 0, none⟩ = some (.int .i8 st0) ∧ w18.cell? ⟨w.heap.size, 1, none⟩ = some (.int .i16 sy0) ∧ w18.cell? ⟨w.heap.size, 2, none⟩ = some (.slice a0 len0 cap0) ∧ w18.cell? ⟨w.heap.size + 1, 0, none⟩ = some (.int .i8 x10) ∧ w18.cell? ⟨w.heap.size + 1, 1, none⟩ = some (.int .i16 x11) ∧ w18.cell? ⟨w6.heap.size, 0, none⟩ = some (.int .i8 st0) ∧ w18.cell? ⟨w6.heap.size, 1, none⟩ = some (.int .i16 sy0) ∧ w18.cell? ⟨w6.heap.size, 2, none⟩ = some (.slice (some ⟨g6, 0, none⟩) len0 len0) := ⟨cbl b18 zS17.1, cbl b18 zS17.2.1, cbl b18 zS17.2.2.1, cbl b18 zS17.2.2.2.1, cbl b18 zS17.2.2.2.2.1, cbl b18 zS17.2.2.2.2.2.1, cbl b18 zS17.2.2.2.2.2.2.1, cbl b18 zS17.2.2.2.2.2.2.2⟩) | (go_at_call 18; (with_reducible refine (iea_any _ _ _ ps0 _ _ _ HF0.out HV1.out (o17.below b18).reads).mono ?_); rintro e w19 ⟨hv0, rfl, ho0, b19⟩; have zS19 : w19.cell? ⟨w.heap.size, 0, none⟩ = some (.int .i8 st0) ∧ w19.cell? ⟨w.heap.size, 1, none⟩ = some (.int .i16 sy0) ∧ w19.cell? ⟨w.heap.size, 2, none⟩ = some (.slice a0 len0 cap0) ∧ w19.cell? ⟨w.heap.size + 1, 0, none⟩ = some (.int .i8 x10) ∧ w19.cell? ⟨w.heap.size + 1, 1, none⟩ = some (.int .i16 x11) ∧ w19.cell? ⟨w6.heap.size, 0, none⟩ = some (.int .i8 st0) ∧ w19.cell? ⟨w6.heap.size, 1, none⟩ = some (.int .i16 sy0) ∧ w19.cell? ⟨w6.heap.size, 2, none⟩ = some (.slice (some ⟨g6, 0, none⟩) len0 len0) := ⟨cbl b19 zS18.1, cbl b19 zS18.2.1, cbl b19 zS18.2.2.1, cbl b19 zS18.2.2.2.1, cbl b19 zS18.2.2.2.2.1, cbl b19 zS18.2.2.2.2.2.1, cbl b19 zS18.2.2.2.2.2.2.1, cbl b19 zS18.2.2.2.2.2.2.2⟩))
  have c17 : Below w.heap.size w w17 := blink c16 b17
  have hs17 : w16.heap.size ≤ w17.heap.size := b17.size
  have c18 : Below w.heap.size w w18 := blink c17 b18
  have hs18 : w17.heap.size ≤ w18.heap.size := b18.size
  have c19 : Below w.heap.size w w19 := blink c18 b19
  have hs19 : w18.heap.size ≤ w19.heap.size := b19.size
  clear zS17 zS18 zS19 SD16 CD16 BD16
  have lho0 : Hid (∀ k, Value.ownBlock hv0 = some k → w18.heap.size ≤ k ∧ k < w19.heap.size) := Lib.hid ho0.block
  go_wp2_with fail
  refine (eqI_any _ _ (eaR st0 sy0 ps0 x10 x11) (eaR st0 sy0 ps0 x10 x11) _ (ho0).reads (((((((((((((((so0).below b6).below b7).below b8).below b9).below b10).below b11).below b12).out K13 (fun k hk => by have := lso0.out k hk; omega)).below b14).out K15 (fun k hk => by have := lso0.out k hk; omega)).below b16).below b17).below b18).below b19).reads (HLB0.out) (HLB0.out)).mono ?_
  rintro e w20 ⟨rfl, b20⟩
  have c20 : Below w.heap.size w w20 := blink c19 b20
  have hs20 : w19.heap.size ≤ w20.heap.size := b20.size
  rw [eqB_true rfl]
  go_wp2_with fail
  refine (held_any _ _ _ _ ((((((mk2).below b16).below b17).below b18).below b19).below b20).reads (by omega) (by omega) (HLB0.out)).mono ?_
  rintro e w21 ⟨rfl, b21⟩
  have c21 : Below w.heap.size w w21 := blink c20 b21
  have hs21 : w20.heap.size ≤ w21.heap.size := b21.size
  go_wp2_with fail
  go_ret
  exact ⟨rfl, c21⟩
end Go.Proofs.Ytloelbaaolhlhaa.fnExactEarliestAt
namespace Go.Proofs.Ytloelbaaolhlhaa.fnExactEarliestAt
open Go.ChangeShapes Go.WideShapes Go.ChangeAt Go.RowKit
open Go.ChangeMaps (open_string shut_string)
set_option linter.unusedVariables false

theorem own : ownKnob Try.prog.godebug = none := by kernel_rfl
theorem laidOut : laidOutB Try.prog = true := by kernel_rfl

set_option maxHeartbeats 1000000 in
set_option maxRecDepth 100000 in
theorem lifted (os : Os) (started : os.Started) (H : Type) (enc : TypeId × Value → H) :
    ReturnsInHanded {} Try.checked os 3 .any (Rows.fnExactEarliestAtSpec.pre6 enc Try.prog Try.f3 Rows.fnExactEarliestAtRow.domain false) (Rows.fnExactEarliestAtSpec.post enc Try.prog Try.f3 false true false false) := by
  refine returnsInHanded_of_change (C := Try.checked) own started (by kernel_rfl) Try.func3
    (ChangeSpec.witness6 (enc := enc) (C := Try.checked) false ⟨#[], #[.agg #[.int .i8 0, .int .i16 0, .slice none 0 0], .agg #[.int .i8 0, .int .i16 0]], []⟩ 8 (by kernel_rfl) (by kernel_rfl) (by kernel_rfl) (by kernel_rfl)) ?_
  intro W base args ds gs before hval0 hW hcnd _
  have hval : ∀ (j : Nat) t v, Try.f3.params[j]? = some t → args[j]? = some v → Value.okWide Try.prog W .any base t v := hval0
  have hW' := hW
  obtain ⟨p, q, hA0, hV, rfl, hfz, hnd⟩ := hW
  have hA : DataW.TrodAll enc Try.prog W 0 (fun _ => true) true Try.f3.params.toList args.toList ds p := hA0
  rw [Try.params3] at hA hval
  obtain ⟨v0, vs0, d0, ds0, p0, q0, hargs, rfl, rfl, h0, r0⟩ := trodAll_cons hA
  obtain ⟨v1, vs1, d1, ds1, p1, q1, rfl, rfl, rfl, h1, r1⟩ := trodAll_cons r0
  obtain ⟨rfl, rfl, rfl⟩ := trodAll_nil r1
  obtain rfl : args = #[v0, v1] := by cases args; simp_all
  obtain ⟨rfl, rfl⟩ := trodVars_none hV
  have k0 := h0
  have lt0 : ∀ x ∈ p0, x.block < W.heap.size := by obtain ⟨m, hm⟩ := k0; exact DataW.trod_lt m _ _ _ hm
  obtain ⟨u00, u01, u02, y00, y01, y02, n0, rfl, rfl, rfl, t00, t01, t02⟩ := Go.Joins.open_agg3 Try.underlying26 (by kernel_rfl) (by kernel_rfl) (hval 0 26 v0 rfl rfl) h0
  obtain ⟨x00, e00, _, wf00⟩ := DataW.trod_int Try.underlying22 t00
  simp only [List.cons.injEq, and_true] at e00
  subst e00
  obtain ⟨x01, e01, _, wf01⟩ := DataW.trod_int Try.underlying23 t01
  simp only [List.cons.injEq, and_true] at e01
  subst e01
  obtain ⟨a0, len0, cap0, z0, rfl, w0⟩ := openNetLanes t02
  have wn0 : (-128 ≤ x00 ∧ x00 ≤ 127) ∧ (-32768 ≤ x01 ∧ x01 ≤ 32767) := by
    simp [Lit.wf, IntKind.min, IntKind.max, IntKind.signed, IntKind.bits] at wf00 wf01
    omega
  have k1 := h1
  have lt1 : ∀ x ∈ p1, x.block < W.heap.size := by obtain ⟨m, hm⟩ := k1; exact DataW.trod_lt m _ _ _ hm
  obtain ⟨u10, u11, y10, y11, n1, rfl, rfl, rfl, t10, t11⟩ := Go.Joins.open_agg2 Try.underlying28 (by kernel_rfl) (by kernel_rfl) (hval 1 28 v1 rfl rfl) h1
  obtain ⟨x10, e10, _, wf10⟩ := DataW.trod_int Try.underlying22 t10
  simp only [List.cons.injEq, and_true] at e10
  subst e10
  obtain ⟨x11, e11, _, wf11⟩ := DataW.trod_int Try.underlying23 t11
  simp only [List.cons.injEq, and_true] at e11
  subst e11
  have w1 : FitSc (x10, x11) := by
    simp [Lit.wf, IntKind.min, IntKind.max, IntKind.signed, IntKind.bits] at wf10 wf11
    unfold FitSc; simp only; omega
  clear hA0 hval0
  refine (walk (w := W) x00 x01 a0 len0 cap0 z0 x10 x11 ⟨w0, wn0⟩ w1).mono fun e W' ⟨he, bel⟩ => ?_
  subst he
  exact ⟨_, rfl, _, _, _, [], _, [], hW', trodAll_mk1 (shut_bool Try.underlying4 _), (trodAll_cons_mk (Below.trod laidOut (by kernel_rfl) (of_decide_eq_true (by kernel_rfl)) k0 bel lt0) (trodAll_cons_mk (Below.trod laidOut (by kernel_rfl) (of_decide_eq_true (by kernel_rfl)) k1 bel lt1) trodAll_mk0)), rfl, bel.frame _, fun h => by cases h⟩

theorem over : Rows.fnExactEarliestAtRow.holds Try.pinned (OpenSpec.ofChange Rows.fnExactEarliestAtSpec) :=
  OpenClaim.holds_of_wide 3 Try.f3 rfl rfl rfl rfl rfl rfl rfl ⟨rfl, rfl, rfl, rfl, rfl⟩ rfl rfl rfl rfl rfl (by kernel_rfl) Try.func3 (by kernel_rfl)
    (of_decide_eq_true (by kernel_rfl)) (by unfold Func.isWrapper; first | (rw [if_pos (by decide +kernel)]; kernel_rfl) | (rw [if_neg (by decide +kernel)]; exact ⟨rfl, rfl⟩))
    (fun os started H enc _ => lifted os started H enc)

theorem proved : Rows.FnExactEarliestAtSaid := over
#print axioms proved
end Go.Proofs.Ytloelbaaolhlhaa.fnExactEarliestAt
