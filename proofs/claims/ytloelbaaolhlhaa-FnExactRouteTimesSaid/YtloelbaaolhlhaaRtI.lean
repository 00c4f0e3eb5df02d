/-
  The program's RouteTimes.
-/
import Derived.Test.YtloelbaaolhlhaaRtK
import Derived.Test.YtloelbaaolhlhaaRInt64A2
import Derived.Test.YtloelbaaolhlhaaEInt64A2
namespace Go.Proofs.Ytloelbaaolhlhaa
open Go Go.RowKit
set_option linter.unusedVariables false

/-- A result: pairs, the call's own, and a code. -/
def RetA1 (B : Nat) (w : World) (xs : List (Int × Int)) (c : Int) (e : Ending) (w' : World) : Prop := ∃ v, e = .returned (.tuple #[v, .int .i64 c]) ∧ OwnA 102 B w' v xs ∧ Below w.heap.size w w'
theorem ret_vc {u : Value} {a b : Int} (h : a = b) : Ending.returned (.tuple #[u, .int .i64 a]) = .returned (.tuple #[u, .int .i64 b]) := by rw [h]
theorem infoA2 : (Try.prog.info? 102).map (fun i => (i.zero, i.size, i.bytes)) = some (some (.agg #[.int .i64 0, .int .i64 0]), 2, 16) := by kernel_rfl
theorem own_belowA {B n k : Nat} {T : TypeId} {w w' : World} {v : Value} {xs : List Value} (h : w.ownsRow B T n v k xs) (hb : Below w.heap.size w w') : w'.ownsRow B T n v k xs := by
  refine ⟨h.1, ?_⟩
  rcases h.2 with hn | ⟨g, cap, cur, rfl, hB, hg, rest⟩
  · exact .inl hn
  · exact .inr ⟨g, cap, cur, rfl, hB, by rw [hb.block g (Array.getElem?_eq_some_iff.1 hg).1]; exact hg, rest⟩
theorem pair_new (W : World) (x y : Value) (T : TypeId) : ∀ (j : Nat) (u : Value), [x, y][j]? = some u → (W.alloc (.cells #[x, y] T)).cell? ((⟨W.heap.size, 0, none⟩ : Addr).add j) = some u := by
  intro j u hj
  have hb : BlkA (W.alloc (.cells #[x, y] T)) W.heap.size T #[x, y] := BlkA.new rfl _ _
  rw [addr_add, Nat.zero_add]
  match j, hj with
  | 0, hj => simp at hj; subst hj; exact hb.at 0
  | 1, hj => simp at hj; subst hj; exact hb.at 1
theorem pair_ones (x y : Int) : ∀ u ∈ [Value.int .i64 x, .int .i64 y], u.oneCell' = true := by
  intro u hu
  simp only [List.mem_cons, List.not_mem_nil, or_false] at hu
  rcases hu with rfl | rfl <;> rfl
theorem reads_oneI {w : World} {b : Nat} {x : Int} (h : w.cell? ⟨b, 0, none⟩ = some (.int .i64 x)) : ReadsI w (.slice (some ⟨b, 0, none⟩) 1 1) [x] :=
  ⟨_, 1, rfl, fun _ => ⟨b, rfl, fun i hi => by
    match i, hi with
    | 0, _ => exact h⟩⟩

set_option maxHeartbeats 2000000 in
set_option maxRecDepth 100000 in
theorem irt_any (st sy : Int) (v u : Value) (ps : List Lan) (rt : List Int) (hr : Int) (w : World) (hn : FitN st sy ps) (hv : ReadsLa w v ps) (hu : ReadsI w u rt) (hx : rt.length ≤ 1048576) :
    Calls Try.prog 26 #[netV st sy v, u, .int .i64 hr] w (RetA1 w.heap.size w (rtR st sy ps rt hr) (rtC st sy ps rt hr)) := by
  obtain ⟨i0, hi, hz0, hz1, hz2⟩ := info_parts infoA2
  have hu0 := hu
  obtain ⟨ua, uc, rfl, hua⟩ := hu0
  have b1 : Below w.heap.size w ((w.alloc (.cells #[.int .i8 st, .int .i16 sy, v] 35)).alloc (.cells #[.int .i64 hr] 2)) := ((Below.refl _ _).alloc (Nat.le_refl _) _).alloc (by simp) _
  have BN : BlkA ((w.alloc (.cells #[.int .i8 st, .int .i16 sy, v] 35)).alloc (.cells #[.int .i64 hr] 2)) w.heap.size 35 #[.int .i8 st, .int .i16 sy, v] := (BlkA.new rfl _ _).alloc _
  have BH : BlkA ((w.alloc (.cells #[.int .i8 st, .int .i16 sy, v] 35)).alloc (.cells #[.int .i64 hr] 2)) (w.heap.size + 1) 2 #[.int .i64 hr] := BlkA.new (by simp) _ _
  obtain ⟨W1, hW⟩ : ∃ W, ((w.alloc (.cells #[.int .i8 st, .int .i16 sy, v] 35)).alloc (.cells #[.int .i64 hr] 2)) = W := ⟨_, rfl⟩
  rw [hW] at b1 BN BH
  have HW := Lib.hid hW
  have HB1 := Lib.hid b1
  have HBN := Lib.hid BN
  have HV1 := Lib.hid (hv.below b1)
  have HUW : Hid (rt ≠ [] → ∃ b, ua = some ⟨b, 0, none⟩ ∧ Cells w b rt) := Lib.hid hua
  have HCHK := Lib.hid (ichk_any st sy v ps (.slice none 0 0) (.slice ua rt.length uc) (.slice (some ⟨w.heap.size + 1, 0, none⟩) 1 1) [] rt [hr] W1 hn (hv.below b1) ⟨none, 0, rfl, fun h => absurd rfl h⟩ (fun p hp => by simp at hp) (hu.below b1) (reads_oneI (BH.at 0)) (by simp) hx (by simp))
  obtain ⟨m, hm⟩ : ∃ m, rt.length = m := ⟨_, rfl⟩
  have HM := Lib.hid hm
  rw [show chkC st sy ps [] rt [hr] = rtA st sy ps rt hr from rfl] at HCHK
  rw [hm] at HCHK hx ⊢
  clear hW b1 BN BH hv hu hua hn hm
  go_enter Try.func26, Try.ntmps26
  go_wp2_with fail
  rw [HW.out]
  refine HCHK.out.mono ?_
  rintro e w2 ⟨rfl, b2⟩
  have HB2 := Lib.hid (blink HB1.out b2)
  have BN2 := HBN.out.below b2
  have HV2 := Lib.hid (HV1.out.below b2)
  obtain ⟨c, hc⟩ : ∃ c, rtA st sy ps rt hr = c := ⟨_, rfl⟩
  have HC := Lib.hid hc
  rw [hc]
  clear b2 HCHK hc HW HV1 HBN
  by_cases hz : c = 0
  rotate_left
  · have HCC : Hid (rtC st sy ps rt hr = c) := Lib.hid (by unfold rtC; rw [HC.out, if_neg hz])
    have HR : Hid (rtR st sy ps rt hr = []) := Lib.hid (by unfold rtR; rw [HCC.out, if_neg hz])
    have t1 : (c != 0) = true := by simp [hz]
    have t0 : (c == 0) = false := by simp [hz]
    clear hz BN2
    go_wp2_with fail
    go_ret2
    exact ⟨_, ret_vc HCC.out.symm, by rw [HR.out]; exact World.ownsRow_nil _ _ _ _, HB2.out⟩
  subst hz
  obtain ⟨hok, hbt, ⟨hr0, hr3⟩, h12⟩ := rtA_ok HC.out
  have HOK := Lib.hid hok
  have HBTW := Lib.hid hbt
  have HH := Lib.hid (ihops_any st sy v ps w2 hok HV2.out)
  have HCC : Hid (rtOk sy ps rt hr m → rtC st sy ps rt hr = 0 ∧ rtR st sy ps rt hr = rtL sy ps rt hr m) := Lib.hid (fun h => by
    have e : rtC st sy ps rt hr = 0 := by unfold rtC; rw [if_pos HC.out, if_pos (by rw [HM.out]; exact h)]
    exact ⟨e, by unfold rtR; rw [if_pos e, HM.out]⟩)
  have HCN : Hid (¬ rtOk sy ps rt hr m → rtC st sy ps rt hr = 6 ∧ rtR st sy ps rt hr = []) := Lib.hid (fun h => by
    have e : rtC st sy ps rt hr = 6 := by unfold rtC; rw [if_pos HC.out, if_neg (by rw [HM.out]; exact h)]
    exact ⟨e, by unfold rtR; rw [e, if_neg (by decide)]⟩)
  rw [HM.out] at h12
  have m0 := BN2.at 0
  have m1 := BN2.at 1
  have m2 := BN2.at 2
  clear hok hbt BN2
  go_wp2_with fail
  refine HH.out.mono ?_
  rintro e w3 ⟨hv3, rfl, o3, b3⟩
  have HR3 := Lib.hid (OwnLa.reads o3)
  have HB3 := Lib.hid (blink HB2.out b3)
  clear m0 m1 m2 o3 b3 HH
  have HTK : Hid (∀ f t W, Below w3.heap.size w3 W → Calls Try.prog 70 #[hv3, .int .i64 f, .int .i64 t] W fun e w' => e = .returned (.tuple #[.int .i64 (tkTo (hopsL sy ps) f t ps.length).1, .int .i64 (tkTo (hopsL sy ps) f t ps.length).2]) ∧ Below W.heap.size W w') := Lib.hid (fun f t W hW => by
    have h := itakes_any hv3 (hopsL sy ps) f t W (hops_ok HOK.out) (by rw [hopsL_len]; exact HOK.out.2.2.1) (HR3.out.below hW)
    rw [hopsL_len] at h
    exact h)
  go_wp2_with fail
  go_loopw [10, 11, 12, 32] (fun gv lo hi i wr => ∃ k : Nat, k ≤ m ∧ i = .int .i64 k ∧ ((k = 0 ∧ lo = .int .i64 hr ∧ hi = .int .i64 hr) ∨ ∃ j, k = j + 1 ∧ lo = .int .i64 (rtS sy ps rt hr j).1 ∧ hi = .int .i64 (rtS sy ps rt hr j).2) ∧ rtOk sy ps rt hr k ∧ wr.ownsRow w3.heap.size 102 2 gv (rtL sy ps rt hr k).length (flatA (rtL sy ps rt hr k)) ∧ Below w3.heap.size w3 wr) (fun _ _ _ i _ => m - (intOf i).toNat)
  case atStart => exact ⟨0, Nat.zero_le _, rfl, .inl ⟨rfl, rfl, rfl⟩, rtOk.one _ _ _ _ (by omega), World.ownsRow_nil _ _ _ _, Below.refl _ _⟩
  case round =>
    obtain ⟨k, hk, rfl, hst, hrok, hown, hnx⟩ := hrel
    obtain ⟨wo, rfl⟩ : ∃ W, W = wr := ⟨_, rfl⟩
    have HN := Lib.hid hnx
    have HOW := Lib.hid hown
    have HRO := Lib.hid hrok
    by_cases hlt : k < m
    · have hkl : (k : Int) < (m : Int) := by omega
      have hk0 : (0 : Int) ≤ (k : Int) := by omega
      obtain ⟨b, rfl, hc⟩ := HUW.out (fun h => by have := HM.out; rw [h] at this; simp at this; omega)
      have hcw := (hc.below HB3.out).below hnx
      have cx : wo.cell? ⟨b, k, none⟩ = some (.int .i64 (rt.getD k 0)) := hcw k (by rw [HM.out]; exact hlt)
      rcases hst with ⟨rfl, rfl, rfl⟩ | ⟨j, rfl, rfl, rfl⟩
      · have HK0 : Hid (rtL sy ps rt hr (0 + 1) = rtL sy ps rt hr 0 ++ [(hr, hr)]) := Lib.hid (rtL_succ sy ps rt hr 0)
        obtain ⟨x, hx⟩ : ∃ x, rt.getD 0 0 = x := ⟨_, rfl⟩
        rw [hx] at cx
        have hn300 : ¬ (300 < hr) := by omega
        clear hx hcw hc hnx hrok HUW
        go_wp2_with (at_builtin; refine wpList_append_own _ rfl _ _ 44 rfl w3.heap.size 102 i0 (.agg #[.int .i64 0, .int .i64 0]) 2 16 Try.underlying44 hi hz0 hz1 hz2 rfl (by decide) _ _ _ rfl (hown.alloc _) ⟨wo.heap.size, 0, none⟩ 1 1 [.int .i64 hr, .int .i64 hr] rfl rfl (pair_new _ _ _ _) (pair_ones _ _) ?c3 ?c4 ?c5 ?_)
        case c3 => rw [rtL_len]; unfold maxLen; omega
        case c4 => rw [rtL_len]; omega
        case c5 => have := HN.out.size; simp; omega
        intro v' w9 hown' hgrow _
        have HO' : Hid (w9.ownsRow w3.heap.size 102 2 v' (rtL sy ps rt hr (0 + 1)).length (flatA (rtL sy ps rt hr (0 + 1)))) := Lib.hid (by
          rw [HK0.out, flatA_append, List.length_append]; exact hown')
        have HN' : Hid (Below w3.heap.size w3 w9) := Lib.hid ((HN.out.alloc HN.out.size _).grown hgrow (by have := HN.out.size; simp; omega) (fun i hi => (hown.lt i hi).1))
        clear hown' hgrow hown
        go_wp2
        go_roundw
        case rel => exact ⟨1, by omega, by go_num, .inr ⟨0, rfl, rfl, rfl⟩, rtOk.one _ _ _ _ (by omega), HO'.out, HN'.out⟩
        case measure => simp [intOf]; omega
      · have cy : wo.cell? ⟨b, j, none⟩ = some (.int .i64 (rt.getD j 0)) := hcw j (by rw [HM.out]; omega)
        have HKL : Hid (rtL sy ps rt hr (j + 1 + 1) = rtL sy ps rt hr (j + 1) ++ [rtS sy ps rt hr (j + 1)]) := Lib.hid (rtL_succ sy ps rt hr (j + 1))
        have hbd := rtS_bd HOK.out (rt := rt) ⟨hr0, hr3⟩ j
        have hbd2 := rtS_bd HOK.out (rt := rt) ⟨hr0, hr3⟩ (j + 1)
        have hnt := nx_tk HOK.out (rt.getD j 0) (rt.getD (j + 1) 0) ps.length (Nat.le_refl _)
        have hS : rtS sy ps rt hr (j + 1) = ((rtS sy ps rt hr j).1 + (nx ps (rt.getD j 0) (rt.getD (j + 1) 0)).1, (rtS sy ps rt hr j).2 + ((nx ps (rt.getD j 0) (rt.getD (j + 1) 0)).2.1 + sy)) := rfl
        have HGD : Hid (rtG sy ps rt hr j → rtOk sy ps rt hr (j + 2)) := Lib.hid (fun h => HRO.out.succ h)
        have HBADG : Hid (¬ rtG sy ps rt hr j → ¬ rtOk sy ps rt hr m) := Lib.hid (fun h h2 => h (h2 j (by omega)))
        have HGI : Hid (rtG sy ps rt hr j ↔ (nx ps (rt.getD j 0) (rt.getD (j + 1) 0)).2.2 = true ∧ (rtS sy ps rt hr (j + 1)).1 ≤ 300) := Lib.hid Iff.rfl
        have HCALL := Lib.hid (HTK.out (rt.getD j 0) (rt.getD (j + 1) 0) wo hnx)
        have hjj : ((j + 1 : Nat) : Int) - 1 = (j : Int) := by omega
        have hw1 : IntKind.i64.wrap (((j + 1 : Nat) : Int) - 1) = (j : Int) := by rw [hjj]; exact IntWalk.i64_in _ (by omega)
        have hw1' : IntKind.i64.wrap ((j : Int) + 1 - 1) = (j : Int) := by rw [show (j : Int) + 1 - 1 = (j : Int) by omega]; exact IntWalk.i64_in _ (by omega)
        have hj0 : (0 : Int) ≤ (j : Int) := by omega
        have hjm : (j : Int) < (m : Int) := by omega
        have hjm' : j < m := by omega
        obtain ⟨l0, hl0⟩ : ∃ l, (rtS sy ps rt hr j).1 = l := ⟨_, rfl⟩
        obtain ⟨h0, hh0⟩ : ∃ l, (rtS sy ps rt hr j).2 = l := ⟨_, rfl⟩
        obtain ⟨T, hT⟩ : ∃ T, tkTo (hopsL sy ps) (rt.getD j 0) (rt.getD (j + 1) 0) ps.length = T := ⟨_, rfl⟩
        obtain ⟨X, hX⟩ : ∃ X, nx ps (rt.getD j 0) (rt.getD (j + 1) 0) = X := ⟨_, rfl⟩
        rw [hX] at hS HGI
        rw [show nxTo ps (rt.getD j 0) (rt.getD (j + 1) 0) ps.length = X from hX, hT] at hnt
        rw [hT] at HCALL
        rw [hl0, hh0] at hbd hS ⊢
        obtain ⟨Z, hZ⟩ : ∃ Z, rtS sy ps rt hr (j + 1) = Z := ⟨_, rfl⟩
        rw [hZ] at hS HKL hbd2 HGI
        have HZ := Lib.hid hZ
        obtain ⟨x, hx⟩ : ∃ x, rt.getD (j + 1) 0 = x := ⟨_, rfl⟩
        obtain ⟨y, hy⟩ : ∃ y, rt.getD j 0 = y := ⟨_, rfl⟩
        rw [hx] at cx HCALL
        rw [hy] at cy HCALL
        obtain ⟨x0, x1, x2⟩ := X
        obtain ⟨t0, t1⟩ := T
        obtain ⟨z0, z1⟩ := Z
        simp only [Prod.mk.injEq] at hnt hS hbd2 HGI HCALL hbd
        obtain ⟨hq0, hq1⟩ := hS
        have hsy := HOK.out.2.1
        clear hl0 hh0 hT hX hZ hx hy hcw hc hnx hrok HUW hjj
        rcases hnt with ⟨rfl, ⟨rfl, rfl⟩, rfl, rfl⟩ | ⟨rfl, ⟨rfl, rfl⟩, i3, i4, i5, i6⟩
        · have HBAD := Lib.hid (HCN.out (HBADG.out (fun h => by have := (HGI.out.1 h).1; cases this)))
          have tb : ¬ (l0 + 301 ≤ 300) := by omega
          have tb2 : 300 < l0 + 301 := by omega
          go_wp2_with fail
          refine HCALL.out.mono ?_
          rintro e w7 ⟨rfl, b7⟩
          have HF : Hid (Below w.heap.size w w7) := Lib.hid (blink (blink HB3.out HN.out) b7)
          clear b7 HCALL hown
          go_wp2_with fail
          go_ret2
          exact ⟨_, ret_vc HBAD.out.1.symm, by rw [HBAD.out.2]; exact World.ownsRow_nil _ _ _ _, HF.out⟩
        · by_cases hle : z0 ≤ 300
          · have HG := Lib.hid (HGD.out (HGI.out.2 ⟨rfl, hle⟩))
            have tb : ¬ (300 < l0 + t0) := by omega
            have HZ0 : Hid (l0 + t0 = z0) := Lib.hid hq0.symm
            have HZ1 : Hid (h0 + (x1 + sy) = z1) := Lib.hid hq1.symm
            go_wp2_with fail
            refine HCALL.out.mono ?_
            rintro e w7 ⟨rfl, b7⟩
            have HN7 := Lib.hid (blink HN.out b7)
            have hown := own_belowA HOW.out b7
            have HKL' : Hid (rtL sy ps rt hr (j + 1 + 1) = rtL sy ps rt hr (j + 1) ++ [(l0 + t0, h0 + (x1 + sy))]) := Lib.hid (by rw [HZ0.out, HZ1.out]; exact HKL.out)
            clear b7 HCALL
            go_wp2_with (at_builtin; refine wpList_append_own _ rfl _ _ 44 rfl w3.heap.size 102 i0 (.agg #[.int .i64 0, .int .i64 0]) 2 16 Try.underlying44 hi hz0 hz1 hz2 rfl (by decide) _ _ _ rfl (hown.alloc _) ⟨w7.heap.size, 0, none⟩ 1 1 [.int .i64 (l0 + t0), .int .i64 (h0 + (x1 + sy))] rfl rfl (pair_new _ _ _ _) (pair_ones _ _) ?c3 ?c4 ?c5 ?_)
            case c3 => rw [rtL_len]; unfold maxLen; omega
            case c4 => rw [rtL_len]; omega
            case c5 => have := HN7.out.size; simp; omega
            intro v' w9 hown' hgrow _
            have HO' : Hid (w9.ownsRow w3.heap.size 102 2 v' (rtL sy ps rt hr (j + 1 + 1)).length (flatA (rtL sy ps rt hr (j + 1 + 1)))) := Lib.hid (by
              rw [HKL'.out, flatA_append, List.length_append]; exact hown')
            have HN' : Hid (Below w3.heap.size w3 w9) := Lib.hid ((HN7.out.alloc HN7.out.size _).grown hgrow (by have := HN7.out.size; simp; omega) (fun i hi => (hown.lt i hi).1))
            clear hown' hgrow hown
            go_wp2
            go_roundw
            case rel => exact ⟨j + 2, by omega, by go_num, .inr ⟨j + 1, rfl, by rw [HZ.out, HZ0.out], by rw [HZ.out, HZ1.out]⟩, HG.out, HO'.out, HN'.out⟩
            case measure => simp [intOf]; omega
          · have HBAD := Lib.hid (HCN.out (HBADG.out (fun h => hle (HGI.out.1 h).2)))
            have tb : ¬ (l0 + t0 ≤ 300) := by omega
            have tb2 : 300 < l0 + t0 := by omega
            go_wp2_with fail
            refine HCALL.out.mono ?_
            rintro e w7 ⟨rfl, b7⟩
            have HF : Hid (Below w.heap.size w w7) := Lib.hid (blink (blink HB3.out HN.out) b7)
            clear b7 HCALL hown
            go_wp2_with fail
            go_ret2
            exact ⟨_, ret_vc HBAD.out.1.symm, by rw [HBAD.out.2]; exact World.ownsRow_nil _ _ _ _, HF.out⟩
    · have hk' : k = m := by omega
      have HFIN : Hid (rtC st sy ps rt hr = 0 ∧ rtR st sy ps rt hr = rtL sy ps rt hr k) := Lib.hid (by rw [hk'] at hrok ⊢; exact HCC.out hrok)
      have HF : Hid (Below w.heap.size w wo) := Lib.hid (blink HB3.out hnx)
      have hs3 : w.heap.size ≤ w3.heap.size := HB3.out.size
      clear hst hrok hown hnx hk'
      go_wp2_with fail
      go_ret2
      exact ⟨_, ret_vc HFIN.out.1.symm, by rw [HFIN.out.2]; exact (show OwnA 102 w3.heap.size wo _ _ from HOW.out).mono hs3, HF.out⟩
end Go.Proofs.Ytloelbaaolhlhaa
