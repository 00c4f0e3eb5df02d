/-
  The model's RouteTimes.
-/
import Derived.Test.YtloelbaaolhlhaaRtI
namespace Go.Proofs.Ytloelbaaolhlhaa
open Go Go.RowKit
set_option linter.unusedVariables false

/-- The model's look whether all can be. -/
def rtF (st : Int) (rt : List Int) (hr : Int) (k : Nat) : Bool := inB hr 0 300 && decide (betw rt 0 (st - 1) k)
theorem rtF_zero (st : Int) (rt : List Int) (hr : Int) : rtF st rt hr 0 = inB hr 0 300 := by unfold rtF; rw [decide_eq_true (betw.zero _ _ _), Bool.and_true]
theorem rtF_succ (st : Int) (rt : List Int) (hr : Int) (k : Nat) : rtF st rt hr (k + 1) = (rtF st rt hr k && inB (rt.getD k 0) 0 (st - 1)) := by
  unfold rtF inB
  rw [Bool.eq_iff_iff]
  simp only [Bool.and_eq_true, decide_eq_true_eq]
  constructor
  · rintro ⟨h1, h2⟩
    exact ⟨⟨h1, fun i hi => h2 i (by omega)⟩, h2 k (by omega)⟩
  · rintro ⟨⟨h1, h2⟩, h3⟩
    refine ⟨h1, fun i hi => ?_⟩
    by_cases e : i = k
    · subst e; exact h3
    · exact h2 i (by omega)

set_option maxHeartbeats 2000000 in
set_option maxRecDepth 100000 in
theorem srt_any (st sy : Int) (v u : Value) (ps : List Lan) (rt : List Int) (hr : Int) (w : World) (hn : FitN st sy ps) (hv : ReadsLa w v ps) (hu : ReadsI w u rt) (hx : rt.length ≤ 1048576) :
    Calls Try.prog 24 #[netV st sy v, u, .int .i64 hr] w (RetA1 w.heap.size w (rtR st sy ps rt hr) (rtC st sy ps rt hr)) := by
  obtain ⟨i0, hi, hz0, hz1, hz2⟩ := info_parts infoA2
  have HNF := Lib.hid hn
  have hu0 := hu
  obtain ⟨ua, uc, rfl, hua⟩ := hu0
  have b0 : Below w.heap.size w (w.alloc (.cells #[.int .i8 st, .int .i16 sy, v] 35)) := (Below.refl _ _).alloc (Nat.le_refl _) _
  have BN0 : BlkA (w.alloc (.cells #[.int .i8 st, .int .i16 sy, v] 35)) w.heap.size 35 (netB st sy v) := BlkA.new rfl _ _
  obtain ⟨W0, hW0⟩ : ∃ W, w.alloc (.cells #[.int .i8 st, .int .i16 sy, v] 35) = W := ⟨_, rfl⟩
  rw [hW0] at b0 BN0
  have hs0 : W0.heap.size = w.heap.size + 1 := by rw [← hW0]; simp
  have ho1 : (W0.alloc (.cells #[] 102)).ownsRow W0.heap.size 102 2 (.slice (some ⟨W0.heap.size, 0, none⟩) 0 0) 0 [] := World.ownsRow_made W0 #[] 0 (Nat.le_refl _) (Nat.zero_le _) rfl
  have b1 : Below W0.heap.size W0 (W0.alloc (.cells #[] 102)) := (Below.refl _ _).alloc (Nat.le_refl _) _
  obtain ⟨W1, hW⟩ : ∃ W, W0.alloc (.cells #[] 102) = W := ⟨_, rfl⟩
  rw [hW] at b1 ho1
  rw [hs0] at ho1
  have HO1 : Hid (W1.ownsRow W0.heap.size 102 2 (.slice (some ⟨w.heap.size + 1, 0, none⟩) 0 0) 0 []) := Lib.hid (by rw [hs0]; exact ho1)
  have HB0 := Lib.hid b0
  have HB01 := Lib.hid b1
  have HBN := Lib.hid BN0
  have HVW := Lib.hid hv
  have HUW : Hid (rt ≠ [] → ∃ b, ua = some ⟨b, 0, none⟩ ∧ Cells w b rt) := Lib.hid hua
  have HST := Lib.hid hn.s
  have HSTAT : Hid (∀ x W, Below W0.heap.size W0 W → Calls Try.prog 68 #[.pointer (some ⟨w.heap.size, 0, none⟩), .int .i64 x] W fun e w' => e = .returned (.bool (inB x 0 (st - 1))) ∧ W = w') := Lib.hid (fun x W hW => sstat_any w.heap.size 35 st sy v x W HST.out (HBN.out.below hW))
  have HASK := Lib.hid (fun q => sasked_any w.heap.size st sy v ps q W1 hn (hv.below (blink b0 b1)) (BN0.below b1))
  obtain ⟨m, hm⟩ : ∃ m, rt.length = m := ⟨_, rfl⟩
  have HM := Lib.hid hm
  rw [hm] at hx ⊢
  rw [← hW0] at hW
  have HW := Lib.hid hW
  clear hW hW0 b0 b1 BN0 hv hu hua hn ho1 hs0 hm
  go_enter Try.func24, Try.ntmps24
  go_wp2_with fail
  rw [HW.out]
  refine (shour_any hr W1).mono ?_
  rintro e _ ⟨rfl, rfl⟩
  go_wp2_with fail
  go_loopw [9, 10] (fun f i wr => ∃ k : Nat, k ≤ m ∧ i = .int .i64 k ∧ f = .bool (rtF st rt hr k) ∧ wr = W1) (fun _ i _ => m - (intOf i).toNat)
  case atStart => exact ⟨0, Nat.zero_le _, rfl, by rw [rtF_zero], rfl⟩
  case round =>
    obtain ⟨k, hk, rfl, rfl, hwr⟩ := hrel
    have hwr2 := hwr.symm
    clear hwr
    subst hwr2
    by_cases hlt : k < m
    · have hkl : (k : Int) < (m : Int) := by omega
      have hk0 : (0 : Int) ≤ (k : Int) := by omega
      obtain ⟨b, rfl, hc⟩ := HUW.out (fun h => by have := HM.out; rw [h] at this; simp at this; omega)
      have cx : W1.cell? ⟨b, k, none⟩ = some (.int .i64 (rt.getD k 0)) := (hc.below (blink HB0.out HB01.out)) k (by rw [HM.out]; exact hlt)
      have HF := Lib.hid (rtF_succ st rt hr k)
      obtain ⟨f, hf⟩ : ∃ f, rtF st rt hr k = f := ⟨_, rfl⟩
      obtain ⟨x, hx⟩ : ∃ x, rt.getD k 0 = x := ⟨_, rfl⟩
      rw [hx] at cx HF
      rw [hf] at HF ⊢
      have HS := Lib.hid (HSTAT.out x W1 HB01.out)
      clear hf hx hc HUW
      cases f
      · go_wp2_with fail
        go_roundw
        case rel => exact ⟨k + 1, by omega, by go_num, by rw [HF.out]; rfl, (by first | rfl | trivial)⟩
        case measure => simp [intOf]; omega
      · go_wp2_with (first | (go_at_call 68; refine HS.out.mono ?_; rintro e _ ⟨rfl, rfl⟩))
        go_roundw
        case rel => exact ⟨k + 1, by omega, by go_num, by rw [HF.out]; simp, (by first | rfl | trivial)⟩
        case measure => simp [intOf]; omega
    · have hk' : k = m := by omega
      subst hk'
      have HAI := Lib.hid (rtA_is st sy ps rt hr)
      have HFB : Hid (rtF st rt hr k = (inB hr 0 300 && betwB rt 0 (st - 1))) := Lib.hid (by unfold rtF betwB; rw [HM.out])
      rw [← HFB.out, HM.out] at HAI
      obtain ⟨q, hq⟩ : ∃ q, rtF st rt hr k = q := ⟨_, rfl⟩
      rw [hq] at HAI ⊢
      clear hq hlt
      go_wp2_with fail
      refine (HASK.out q).mono ?_
      rintro e w2 ⟨rfl, b2⟩
      have HB2 := Lib.hid (blink HB01.out b2)
      have HO2 := Lib.hid (own_belowA HO1.out b2)
      obtain ⟨c, hc⟩ : ∃ c, askC st sy ps q = c := ⟨_, rfl⟩
      rw [hc] at HAI ⊢
      clear b2 hc
      by_cases hz : c = 0
      rotate_left
      · have HA : Hid (rtA st sy ps rt hr = c) := Lib.hid (by rw [HAI.out, if_neg hz])
        have HCC : Hid (rtC st sy ps rt hr = c) := Lib.hid (by unfold rtC; rw [HA.out, if_neg hz])
        have HR : Hid (rtR st sy ps rt hr = []) := Lib.hid (by unfold rtR; rw [HCC.out, if_neg hz])
        have t1 : (c != 0) = true := by simp [hz]
        have t0 : (c == 0) = false := by simp [hz]
        have hs := HB0.out.size
        clear hz
        go_wp2_with fail
        go_ret2
        exact ⟨_, ret_vc HCC.out.symm, by rw [HR.out]; exact (show OwnA 102 W0.heap.size w2 _ [] from HO2.out).mono hs, blink HB0.out HB2.out⟩
      subst hz
      by_cases h12 : k ≤ 12
      rotate_left
      · have HA : Hid (rtA st sy ps rt hr = 3) := Lib.hid (by rw [HAI.out, if_pos rfl, if_neg h12])
        have HCC : Hid (rtC st sy ps rt hr = 3) := Lib.hid (by unfold rtC; rw [HA.out, if_neg (by decide)])
        have HR : Hid (rtR st sy ps rt hr = []) := Lib.hid (by unfold rtR; rw [HCC.out, if_neg (by decide)])
        have t1 : (12 : Int) < (k : Int) := by omega
        have hs := HB0.out.size
        go_wp2_with fail
        go_ret2
        exact ⟨_, ret_vc HCC.out.symm, by rw [HR.out]; exact (show OwnA 102 W0.heap.size w2 _ [] from HO2.out).mono hs, blink HB0.out HB2.out⟩
      have HC : Hid (rtA st sy ps rt hr = 0) := Lib.hid (by rw [HAI.out, if_pos rfl, if_pos h12])
      obtain ⟨hok, hbt, ⟨hr0, hr3⟩, _⟩ := rtA_ok HC.out
      have HOK := Lib.hid hok
      have HCC : Hid (rtOk sy ps rt hr k → rtC st sy ps rt hr = 0 ∧ rtR st sy ps rt hr = rtL sy ps rt hr k) := Lib.hid (fun h => by
        have e : rtC st sy ps rt hr = 0 := by unfold rtC; rw [if_pos HC.out, if_pos (by rw [HM.out]; exact h)]
        exact ⟨e, by unfold rtR; rw [if_pos e, HM.out]⟩)
      have HCN : Hid (¬ rtOk sy ps rt hr k → rtC st sy ps rt hr = 6 ∧ rtR st sy ps rt hr = []) := Lib.hid (fun h => by
        have e : rtC st sy ps rt hr = 6 := by unfold rtC; rw [if_pos HC.out, if_neg (by rw [HM.out]; exact h)]
        exact ⟨e, by unfold rtR; rw [e, if_neg (by decide)]⟩)
      have HNX : Hid (∀ f t W, Below W0.heap.size W0 W → Calls Try.prog 69 #[.pointer (some ⟨w.heap.size, 0, none⟩), .int .i64 f, .int .i64 t] W fun e w' => e = .returned (.tuple #[.int .i64 (nx ps f t).1, .int .i64 (nx ps f t).2.1, .bool (nx ps f t).2.2]) ∧ Below W.heap.size W w') := Lib.hid (fun f t W hW => snext_any w.heap.size st sy v ps f t W HOK.out (HVW.out.below (blink HB0.out hW)) (HBN.out.below hW))
      obtain ⟨m, hmk⟩ : ∃ m, m = k := ⟨_, rfl⟩
      rw [← hmk] at HM h12 HCC HCN hx ⊢
      clear hok hbt hmk HAI HFB HASK hk
      go_wp2_with fail
      go_loopw [8, 12, 13, 14] (fun gv lo hi i wr => ∃ k : Nat, k ≤ m ∧ i = .int .i64 k ∧ ((k = 0 ∧ lo = .int .i64 hr ∧ hi = .int .i64 hr) ∨ ∃ j, k = j + 1 ∧ lo = .int .i64 (rtS sy ps rt hr j).1 ∧ hi = .int .i64 (rtS sy ps rt hr j).2) ∧ rtOk sy ps rt hr k ∧ wr.ownsRow W0.heap.size 102 2 gv (rtL sy ps rt hr k).length (flatA (rtL sy ps rt hr k)) ∧ Below W0.heap.size W0 wr) (fun _ _ _ i _ => m - (intOf i).toNat)
      case atStart => exact ⟨0, Nat.zero_le _, rfl, .inl ⟨rfl, rfl, rfl⟩, rtOk.one _ _ _ _ (by omega), HO2.out, HB2.out⟩
      case round =>
        obtain ⟨k, hk, rfl, hst, hrok, hown, hnx⟩ := hrel
        obtain ⟨wo, rfl⟩ : ∃ W, W = wr := ⟨_, rfl⟩
        have HN := Lib.hid hnx
        have HOW := Lib.hid hown
        have HRO := Lib.hid hrok
        by_cases hlt : k < m
        · have hkl : (k : Int) < (m : Int) := by omega
          have hk0 : (0 : Int) ≤ (k : Int) := by omega
          obtain ⟨b, rfl, hc⟩ := HUW.out (fun h => by have := HM.out; rw [h] at this; simp at this; omega)
          have hcw := (hc.below HB0.out).below hnx
          have cx : wo.cell? ⟨b, k, none⟩ = some (.int .i64 (rt.getD k 0)) := hcw k (by rw [HM.out]; exact hlt)
          have hbw : b < wo.heap.size := World.block_lt_of_cell? wo _ cx
          have nb1 : wo.cell? ⟨w.heap.size, 1, none⟩ = some (.int .i16 sy) := (HBN.out.below hnx).at 1
          rcases hst with ⟨rfl, rfl, rfl⟩ | ⟨j, rfl, rfl, rfl⟩
          · have HK0 : Hid (rtL sy ps rt hr (0 + 1) = rtL sy ps rt hr 0 ++ [(hr, hr)]) := Lib.hid (rtL_succ sy ps rt hr 0)
            clear hcw hc hnx hrok HUW cx
            go_wp2_with (at_builtin; refine wpList_append_own _ rfl _ _ 44 rfl W0.heap.size 102 i0 (.agg #[.int .i64 0, .int .i64 0]) 2 16 Try.underlying44 hi hz0 hz1 hz2 rfl (by decide) _ _ _ rfl (hown.alloc _) ⟨wo.heap.size, 0, none⟩ 1 1 [.int .i64 hr, .int .i64 hr] rfl rfl (pair_new _ _ _ _) (pair_ones _ _) ?c3 ?c4 ?c5 ?_)
            case c3 => rw [rtL_len]; unfold maxLen; omega
            case c4 => rw [rtL_len]; omega
            case c5 => have := HN.out.size; simp; omega
            intro v' w9 hown' hgrow _
            have HO' : Hid (w9.ownsRow W0.heap.size 102 2 v' (rtL sy ps rt hr (0 + 1)).length (flatA (rtL sy ps rt hr (0 + 1)))) := Lib.hid (by
              rw [HK0.out, flatA_append, List.length_append]; exact hown')
            have HN' : Hid (Below W0.heap.size W0 w9) := Lib.hid ((HN.out.alloc HN.out.size _).grown hgrow (by have := HN.out.size; simp; omega) (fun i hi => (hown.lt i hi).1))
            clear hown' hgrow hown
            go_wp2
            go_roundw
            case rel => exact ⟨1, by omega, by go_num, .inr ⟨0, rfl, rfl, rfl⟩, rtOk.one _ _ _ _ (by omega), HO'.out, HN'.out⟩
            case measure => simp [intOf]; omega
          · have cy : wo.cell? ⟨b, j, none⟩ = some (.int .i64 (rt.getD j 0)) := hcw j (by rw [HM.out]; omega)
            have HKL : Hid (rtL sy ps rt hr (j + 1 + 1) = rtL sy ps rt hr (j + 1) ++ [rtS sy ps rt hr (j + 1)]) := Lib.hid (rtL_succ sy ps rt hr (j + 1))
            have hbd := rtS_bd HOK.out (rt := rt) ⟨hr0, hr3⟩ j
            have hbd2 := nx_bd HOK.out (rt.getD j 0) (rt.getD (j + 1) 0)
            have hS : rtS sy ps rt hr (j + 1) = ((rtS sy ps rt hr j).1 + (nx ps (rt.getD j 0) (rt.getD (j + 1) 0)).1, (rtS sy ps rt hr j).2 + ((nx ps (rt.getD j 0) (rt.getD (j + 1) 0)).2.1 + sy)) := rfl
            have HGD : Hid (rtG sy ps rt hr j → rtOk sy ps rt hr (j + 2)) := Lib.hid (fun h => HRO.out.succ h)
            have HBADG : Hid (¬ rtG sy ps rt hr j → ¬ rtOk sy ps rt hr m) := Lib.hid (fun h h2 => h (h2 j (by omega)))
            have HGI : Hid (rtG sy ps rt hr j ↔ (nx ps (rt.getD j 0) (rt.getD (j + 1) 0)).2.2 = true ∧ (rtS sy ps rt hr (j + 1)).1 ≤ 300) := Lib.hid Iff.rfl
            have HNEXT : Hid (∀ W, Below wo.heap.size wo W → Calls Try.prog 69 #[.pointer (some ⟨w.heap.size, 0, none⟩), .int .i64 (rt.getD j 0), .int .i64 (rt.getD (j + 1) 0)] W fun e w' => e = .returned (.tuple #[.int .i64 (nx ps (rt.getD j 0) (rt.getD (j + 1) 0)).1, .int .i64 (nx ps (rt.getD j 0) (rt.getD (j + 1) 0)).2.1, .bool (nx ps (rt.getD j 0) (rt.getD (j + 1) 0)).2.2]) ∧ Below W.heap.size W w') := Lib.hid (fun W hW => HNX.out _ _ W (blink HN.out hW))
            have hjj : ((j + 1 : Nat) : Int) - 1 = (j : Int) := by omega
            have HW1 : Hid (IntKind.i64.wrap (((j + 1 : Nat) : Int) - 1) = (j : Int)) := Lib.hid (by rw [hjj]; exact IntWalk.i64_in _ (by omega))
            have HW1' : Hid (IntKind.i64.wrap ((j : Int) + 1 - 1) = (j : Int)) := Lib.hid (by rw [show (j : Int) + 1 - 1 = (j : Int) by omega]; exact IntWalk.i64_in _ (by omega))
            have hj0 : (0 : Int) ≤ (j : Int) := by omega
            have hj1 : (0 : Int) ≤ (j : Int) + 1 := by omega
            have hjm : (j : Int) < (m : Int) := by omega
            have hjm1 : (j : Int) + 1 < (m : Int) := by omega
            have hjm' : j < m := by omega
            obtain ⟨l0, hl0⟩ : ∃ l, (rtS sy ps rt hr j).1 = l := ⟨_, rfl⟩
            obtain ⟨h0, hh0⟩ : ∃ l, (rtS sy ps rt hr j).2 = l := ⟨_, rfl⟩
            obtain ⟨X, hX⟩ : ∃ X, nx ps (rt.getD j 0) (rt.getD (j + 1) 0) = X := ⟨_, rfl⟩
            rw [hX] at hS HGI HNEXT hbd2
            rw [hl0, hh0] at hbd hS ⊢
            obtain ⟨Z, hZ⟩ : ∃ Z, rtS sy ps rt hr (j + 1) = Z := ⟨_, rfl⟩
            rw [hZ] at hS HKL HGI
            have HZ := Lib.hid hZ
            obtain ⟨x, hx⟩ : ∃ x, rt.getD (j + 1) 0 = x := ⟨_, rfl⟩
            obtain ⟨y, hy⟩ : ∃ y, rt.getD j 0 = y := ⟨_, rfl⟩
            rw [hx] at cx HNEXT
            rw [hy] at cy HNEXT
            have HCX : Hid (∀ W, Below wo.heap.size wo W → W.cell? ⟨b, j + 1, none⟩ = some (.int .i64 x)) := Lib.hid (fun W hC => (hC.cell (p := ⟨b, j + 1, none⟩) hbw).trans cx)
            have HCY : Hid (∀ W, Below wo.heap.size wo W → W.cell? ⟨b, j, none⟩ = some (.int .i64 y)) := Lib.hid (fun W hC => (hC.cell (p := ⟨b, j, none⟩) hbw).trans cy)
            have HNB : Hid (∀ W, Below wo.heap.size wo W → W.cell? ⟨w.heap.size, 1, none⟩ = some (.int .i16 sy)) := Lib.hid (fun W hC => (hC.cell (p := ⟨w.heap.size, 1, none⟩) (World.block_lt_of_cell? wo _ nb1)).trans nb1)
            obtain ⟨x0, x1, x2⟩ := X
            obtain ⟨z0, z1⟩ := Z
            simp only [Prod.mk.injEq] at hS hbd2 HGI HNEXT hbd
            obtain ⟨hq0, hq1⟩ := hS
            have hsy := HOK.out.2.1
            clear hl0 hh0 hX hZ hx hy hcw hc hnx hrok HUW hjj cx cy nb1
            go_wp2_with fail
            refine wp_region_relL (fun W => Below wo.heap.size wo W) (fun W W' => Below W.heap.size W W') 17 [fun u _ => u = Value.slice (some ⟨b, 0, none⟩) m uc, fun u _ => u = Value.int .i64 ((j + 1 : Nat) : Int), fun u _ => u = Value.int .i64 (j : Int), fun u _ => u = Value.pointer (some ⟨b, j, none⟩), fun u _ => u = Value.int .i64 y, fun u _ => u = Value.slice (some ⟨b, 0, none⟩) m uc, fun u _ => u = Value.int .i64 ((j + 1 : Nat) : Int), fun u _ => u = Value.pointer (some ⟨b, j + 1, none⟩), fun u _ => u = Value.int .i64 x, fun u _ => u = Value.tuple #[.int .i64 x0, .int .i64 x1, .bool x2], fun u _ => u = Value.tuple #[.int .i64 x0, .int .i64 x1, .bool x2], fun u _ => u = Value.int .i64 x0, fun u _ => u = Value.int .i64 x1, fun u _ => u = Value.bool x2, fun u _ => u = Value.int .i64 x0, fun u _ => u = Value.int .i64 x1, fun u _ => u = Value.bool x2] (by kernel_rfl) (by kernel_rfl) rfl (Below.refl _ _).drew ?_
            simp only [List.take_succ_cons, List.take_zero, List.drop_succ_cons, List.drop_zero]
            refine wpRel_cons (fun _ _ _ _ _ h => h) (fun W hC hd => relObl_intro fun K hK => ?_) (fun v56 => ?_)
            · have HK := Lib.hid hK
              have HC := Lib.hid hC
              clear hK hd hC
              go_simp
              exact HK.out _ _ ⟨_, rfl, HC.out, Below.refl _ _, rfl⟩
            simp only [Act.put, List.setIfInBounds_toArray, List.set_cons_zero, List.set_cons_succ]
            refine wpRel_cons (fun _ _ _ _ _ h => h) (fun W hC hd => relObl_intro fun K hK => ?_) (fun v57 => ?_)
            · have HK := Lib.hid hK
              have HC := Lib.hid hC
              clear hK hd hC
              go_simp
              exact HK.out _ _ ⟨_, rfl, HC.out, Below.refl _ _, rfl⟩
            simp only [Act.put, List.setIfInBounds_toArray, List.set_cons_zero, List.set_cons_succ]
            refine wpRel_cons (fun _ _ _ _ _ h => h) (fun W hC hd => relObl_intro fun K hK => ?_) (fun v58 => ?_)
            · have HK := Lib.hid hK
              have HC := Lib.hid hC
              obtain rfl : v57 = Value.int .i64 ((j + 1 : Nat) : Int) := hd 1 rfl _ rfl
              clear hK hd hC
              go_simp
              exact HK.out _ _ ⟨_, rfl, HC.out, Below.refl _ _, by first | rfl | (rw [HW1.out]) | (rw [HW1'.out]) | (rw [IntWalk.i64_in _ (by omega)])⟩
            simp only [Act.put, List.setIfInBounds_toArray, List.set_cons_zero, List.set_cons_succ]
            refine wpRel_cons (fun _ _ _ _ _ h => h) (fun W hC hd => relObl_intro fun K hK => ?_) (fun v59 => ?_)
            · have HK := Lib.hid hK
              have HC := Lib.hid hC
              obtain rfl : v56 = Value.slice (some ⟨b, 0, none⟩) m uc := hd 0 rfl _ rfl
              obtain rfl : v58 = Value.int .i64 (j : Int) := hd 2 rfl _ rfl
              clear hK hd hC
              go_simp
              exact HK.out _ _ ⟨_, rfl, HC.out, Below.refl _ _, rfl⟩
            simp only [Act.put, List.setIfInBounds_toArray, List.set_cons_zero, List.set_cons_succ]
            refine wpRel_cons (fun _ _ _ _ _ h => h) (fun W hC hd => relObl_intro fun K hK => ?_) (fun v60 => ?_)
            · have HK := Lib.hid hK
              have HC := Lib.hid hC
              obtain rfl : v59 = Value.pointer (some ⟨b, j, none⟩) := hd 3 rfl _ rfl
              have c0 := HCY.out W hC
              clear hK hd hC
              go_simp
              exact HK.out _ _ ⟨_, rfl, HC.out, Below.refl _ _, rfl⟩
            simp only [Act.put, List.setIfInBounds_toArray, List.set_cons_zero, List.set_cons_succ]
            refine wpRel_cons (fun _ _ _ _ _ h => h) (fun W hC hd => relObl_intro fun K hK => ?_) (fun v61 => ?_)
            · have HK := Lib.hid hK
              have HC := Lib.hid hC
              clear hK hd hC
              go_simp
              exact HK.out _ _ ⟨_, rfl, HC.out, Below.refl _ _, rfl⟩
            simp only [Act.put, List.setIfInBounds_toArray, List.set_cons_zero, List.set_cons_succ]
            refine wpRel_cons (fun _ _ _ _ _ h => h) (fun W hC hd => relObl_intro fun K hK => ?_) (fun v62 => ?_)
            · have HK := Lib.hid hK
              have HC := Lib.hid hC
              clear hK hd hC
              go_simp
              exact HK.out _ _ ⟨_, rfl, HC.out, Below.refl _ _, rfl⟩
            simp only [Act.put, List.setIfInBounds_toArray, List.set_cons_zero, List.set_cons_succ]
            refine wpRel_cons (fun _ _ _ _ _ h => h) (fun W hC hd => relObl_intro fun K hK => ?_) (fun v63 => ?_)
            · have HK := Lib.hid hK
              have HC := Lib.hid hC
              obtain rfl : v61 = Value.slice (some ⟨b, 0, none⟩) m uc := hd 5 rfl _ rfl
              obtain rfl : v62 = Value.int .i64 ((j + 1 : Nat) : Int) := hd 6 rfl _ rfl
              clear hK hd hC
              go_simp
              exact HK.out _ _ ⟨_, rfl, HC.out, Below.refl _ _, rfl⟩
            simp only [Act.put, List.setIfInBounds_toArray, List.set_cons_zero, List.set_cons_succ]
            refine wpRel_cons (fun _ _ _ _ _ h => h) (fun W hC hd => relObl_intro fun K hK => ?_) (fun v64 => ?_)
            · have HK := Lib.hid hK
              have HC := Lib.hid hC
              obtain rfl : v63 = Value.pointer (some ⟨b, j + 1, none⟩) := hd 7 rfl _ rfl
              have c0 := HCX.out W hC
              clear hK hd hC
              go_simp
              exact HK.out _ _ ⟨_, rfl, HC.out, Below.refl _ _, rfl⟩
            simp only [Act.put, List.setIfInBounds_toArray, List.set_cons_zero, List.set_cons_succ]
            refine wpRel_cons (fun _ _ _ _ _ h => h) (fun W hC hd => relObl_intro fun K hK => ?_) (fun v65 => ?_)
            · have HK := Lib.hid hK
              have HC := Lib.hid hC
              obtain rfl : v60 = Value.int .i64 y := hd 4 rfl _ rfl
              obtain rfl : v64 = Value.int .i64 x := hd 8 rfl _ rfl
              have HN5 := Lib.hid (HNEXT.out W hC)
              clear hK hd hC
              go_simp
              refine HN5.out.mono ?_
              rintro e V5 ⟨rfl, b5⟩
              exact HK.out _ _ ⟨_, rfl, blink HC.out b5, b5, rfl⟩
            simp only [Act.put, List.setIfInBounds_toArray, List.set_cons_zero, List.set_cons_succ]
            refine wpRel_cons (fun _ _ _ _ _ h => h) (fun W hC hd => relObl_intro fun K hK => ?_) (fun v55 => ?_)
            · have HK := Lib.hid hK
              have HC := Lib.hid hC
              obtain rfl : v65 = Value.tuple #[.int .i64 x0, .int .i64 x1, .bool x2] := hd 9 rfl _ rfl
              clear hK hd hC
              go_simp
              exact HK.out _ _ ⟨_, rfl, HC.out, Below.refl _ _, rfl⟩
            simp only [Act.put, List.setIfInBounds_toArray, List.set_cons_zero, List.set_cons_succ]
            refine wpRel_cons (fun _ _ _ _ _ h => h) (fun W hC hd => relObl_intro fun K hK => ?_) (fun v66 => ?_)
            · have HK := Lib.hid hK
              have HC := Lib.hid hC
              obtain rfl : v55 = Value.tuple #[.int .i64 x0, .int .i64 x1, .bool x2] := hd 10 rfl _ rfl
              clear hK hd hC
              go_simp
              exact HK.out _ _ ⟨_, rfl, HC.out, Below.refl _ _, rfl⟩
            simp only [Act.put, List.setIfInBounds_toArray, List.set_cons_zero, List.set_cons_succ]
            refine wpRel_cons (fun _ _ _ _ _ h => h) (fun W hC hd => relObl_intro fun K hK => ?_) (fun v67 => ?_)
            · have HK := Lib.hid hK
              have HC := Lib.hid hC
              obtain rfl : v55 = Value.tuple #[.int .i64 x0, .int .i64 x1, .bool x2] := hd 10 rfl _ rfl
              clear hK hd hC
              go_simp
              exact HK.out _ _ ⟨_, rfl, HC.out, Below.refl _ _, rfl⟩
            simp only [Act.put, List.setIfInBounds_toArray, List.set_cons_zero, List.set_cons_succ]
            refine wpRel_cons (fun _ _ _ _ _ h => h) (fun W hC hd => relObl_intro fun K hK => ?_) (fun v68 => ?_)
            · have HK := Lib.hid hK
              have HC := Lib.hid hC
              obtain rfl : v55 = Value.tuple #[.int .i64 x0, .int .i64 x1, .bool x2] := hd 10 rfl _ rfl
              clear hK hd hC
              go_simp
              exact HK.out _ _ ⟨_, rfl, HC.out, Below.refl _ _, rfl⟩
            simp only [Act.put, List.setIfInBounds_toArray, List.set_cons_zero, List.set_cons_succ]
            refine wpRel_cons (fun _ _ _ _ _ h => h) (fun W hC hd => relObl_intro fun K hK => ?_) (fun v15 => ?_)
            · have HK := Lib.hid hK
              have HC := Lib.hid hC
              obtain rfl : v66 = Value.int .i64 x0 := hd 11 rfl _ rfl
              clear hK hd hC
              go_simp
              exact HK.out _ _ ⟨_, rfl, HC.out, Below.refl _ _, rfl⟩
            simp only [Act.put, List.setIfInBounds_toArray, List.set_cons_zero, List.set_cons_succ]
            refine wpRel_cons (fun _ _ _ _ _ h => h) (fun W hC hd => relObl_intro fun K hK => ?_) (fun v16 => ?_)
            · have HK := Lib.hid hK
              have HC := Lib.hid hC
              obtain rfl : v67 = Value.int .i64 x1 := hd 12 rfl _ rfl
              clear hK hd hC
              go_simp
              exact HK.out _ _ ⟨_, rfl, HC.out, Below.refl _ _, rfl⟩
            simp only [Act.put, List.setIfInBounds_toArray, List.set_cons_zero, List.set_cons_succ]
            refine wpRel_cons (fun _ _ _ _ _ h => h) (fun W hC hd => relObl_intro fun K hK => ?_) (fun v17 => ?_)
            · have HK := Lib.hid hK
              have HC := Lib.hid hC
              obtain rfl : v68 = Value.bool x2 := hd 13 rfl _ rfl
              clear hK hd hC
              go_simp
              exact HK.out _ _ ⟨_, rfl, HC.out, Below.refl _ _, rfl⟩
            simp only [Act.put, List.setIfInBounds_toArray, List.set_cons_zero, List.set_cons_succ]
            refine wpRel_nil fun W6 hC hd => ?_
            obtain rfl : v15 = Value.int .i64 x0 := hd 14 _ rfl
            obtain rfl : v16 = Value.int .i64 x1 := hd 15 _ rfl
            obtain rfl : v17 = Value.bool x2 := hd 16 _ rfl
            have nb6 := HNB.out W6 hC
            have HN6 := Lib.hid (blink HN.out hC)
            have hown := own_belowA HOW.out hC
            clear hd hC
            cases x2
            · have HBAD := Lib.hid (HCN.out (HBADG.out (fun h => by have := (HGI.out.1 h).1; cases this)))
              have hs6 : W0.heap.size ≤ W6.heap.size := HN6.out.size
              have hsw : w.heap.size ≤ W0.heap.size := HB0.out.size
              clear hown
              go_wp2_with fail
              go_ret2
              exact ⟨_, ret_vc HBAD.out.1.symm, by rw [HBAD.out.2]; exact World.ownsRow_made W6 #[] 0 (by omega) (Nat.zero_le _) rfl, (blink HB0.out HN6.out).alloc (by omega) _⟩
            · by_cases hle : z0 ≤ 300
              · have HG := Lib.hid (HGD.out (HGI.out.2 ⟨rfl, hle⟩))
                have tb : ¬ (300 < l0 + x0) := by omega
                have HZ0 : Hid (l0 + x0 = z0) := Lib.hid hq0.symm
                have HZ1 : Hid (h0 + (x1 + sy) = z1) := Lib.hid hq1.symm
                have HKL' : Hid (rtL sy ps rt hr (j + 1 + 1) = rtL sy ps rt hr (j + 1) ++ [(l0 + x0, h0 + (x1 + sy))]) := Lib.hid (by rw [HZ0.out, HZ1.out]; exact HKL.out)
                go_wp2_with (at_builtin; refine wpList_append_own _ rfl _ _ 44 rfl W0.heap.size 102 i0 (.agg #[.int .i64 0, .int .i64 0]) 2 16 Try.underlying44 hi hz0 hz1 hz2 rfl (by decide) _ _ _ rfl (hown.alloc _) ⟨W6.heap.size, 0, none⟩ 1 1 [.int .i64 (l0 + x0), .int .i64 (h0 + (x1 + sy))] rfl rfl (pair_new _ _ _ _) (pair_ones _ _) ?c3 ?c4 ?c5 ?_)
                case c3 => rw [rtL_len]; unfold maxLen; omega
                case c4 => rw [rtL_len]; omega
                case c5 => have := HN6.out.size; simp; omega
                intro v' w9 hown' hgrow _
                have HO' : Hid (w9.ownsRow W0.heap.size 102 2 v' (rtL sy ps rt hr (j + 1 + 1)).length (flatA (rtL sy ps rt hr (j + 1 + 1)))) := Lib.hid (by
                  rw [HKL'.out, flatA_append, List.length_append]; exact hown')
                have HN' : Hid (Below W0.heap.size W0 w9) := Lib.hid ((HN6.out.alloc HN6.out.size _).grown hgrow (by have := HN6.out.size; simp; omega) (fun i hi => (hown.lt i hi).1))
                clear hown' hgrow hown
                go_wp2
                go_roundw
                case rel => exact ⟨j + 2, by omega, by go_num, .inr ⟨j + 1, rfl, by rw [HZ.out, HZ0.out], by rw [HZ.out, HZ1.out]⟩, HG.out, HO'.out, HN'.out⟩
                case measure => simp [intOf]; omega
              · have HBAD := Lib.hid (HCN.out (HBADG.out (fun h => hle (HGI.out.1 h).2)))
                have tb : ¬ (l0 + x0 ≤ 300) := by omega
                have tb2 : 300 < l0 + x0 := by omega
                have hs6 : W0.heap.size ≤ W6.heap.size := HN6.out.size
                have hsw : w.heap.size ≤ W0.heap.size := HB0.out.size
                clear hown
                go_wp2_with fail
                go_ret2
                exact ⟨_, ret_vc HBAD.out.1.symm, by rw [HBAD.out.2]; exact World.ownsRow_made W6 #[] 0 (by omega) (Nat.zero_le _) rfl, (blink HB0.out HN6.out).alloc (by omega) _⟩
        · have hk' : k = m := by omega
          have HFIN : Hid (rtC st sy ps rt hr = 0 ∧ rtR st sy ps rt hr = rtL sy ps rt hr k) := Lib.hid (by rw [hk'] at hrok ⊢; exact HCC.out hrok)
          have HF : Hid (Below w.heap.size w wo) := Lib.hid (blink HB0.out hnx)
          have hs3 : w.heap.size ≤ W0.heap.size := HB0.out.size
          clear hst hrok hown hnx hk'
          go_wp2_with fail
          go_ret2
          exact ⟨_, ret_vc HFIN.out.1.symm, by rw [HFIN.out.2]; exact (show OwnA 102 W0.heap.size wo _ _ from HOW.out).mono hs3, HF.out⟩
end Go.Proofs.Ytloelbaaolhlhaa
