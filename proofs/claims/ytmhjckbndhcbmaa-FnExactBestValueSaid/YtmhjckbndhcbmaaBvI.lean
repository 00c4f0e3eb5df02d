/-
  The contract of impl.BestValue.
-/
import Derived.Test.YtmhjckbndhcbmaaBestFold
import Derived.Test.YtmhjckbndhcbmaaClone
import Derived.Test.YtmhjckbndhcbmaaApK
import Derived.Test.YtmhjckbndhcbmaaOwF
import Derived.Laws.NewBlocks
namespace Go.Proofs.Ytmhjckbndhcbmaa
open Go Go.RowKit Go.Shelf
set_option linter.unusedVariables false
attribute [local go_sem] Oper.semAt_some

/-- What holds between the rounds. -/
def BvInv (w2 : World) (xs : List Int) (m : Nat) (pre : List (Fin 500)) (W : World) : Prop := BlkA W w2.heap.size 2 #[.int .i64 (bPre xs m pre).1] ∧ BlkA W (w2.heap.size + 1) 2 #[.int .i64 (bPre xs m pre).2] ∧ Below w2.heap.size w2 W ∧ w2.heap.size + 1 + 1 < W.heap.size

set_option maxHeartbeats 8000000 in
set_option maxRecDepth 100000 in
theorem ibest_in (len b cap m : Nat) (xs : List Int) (hl : xs.length = len) (f1 : 1 ≤ len) (f8 : len < 8) (hm1 : m ≤ 12) (HV : Hid (Vals xs)) (HC0 : Hid (codeOf xs (inB (m : Int) 0 12) = 0)) (w : World) (hv : ReadsI w (.slice (some ⟨b, 0, none⟩) len cap) xs) (hc : Cells w b xs) :
    CallsIn Fence.wide 5 Try.prog 8 #[.slice (some ⟨b, 0, none⟩) len cap, .int .i64 m] w fun e w' => e = .returned (.tuple #[.int .i64 (bestK xs m 500).1, .int .i64 (bestK xs m 500).2, .int .i64 0]) ∧ Below w.heap.size w w' := by
  have hro : Fence.wide.round = none := rfl
  have hFF : ∀ f, Fence.wide.fn f := fun _ => trivial
  have HL := Lib.hid hl
  have t8 : ((len : Int) == 8) = false := by simp; omega
  have hne8 : (len : Int) ≠ 8 := by omega
  have hbw : b < w.heap.size := World.block_lt_of_cell? w _ (hc 0 (by omega))
  have hb1 : Below w.heap.size w ((w.alloc (.cells #[.slice (some ⟨b, 0, none⟩) len cap] 22)).alloc (.cells #[.int .i64 m] 2)) := ((Below.refl _ _).alloc (Nat.le_refl _) _).alloc (by simp) _
  have BS : BlkA ((w.alloc (.cells #[.slice (some ⟨b, 0, none⟩) len cap] 22)).alloc (.cells #[.int .i64 m] 2)) w.heap.size 22 #[.slice (some ⟨b, 0, none⟩) len cap] := (BlkA.new rfl _ _).alloc _
  have BM : BlkA ((w.alloc (.cells #[.slice (some ⟨b, 0, none⟩) len cap] 22)).alloc (.cells #[.int .i64 m] 2)) (w.heap.size + 1) 2 #[.int .i64 m] := BlkA.new (by simp) _ _
  obtain ⟨w1, e1⟩ : ∃ w1, (w.alloc (.cells #[.slice (some ⟨b, 0, none⟩) len cap] 22)).alloc (.cells #[.int .i64 m] 2) = w1 := ⟨_, rfl⟩
  rw [e1] at hb1 BS BM
  have hck := (callsIn_wide (n := 4)).2 (checkst_any _ xs (m : Int) w1 (hv.below hb1) (by omega))
  rw [HC0.out] at hck
  have HE1 := Lib.hid e1
  have HB1 := Lib.hid hb1
  have HS1 := Lib.hid BS
  have HM1 := Lib.hid BM
  have HCK := Lib.hid hck
  have HCEL := Lib.hid (hc.below hb1)
  have c2 := BS.at 0
  have c3 := BM.at 0
  have hs1 : w.heap.size + 1 < w1.heap.size := BM.lt
  clear e1 hb1 hck BS BM hv hc hl
  refine callsIn_of_wp_marks Try.func8 rfl (hFF _) ?_ hro
  simp only [Try.ntmps8, List.size_toArray, List.length_cons, List.length_nil, Nat.reduceAdd, Nat.reduceSub, Array.replicate_succ, Array.replicate_zero, List.push_toArray, List.append_toArray, List.nil_append, List.cons_append]
  gi_wp2
  rw [HE1.out]
  refine HCK.out.mono ?_
  rintro e w2 ⟨rfl, rfl⟩
  have bl : Below w1.heap.size w1 ((w1.alloc (.cells #[.int .i64 0] 2)).alloc (.cells #[.int .i64 (-1)] 2)) := ((Below.refl _ _).alloc (Nat.le_refl _) _).alloc (by simp) _
  have g2 : ((w1.alloc (.cells #[.int .i64 0] 2)).alloc (.cells #[.int .i64 (-1)] 2)).cell? ⟨w.heap.size, 0, none⟩ = some (.slice (some ⟨b, 0, none⟩) len cap) := (HS1.out.below bl).at 0
  have hs0 : w.heap.size < w1.heap.size := by omega
  have hcell : Cells ((w1.alloc (.cells #[.int .i64 0] 2)).alloc (.cells #[.int .i64 (-1)] 2)) b xs := HCEL.out.below bl
  have BB : BlkA ((w1.alloc (.cells #[.int .i64 0] 2)).alloc (.cells #[.int .i64 (-1)] 2)) w1.heap.size 2 #[.int .i64 0] := (BlkA.new rfl _ _).alloc _
  have BR : BlkA ((w1.alloc (.cells #[.int .i64 0] 2)).alloc (.cells #[.int .i64 (-1)] 2)) (w1.heap.size + 1) 2 #[.int .i64 (-1)] := BlkA.new (by simp) _ _
  have hz3 : ((w1.alloc (.cells #[.int .i64 0] 2)).alloc (.cells #[.int .i64 (-1)] 2)).heap.size = w1.heap.size + 1 + 1 := by simp
  clear c2 c3
  have c2 : w1.cell? ⟨w.heap.size, 0, none⟩ = some (.slice (some ⟨b, 0, none⟩) len cap) := HS1.out.at 0
  gi_wp2
  refine (other_in Fence.wide 4 (hFF _) hro _ _ _ _).mono ?_
  rintro e w5 ⟨rfl, e5⟩
  rw [hz3]
  have b5 : Below ((w1.alloc (.cells #[.int .i64 0] 2)).alloc (.cells #[.int .i64 (-1)] 2)).heap.size ((w1.alloc (.cells #[.int .i64 0] 2)).alloc (.cells #[.int .i64 (-1)] 2)) w5 := by rw [e5]; exact (Below.refl _ _).alloc (Nat.le_refl _) _
  have BC : BlkA w5 (w1.heap.size + 1 + 1) 22 #[.slice (some ⟨b, 0, none⟩) len cap] := by rw [e5]; exact BlkA.new hz3 _ _
  have HBB := Lib.hid (BB.below b5)
  have HBR := Lib.hid (BR.below b5)
  have HBC := Lib.hid BC
  have HB5 := Lib.hid (blink bl b5)
  have HC5 := Lib.hid (hcell.below b5)
  have hs5 : w1.heap.size + 1 + 1 < w5.heap.size := BC.lt
  have HBP : Hid (bPre xs m [] = (0, -1)) := Lib.hid (bPre_nil xs m)
  clear e5 b5 BC BB BR hz3 hcell g2 bl c2
  gi_wp2
  refine wpIn_rangeFunc_ownF (α := Fin 500) hro (by omega) (gf := 65) (lb := #[.pointer (some ⟨w1.heap.size + 1 + 1, 0, none⟩)]) rfl (hFF _) (enters_of Try.func65 (by kernel_rfl) rfl)
    (other_stops Fence.wide 4 hFF hro (by omega) (w1.heap.size + 1 + 1) b cap xs (by rw [HL.out]; omega) w5 hs5 (by rw [HL.out]; exact HBC.out.at 0) HC5.out) (fun h k => Keeps2.trans h k) (Keeps2.put (by omega) (by omega)) (Below.refl _ _) (fun _ => rfl)
    (BvInv w1 xs m)
    (fun _ _ _ => False) ?own (fun _ _ _ _ _ h _ _ => h) ⟨by rw [HBP.out]; exact HBB.out, by rw [HBP.out]; exact HBR.out, HB5.out, hs5⟩ ?act ?assign ?body ?done (fun _ _ _ _ _ _ h _ => h.elim)
  case own =>
    rintro s A B row ⟨h1, h2, h4, h5⟩ hg hr
    exact ⟨blkA_kept h1 hg (fun r e => (hr r e).2), blkA_kept h2 hg (fun r e => (hr r e).2), below_kept h4 h4.size (by omega) hg (fun r e => (hr r e).1), Nat.lt_of_lt_of_le h5 hg.size⟩
  case assign =>
    intro l x W K hK
    gi_wp2
    exact hK
  case body =>
    rintro l pre ⟨x, hx5⟩ W ⟨h1, h2, h4, h5⟩ hpl
    simp only
    obtain ⟨s0, s1, hs⟩ : ∃ s0 s1, bPre xs m pre = (s0, s1) := ⟨_, _, rfl⟩
    rw [hs] at h1 h2
    simp only at h1 h2
    obtain ⟨y, hy⟩ : ∃ y, (x : Int) + 1 = y := ⟨_, rfl⟩
    have hy1 : 1 ≤ y := by omega
    have hy5 : y ≤ 500 := by omega
    obtain ⟨r, hr⟩ : ∃ r, rv (xs ++ [y]) m = r := ⟨_, rfl⟩
    have HSN : Hid (bPre xs m (pre ++ [(⟨x, hx5⟩ : Fin 500)]) = bStep xs m (s0, s1) y) := Lib.hid (by rw [bPre_snoc, hs, ← hy])
    have HNEW : Hid (s1 < r → bStep xs m (s0, s1) y = (y, r)) := Lib.hid (fun g => bStep_new hr g)
    have HOLD : Hid (r ≤ s1 → bStep xs m (s0, s1) y = (s0, s1)) := Lib.hid (fun g => bStep_old hr (by omega))
    have HRV : Hid (∀ q : Nat, IsReach (xs ++ [y]) m q → ((q : Nat) : Int) = r) := Lib.hid (fun q hq => by rw [← hr]; exact (rv_is hq).symm)
    have HVM := Lib.hid (vals_more HV.out hy1 hy5)
    obtain ⟨ys, hys⟩ : ∃ ys, pre ++ [(⟨x, hx5⟩ : Fin 500)] = ys := ⟨_, rfl⟩
    rw [hys] at HSN ⊢
    rw [hy]
    have H1 := Lib.hid h1
    have H2 := Lib.hid h2
    have H4 := Lib.hid h4
    have hW5 : w1.heap.size + 1 + 1 < W.heap.size := h5
    have hbW : b < W.heap.size := by omega
    clear h1 h2 h4 h5 hs hy hr hys hpl
    gi_wp2
    refine wpIn_region_relL (fun W' => Below W.heap.size W W') (KpI W.heap.size [xs, xs ++ [y], [y]]) 8 [fun u _ => u = Value.slice (some ⟨b, 0, none⟩) len cap, fun u W' => OwnI W.heap.size W' u xs, fun u _ => u = Value.int .i64 y, fun u W' => OwnI W.heap.size W' u [y], fun u W' => OwnI W.heap.size W' u (xs ++ [y]), fun u _ => u = Value.int .i64 (m : Int), fun u _ => u = Value.int .i64 r, fun u _ => u = Value.int .i64 r] (by kernel_rfl) (by kernel_rfl) (by kernel_rfl) rfl (Below.refl _ _).drew ?_
    simp only [List.take_succ_cons, List.take_zero, List.drop_succ_cons, List.drop_zero]
    refine wpRelI_cons (fun _ _ _ _ _ h => h) (fun V hC hd => relOblI_intro fun K hK => ?_) (fun v24 => ?_)
    · have HK := Lib.hid hK
      have HC := Lib.hid hC
      have c0 : V.cell? ⟨w.heap.size, 0, none⟩ = some (.slice (some ⟨b, 0, none⟩) len cap) := (HS1.out.below (blink H4.out hC)).at 0
      clear hK hd hC
      go_simp
      exact HK.out _ _ ⟨_, rfl, HC.out, kpI_below (Below.refl _ _) HC.out.size, rfl⟩
    simp only [Act.put, List.setIfInBounds_toArray, List.set_cons_zero, List.set_cons_succ]
    refine wpRelI_cons (fun _ _ _ _ hS h => hS.2 _ _ (by simp) h) (fun V hC hd => relOblI_intro fun K hK => ?_) (fun v25 => ?_)
    · have HK := Lib.hid hK
      have HC := Lib.hid hC
      obtain rfl : v24 = Value.slice (some ⟨b, 0, none⟩) len cap := hd 0 rfl _ rfl
      have HCV := Lib.hid (HCEL.out.below (blink H4.out hC))
      clear hK hd hC
      go_simp
      refine (CallsIn.inRound l ((callsIn_wide (n := _)).2 (clone_row b len cap xs HL.out (by omega) V HCV.out))).mono ?_
      rintro e V5 ⟨u, rfl, o5, b5⟩
      exact HK.out _ _ ⟨_, rfl, blink HC.out b5, kpI_below b5 HC.out.size, OwnI.mono o5 HC.out.size⟩
    simp only [Act.put, List.setIfInBounds_toArray, List.set_cons_zero, List.set_cons_succ]
    refine wpRelI_cons (fun _ _ _ _ _ h => h) (fun V hC hd => relOblI_intro fun K hK => ?_) (fun v26 => ?_)
    · have HK := Lib.hid hK
      have HC := Lib.hid hC
      clear hK hd hC
      go_simp
      exact HK.out _ _ ⟨_, rfl, HC.out, kpI_below (Below.refl _ _) HC.out.size, rfl⟩
    simp only [Act.put, List.setIfInBounds_toArray, List.set_cons_zero, List.set_cons_succ]
    refine wpRelI_cons (fun _ _ _ _ hS h => hS.2 _ _ (by simp) h) (fun V hC hd => relOblI_intro fun K hK => ?_) (fun v27 => ?_)
    · have HK := Lib.hid hK
      have HC := Lib.hid hC
      obtain rfl : v26 = Value.int .i64 y := hd 2 rfl _ rfl
      clear hK hd hC
      go_simp
      exact HK.out _ _ ⟨_, rfl, HC.out.alloc HC.out.size _, kpI_below ((Below.refl _ _).alloc (Nat.le_refl _) _) HC.out.size, ownI_one y HC.out.size⟩
    simp only [Act.put, List.setIfInBounds_toArray, List.set_cons_zero, List.set_cons_succ]
    refine wpRelI_cons (fun _ _ _ _ hS h => hS.2 _ _ (by simp) h) (fun V hC hd => relOblI_intro fun K hK => ?_) (fun v28 => ?_)
    · have HK := Lib.hid hK
      have HC := Lib.hid hC
      have HO1 := Lib.hid (show OwnI W.heap.size V v25 xs from hd 1 rfl _ rfl)
      have HO2 := Lib.hid (show OwnI W.heap.size V v27 [y] from hd 3 rfl _ rfl)
      clear hK hd hC
      refine wpIn_append_keep (.tmp 25) (.tmp 27) rfl W.heap.size v25 v27 xs y rfl rfl HO1.out HO2.out (by rw [HL.out]; exact f1) (by rw [HL.out]; omega) HC.out.size ?_
      intro v' V' ho' hb' hk'
      refine HK.out _ _ ⟨v', rfl, HC.out.trans hb', ⟨hb', fun v2 zs hz ho2 => hk' v2 zs ?_ ho2⟩, ho'⟩
      simp only [List.mem_cons, List.mem_nil_iff, or_false] at hz
      rcases hz with rfl | rfl | rfl
      · rw [List.set_eq_of_length_le (Nat.le_refl _)]
      · rw [List.set_append_right _ _ (Nat.le_refl _)]; simp
      · rw [List.set_eq_of_length_le (by have := HL.out; simp; omega)]
    simp only [Act.put, List.setIfInBounds_toArray, List.set_cons_zero, List.set_cons_succ]
    refine wpRelI_cons (fun _ _ _ _ _ h => h) (fun V hC hd => relOblI_intro fun K hK => ?_) (fun v29 => ?_)
    · have HK := Lib.hid hK
      have HC := Lib.hid hC
      have c0 : V.cell? ⟨w.heap.size + 1, 0, none⟩ = some (.int .i64 (m : Int)) := (HM1.out.below (blink H4.out hC)).at 0
      clear hK hd hC
      go_simp
      exact HK.out _ _ ⟨_, rfl, HC.out, kpI_below (Below.refl _ _) HC.out.size, rfl⟩
    simp only [Act.put, List.setIfInBounds_toArray, List.set_cons_zero, List.set_cons_succ]
    refine wpRelI_cons (fun _ _ _ _ _ h => h) (fun V hC hd => relOblI_intro fun K hK => ?_) (fun v30 => ?_)
    · have HK := Lib.hid hK
      have HC := Lib.hid hC
      obtain ⟨g, cg, hv28, hbg, hcg⟩ := ownI_some (show OwnI W.heap.size V v28 (xs ++ [y]) from hd 4 rfl _ rfl) (by simp)
      obtain ⟨q1, hq1⟩ : ∃ q1, (xs ++ [y]).length = q1 := ⟨_, rfl⟩
      rw [hq1] at hv28
      subst hv28
      obtain rfl : v29 = Value.int .i64 (m : Int) := hd 5 rfl _ rfl
      have HRR := Lib.hid (ireach_row g q1 cg (xs ++ [y]) m hq1 (by rw [← hq1, List.length_append, HL.out]; simp; omega) HVM.out hm1 V hcg)
      clear hq1
      clear hcg
      clear hK hd hC
      go_simp
      refine (CallsIn.inRound l ((callsIn_wide (n := _)).2 HRR.out)).mono ?_
      rintro e V5 ⟨q, rfl, hq, b5⟩
      rw [HRV.out q hq]
      exact HK.out _ _ ⟨_, rfl, blink HC.out b5, kpI_below b5 HC.out.size, rfl⟩
    simp only [Act.put, List.setIfInBounds_toArray, List.set_cons_zero, List.set_cons_succ]
    refine wpRelI_cons (fun _ _ _ _ _ h => h) (fun V hC hd => relOblI_intro fun K hK => ?_) (fun v11 => ?_)
    · have HK := Lib.hid hK
      have HC := Lib.hid hC
      obtain rfl : v30 = Value.int .i64 r := hd 6 rfl _ rfl
      clear hK hd hC
      go_simp
      exact HK.out _ _ ⟨_, rfl, HC.out, kpI_below (Below.refl _ _) HC.out.size, rfl⟩
    simp only [Act.put, List.setIfInBounds_toArray, List.set_cons_zero, List.set_cons_succ]
    refine wpRelI_nil fun V hC hd => ?_
    obtain rfl : v11 = Value.int .i64 r := hd 7 _ rfl
    have HC := Lib.hid hC
    have hVs : W.heap.size ≤ V.heap.size := hC.size
    have HBB2 := Lib.hid (H1.out.below hC)
    have HBR2 := Lib.hid (H2.out.below hC)
    have HB4 := Lib.hid (blink H4.out hC)
    have HK1 : Hid (KeepsOthers W V) := Lib.hid ⟨hC.size, fun k o hk _ => (hC.block k (Array.getElem?_eq_some_iff.1 hk).1).trans hk⟩
    have HK2 : Hid (Keeps2 (w1.heap.size + 1 + 1) b W V) := Lib.hid ⟨hC.block _ hW5, hC.block _ hbW⟩
    have c9 : V.cell? ⟨w1.heap.size + 1, 0, none⟩ = some (.int .i64 s1) := HBR2.out.at 0
    have c8 : V.cell? ⟨w1.heap.size, 0, none⟩ = some (.int .i64 s0) := HBB2.out.at 0
    have f8' := HBB2.out.frozen 0
    have f9' := HBR2.out.frozen 0
    clear hd hC
    by_cases g : s1 < r
    · have t1 : decide (s1 < r) = true := decide_eq_true g
      have HST := Lib.hid (HNEW.out g)
      have HFIN : Hid (BvInv w1 xs m ys ((V.setCell ⟨w1.heap.size, 0, none⟩ (.int .i64 y)).setCell ⟨w1.heap.size + 1, 0, none⟩ (.int .i64 r))) := Lib.hid (by
        unfold BvInv
        rw [HSN.out, HST.out]
        refine ⟨?_, ?_, (HB4.out.setCell (Nat.le_refl _) _).setCell (Nat.le_succ _) _, by simp; omega⟩
        · have h := (HBB2.out.set 0 (.int .i64 y)).other ⟨w1.heap.size + 1, 0, none⟩ (.int .i64 r) (by show w1.heap.size ≠ w1.heap.size + 1; omega)
          simpa using h
        · have h := (HBR2.out.other ⟨w1.heap.size, 0, none⟩ (.int .i64 y) (by show w1.heap.size + 1 ≠ w1.heap.size; omega)).set 0 (.int .i64 r)
          simpa using h)
      have HK3 : Hid (KeepsOthers W ((V.setCell ⟨w1.heap.size, 0, none⟩ (.int .i64 y)).setCell ⟨w1.heap.size + 1, 0, none⟩ (.int .i64 r))) := Lib.hid ((HK1.out.trans (KeepsOthers.setCell _ _ _)).trans (KeepsOthers.setCell _ _ _))
      have HK4 : Hid (Keeps2 (w1.heap.size + 1 + 1) b W ((V.setCell ⟨w1.heap.size, 0, none⟩ (.int .i64 y)).setCell ⟨w1.heap.size + 1, 0, none⟩ (.int .i64 r))) := Lib.hid (HK2.out.trans ⟨(heap_setCell_other _ _ _ _ (by show w1.heap.size + 1 + 1 ≠ w1.heap.size + 1; omega)).trans (heap_setCell_other _ _ _ _ (by show w1.heap.size + 1 + 1 ≠ w1.heap.size; omega)), (heap_setCell_other _ _ _ _ (by show b ≠ w1.heap.size + 1; omega)).trans (heap_setCell_other _ _ _ _ (by show b ≠ w1.heap.size; omega))⟩)
      gi_wp2
      exact ⟨HK3.out, HK4.out, HFIN.out⟩
    · have t1 : decide (s1 < r) = false := decide_eq_false g
      have HST := Lib.hid (HOLD.out (by omega))
      have HFIN : Hid (BvInv w1 xs m ys V) := Lib.hid (by
        unfold BvInv
        rw [HSN.out, HST.out]
        exact ⟨HBB2.out, HBR2.out, HB4.out, by omega⟩)
      gi_wp2
      exact ⟨HK1.out, HK2.out, HFIN.out⟩
  case done =>
    rintro D ys W hD rfl ⟨h1, h2, h4, h5⟩ hK
    rw [bPre_oth xs m 500 (Nat.le_refl _)] at h1 h2
    obtain ⟨s0, s1, hs⟩ : ∃ s0 s1, bestK xs m 500 = (s0, s1) := ⟨_, _, rfl⟩
    have HS := Lib.hid hs
    rw [hs] at h1 h2
    simp only at h1 h2
    have H1 := Lib.hid h1
    have H2 := Lib.hid h2
    have HK := Lib.hid hK
    have hDW : D < W.heap.size := (Array.getElem?_eq_some_iff.1 hK).1
    have HB := Lib.hid (blink HB1.out h4)
    have hw1 : w.heap.size ≤ D := by omega
    clear h1 h2 h4 h5 hK hs
    gi_wp2
    refine wpIn_region_relL (fun W' => Below W.heap.size W W') (fun W W' => Below W.heap.size W W') 5 [fun u _ => u = Value.int .i64 s0, fun u _ => u = Value.int .i64 s1, fun u _ => u = Value.int .i64 s0, fun u _ => u = Value.int .i64 s1, fun u _ => u = Value.int .i64 0] (by kernel_rfl) (by kernel_rfl) (by kernel_rfl) rfl (Below.refl _ _).drew ?_
    simp only [List.take_succ_cons, List.take_zero, List.drop_succ_cons, List.drop_zero]
    refine wpRelI_cons (fun _ _ _ _ _ h => h) (fun V hC hd => relOblI_intro fun K hK => ?_) (fun v36 => ?_)
    · have HKK := Lib.hid hK
      have HC := Lib.hid hC
      have c0 : V.cell? ⟨w1.heap.size, 0, none⟩ = some (.int .i64 s0) := (H1.out.below hC).at 0
      clear hK hd hC
      go_simp
      exact HKK.out _ _ ⟨_, rfl, HC.out, Below.refl _ _, rfl⟩
    simp only [Act.put, List.setIfInBounds_toArray, List.set_cons_zero, List.set_cons_succ]
    refine wpRelI_cons (fun _ _ _ _ _ h => h) (fun V hC hd => relOblI_intro fun K hK => ?_) (fun v37 => ?_)
    · have HKK := Lib.hid hK
      have HC := Lib.hid hC
      have c0 : V.cell? ⟨w1.heap.size + 1, 0, none⟩ = some (.int .i64 s1) := (H2.out.below hC).at 0
      clear hK hd hC
      go_simp
      exact HKK.out _ _ ⟨_, rfl, HC.out, Below.refl _ _, rfl⟩
    simp only [Act.put, List.setIfInBounds_toArray, List.set_cons_zero, List.set_cons_succ]
    refine wpRelI_cons (fun _ _ _ _ _ h => h) (fun V hC hd => relOblI_intro fun K hK => ?_) (fun v4 => ?_)
    · have HKK := Lib.hid hK
      have HC := Lib.hid hC
      obtain rfl : v36 = Value.int .i64 s0 := hd 0 rfl _ rfl
      clear hK hd hC
      go_simp
      exact HKK.out _ _ ⟨_, rfl, HC.out, Below.refl _ _, rfl⟩
    simp only [Act.put, List.setIfInBounds_toArray, List.set_cons_zero, List.set_cons_succ]
    refine wpRelI_cons (fun _ _ _ _ _ h => h) (fun V hC hd => relOblI_intro fun K hK => ?_) (fun v5 => ?_)
    · have HKK := Lib.hid hK
      have HC := Lib.hid hC
      obtain rfl : v37 = Value.int .i64 s1 := hd 1 rfl _ rfl
      clear hK hd hC
      go_simp
      exact HKK.out _ _ ⟨_, rfl, HC.out, Below.refl _ _, rfl⟩
    simp only [Act.put, List.setIfInBounds_toArray, List.set_cons_zero, List.set_cons_succ]
    refine wpRelI_cons (fun _ _ _ _ _ h => h) (fun V hC hd => relOblI_intro fun K hK => ?_) (fun v6 => ?_)
    · have HKK := Lib.hid hK
      have HC := Lib.hid hC
      clear hK hd hC
      go_simp
      exact HKK.out _ _ ⟨_, rfl, HC.out, Below.refl _ _, rfl⟩
    simp only [Act.put, List.setIfInBounds_toArray, List.set_cons_zero, List.set_cons_succ]
    refine wpRelI_nil fun V hC hd => ?_
    obtain rfl : v4 = Value.int .i64 s0 := hd 2 _ rfl
    obtain rfl : v5 = Value.int .i64 s1 := hd 3 _ rfl
    obtain rfl : v6 = Value.int .i64 0 := hd 4 _ rfl
    have hKV : V.heap[D]? = some (.deferred (some [])) := (hC.block D hDW).trans HK.out
    have HKV := Lib.hid hKV
    have HBF := Lib.hid ((blink HB.out hC).trans (belowK_b (w := w) (Nat.le_refl _) V D _ (.deferred none) hw1 hKV rfl rfl))
    clear hd hC hKV
    gi_wp2
    refine ⟨by simp, .inl ⟨_, _, rfl, run_takeDeferred HKV.out, ?_⟩⟩
    refine ⟨.tuple #[.int .i64 s0, .int .i64 s1, .int .i64 0], by simp [results, Try.results8, go_sem], ?_, HBF.out⟩
    rw [HS.out]
end Go.Proofs.Ytmhjckbndhcbmaa
