/-
  The arrivals behind a scan.
-/
import Derived.Test.YtlempmahkeilpaaArI
namespace Go.Proofs.Ytlempmahkeilpaa
open Go Go.RowKit Go.Shelf
set_option linter.unusedVariables false
attribute [local go_sem] Oper.semAt_some

def orL (xs : List Tm) : List Nat := (xs.map (·.1)).foldl orT t0
theorem orL_snoc (xs : List Tm) (x : Tm) : orL (xs ++ [x]) = orT (orL xs) x.1 := by simp [orL]
theorem orL_ok (xs : List Tm) : TOk (orL xs) := by
  have : ∀ (ys : List Tm) (T : List Nat), TOk T → TOk ((ys.map (·.1)).foldl orT T) := fun ys => by
    induction ys with
    | nil => intro T h; exact h
    | cons y ys ih => intro T h; exact ih _ (orT_ok h y.2)
  exact this xs t0 t0_ok
theorem orL_seen {st : List Nat → List Nat} {A : List Nat} {xs : List Tm} {k : Nat} (h : xs.map (·.1) = (List.range k).map (atK st A)) : orL xs = seenK st A k := by
  unfold orL
  rw [h]
  clear h
  induction k with
  | zero => rfl
  | succ k ih => rw [List.range_succ, List.map_append, List.foldl_append, ih]; rfl
theorem alloc_setRow (W : World) (cs cs' : Array Value) (t : TypeId) : (W.alloc (.cells cs t)).setRow W.heap.size cs' = W.alloc (.cells cs' t) := by
  unfold World.setRow World.alloc
  congr 1
  apply Array.ext_getElem?
  intro i
  rw [Array.getElem?_modify, Array.getElem?_push, Array.getElem?_push]
  by_cases h : i = W.heap.size
  · subst h; simp
  · rw [if_neg (fun e => h e.symm)]; simp [h]

set_option maxHeartbeats 1000000 in
set_option maxRecDepth 100000 in
theorem iwalk_any (av : Option Addr) (len cap : Nat) (T : List Nat) (w : World) :
    Calls Try.prog 80 #[.slice av len cap, .func (.func 56) #[] #[], tv T] w fun e w' => e = .returned (.func (.func 98) #[] #[.pointer (some ⟨w.heap.size + 1, 0, none⟩), .pointer (some ⟨w.heap.size, 0, none⟩), .pointer (some ⟨w.heap.size + 1 + 1, 0, none⟩)]) ∧ w' = ((w.alloc (.cells #[.slice av len cap] 79)).alloc (.cells #[.func (.func 56) #[] #[]] 135)).alloc (.cells (tw T) 76) := by
  go_enter Try.func80, Try.ntmps80
  go_wp2_with fail
  go_ret
  exact ⟨rfl, rfl⟩

set_option maxHeartbeats 2000000 in
set_option maxRecDepth 100000 in
theorem iarr_in (av : Option Addr) (len cap : Nat) (L : List Lan) (s0 h0 : Nat) (hL : OkHops L) (hlen : L.length ≤ 1048576) (hs0 : s0 < 8) (hh0 : h0 ≤ 300) (w : World) (hv : ReadsLa w (.slice av len cap) L) :
    CallsIn Fence.wide 9 Try.prog 43 #[.slice av len cap, .agg #[.int .i8 (s0 : Int), .int .i16 (h0 : Int)]] w fun e w' => ∃ k, e = .returned (tv (seenK (onw L) (onw L (tOf s0 h0)) k)) ∧ orT (atK (onw L) (onw L (tOf s0 h0)) k) (seenK (onw L) (onw L (tOf s0 h0)) k) = seenK (onw L) (onw L (tOf s0 h0)) k ∧ Below w.heap.size w w' := by
  have hro : Fence.wide.round = none := rfl
  have hFF : ∀ f, Fence.wide.fn f := fun _ => trivial
  have hb1 : Below w.heap.size w (((w.alloc (.cells #[.int .i8 (s0 : Int), .int .i16 (h0 : Int)] 37)).alloc (.cells (tw t0) 76)).alloc (.cells (tw t0) 76)) := ((((Below.refl _ _).alloc (Nat.le_refl _) _).alloc (by simp) _).alloc (by simp; omega) _)
  have BR : BlkT (((w.alloc (.cells #[.int .i8 (s0 : Int), .int .i16 (h0 : Int)] 37)).alloc (.cells (tw t0) 76)).alloc (.cells (tw t0) 76)) (w.heap.size + 1) t0 := (BlkA.new (by simp) _ _).alloc _
  have BL : BlkT (((w.alloc (.cells #[.int .i8 (s0 : Int), .int .i16 (h0 : Int)] 37)).alloc (.cells (tw t0) 76)).alloc (.cells (tw t0) 76)) (w.heap.size + 1 + 1) t0 := BlkA.new (by simp) _ _
  have HV := Lib.hid hv
  have HL := Lib.hid hL
  obtain ⟨W3, e3⟩ : ∃ X, (((w.alloc (.cells #[.int .i8 (s0 : Int), .int .i16 (h0 : Int)] 37)).alloc (.cells (tw t0) 76)).alloc (.cells (tw t0) 76)) = X := ⟨_, rfl⟩
  rw [e3] at hb1 BR BL
  rw [tw_zero] at e3
  have HB1 := Lib.hid hb1
  have HBR := Lib.hid BR
  have HBL := Lib.hid BL
  have E3 := Lib.hid e3
  clear hv hL hb1 BR BL e3
  refine callsIn_of_wp_marks Try.func43 rfl (hFF _) ?_ hro
  simp only [Try.ntmps43, List.size_toArray, List.length_cons, List.length_nil, Nat.reduceAdd, Nat.reduceSub, Array.replicate_succ, Array.replicate_zero, List.push_toArray, List.append_toArray, List.nil_append, List.cons_append]
  gi_wp2
  rw [E3.out]
  refine ((callsIn_wide (n := 8)).2 (itimesOf_any s0 h0 hs0 hh0 W3)).mono ?_
  rintro e W4 ⟨rfl, b4⟩
  have HB4 := Lib.hid b4
  clear b4
  gi_wp2
  refine ((callsIn_wide (n := 8)).2 (iwalk_any av len cap (tOf s0 h0) W4)).mono ?_
  rintro e W5 ⟨rfl, e5⟩
  have hs4 : w.heap.size + 1 + 1 < W4.heap.size := BlkA.lt (BlkA.below HBL.out HB4.out)
  have hb5 : Below W4.heap.size W4 W5 := by rw [e5]; exact ((((Below.refl _ _).alloc (Nat.le_refl _) _).alloc (by simp) _).alloc (by simp; omega) _)
  have hbh : BlkA W5 W4.heap.size 79 #[.slice av len cap] := by rw [e5]; exact ((BlkA.new rfl _ _).alloc _).alloc _
  have hbq : BlkA W5 (W4.heap.size + 1) 135 #[.func (.func 56) #[] #[]] := by rw [e5]; exact (BlkA.new (by simp) _ _).alloc _
  have hbf : BlkT W5 (W4.heap.size + 1 + 1) (tOf s0 h0) := by rw [e5]; exact BlkA.new (by simp) _ _
  have hs5 : W4.heap.size + 1 + 1 < W5.heap.size := BlkA.lt hbf
  have hbw : Below w.heap.size w W5 := blink (blink HB1.out HB4.out) hb5
  have hbr : BlkT W5 (w.heap.size + 1) t0 := BlkA.below (BlkA.below HBR.out HB4.out) hb5
  have hbl : BlkT W5 (w.heap.size + 1 + 1) t0 := BlkA.below (BlkA.below HBL.out HB4.out) hb5
  have HBH := Lib.hid hbh
  have HBQ := Lib.hid hbq
  have HBF := Lib.hid hbf
  have HBW := Lib.hid hbw
  have HBR5 := Lib.hid hbr
  have HBL5 := Lib.hid hbl
  have HE5 := Lib.hid e5
  clear e5 hb5 hbh hbq hbf hbw hbr hbl
  gi_wp2
  try rw [← HE5.out]
  refine wpIn_range_upK (α := Tm) hro (by omega) (gf := 98) (lb := #[.pointer (some ⟨W4.heap.size + 1, 0, none⟩), .pointer (some ⟨W4.heap.size, 0, none⟩), .pointer (some ⟨W4.heap.size + 1 + 1, 0, none⟩)]) rfl (hFF _) (enters_of Try.func98 (by kernel_rfl) rfl)
    (encs := fun x => #[tv x.1]) (S := SeqS (onw L) (onw L (tOf s0 h0))) (N := 8 * 2 ^ room) (Kp := KpW (W4.heap.size + 1) W4.heap.size (.slice av len cap) L) (w0 := W5)
    (fun l J W hW hJ hKp hY hJ0 => walk1_in 8 (by omega) l _ _ _ (.slice av len cap) L (tOf s0 h0) (tOf_ok s0 h0 hh0) HL.out hlen J W hJ hKp hY (BlkA.below HBF.out hW) hJ0) (Below.refl _ _) (fun _ => rfl)
    (fun xs W => BlkT W (w.heap.size + 1 + 1) (orL xs) ∧ BlkT W (w.heap.size + 1) t0 ∧ BlkA W (W4.heap.size + 1) 135 #[.func (.func 56) #[] #[]] ∧ BlkA W W4.heap.size 79 #[.slice av len cap] ∧ Below w.heap.size w W)
    ?up ?kp ⟨HBL5.out, HBR5.out, HBQ.out, HBH.out, HBW.out⟩
    (fun x b => { tmps := #[.slice av len cap, .agg #[.int .i8 (s0 : Int), .int .i16 (h0 : Int)], undef, .pointer (some ⟨w.heap.size, 0, none⟩), .pointer (some ⟨w.heap.size + 1, 0, none⟩), .pointer (some ⟨w.heap.size + 1 + 1, 0, none⟩), .pointer (some ⟨b, 0, none⟩), .slice av len cap, .agg #[.int .i8 (s0 : Int), .int .i16 (h0 : Int)], tv (tOf s0 h0), .func (.func 98) #[] #[.pointer (some ⟨W4.heap.size + 1, 0, none⟩), .pointer (some ⟨W4.heap.size, 0, none⟩), .pointer (some ⟨W4.heap.size + 1 + 1, 0, none⟩)], tv x.1, undef, undef, undef, undef], defers := [] })
    (fun x => .cells (tw x.1) 76) ?assign ?body ?done
  case up =>
    rintro xs A B row ⟨h1, h2, h3, h4, h5⟩ hg hr
    have far : ∀ k, k < W5.heap.size → some k ≠ row := fun k hk e => by have := hr k e.symm; omega
    exact ⟨(hg.block _ (BlkA.lt h1) (far _ (by omega))).trans h1, (hg.block _ (BlkA.lt h2) (far _ (by omega))).trans h2, (hg.block _ (BlkA.lt h3) (far _ (by omega))).trans h3, (hg.block _ (BlkA.lt h4) (far _ (by omega))).trans h4, h5.grown hg (by have := h5.size; omega) (fun k e => by have := hr k e; omega)⟩
  case kp =>
    rintro xs W ⟨h1, h2, h3, h4, h5⟩
    exact ⟨h3.at 0, h4.at 0, HV.out.below h5⟩
  case assign =>
    intro l x W K hK
    obtain ⟨W2, e2⟩ : ∃ X, W.alloc (.cells (tw t0) 76) = X := ⟨_, rfl⟩
    have hn : BlkT W2 W.heap.size t0 := by rw [← e2]; exact BlkA.new rfl _ _
    have hw : W2.setRow W.heap.size (tw x.1) = W.alloc (.cells (tw x.1) 76) := by rw [← e2]; exact alloc_setRow W _ _ _
    rw [tw_zero] at e2
    have HE := Lib.hid e2
    have HN := Lib.hid hn
    have HW := Lib.hid hw
    clear e2 hn hw
    obtain ⟨X, hX⟩ := x
    simp only at HW hK ⊢
    gi_wp2_with (refine wpListIn_store_row (o := ⟨none, _, _, _, _, _⟩) rfl 76 (.tmp 6) (.tmp 11) rfl W.heap.size (tw X) rfl rfl 76 (tw t0) (by rw [HE.out]; exact HN.out) (tw_info hX.len) (by rw [tw_size, tw_size, hX.len, t0_ok.len]) (tw_ones _) ?_)
    rw [HE.out, HW.out]
    exact hK
  case body =>
    rintro l pre x b W ⟨h1, h2, h3, h4, h5⟩ hpl hbge hbl
    have hsn := orL_snoc pre x
    have hoks := orL_ok (pre ++ [x])
    have hok0 := orL_ok pre
    obtain ⟨X, hX⟩ := x
    simp only at hsn hbl ⊢
    obtain ⟨R0, hR0⟩ : ∃ R, orL pre = R := ⟨_, rfl⟩
    obtain ⟨R1, hR1⟩ : ∃ R, orL (pre ++ [⟨X, hX⟩]) = R := ⟨_, rfl⟩
    rw [hR0] at hsn h1 hok0
    rw [hR1] at hsn hoks
    have HSN := Lib.hid hsn
    have HR1 := Lib.hid hR1
    have H1 := Lib.hid h1
    have H2 := Lib.hid h2
    have H3 := Lib.hid h3
    have H4 := Lib.hid h4
    have H5 := Lib.hid h5
    have HX : Hid (BlkT W b X) := Lib.hid hbl
    clear hsn hR0 hR1 h1 h2 h3 h4 h5 hbl
    gi_wp2_with (first
      | (refine wpListIn_load_row (o := ⟨some 12, _, _, _, _, _⟩) rfl 76 (.tmp 5) rfl (w.heap.size + 1 + 1) rfl 76 (tw R0) (0, 0) _ H1.out (show Try.prog.underlying 76 = some (.array 8 74) by kernel_rfl) rfl (tw_info hok0.len) ?_)
      | (refine wpListIn_load_row (o := ⟨some 13, _, _, _, _, _⟩) rfl 76 (.tmp 6) rfl b rfl 76 (tw X) (0, 0) _ HX.out (show Try.prog.underlying 76 = some (.array 8 74) by kernel_rfl) rfl (tw_info hX.len) ?_))
    refine (CallsIn.inRound l ((callsIn_wide (n := _)).2 (itor_any R0 X hok0 hX W))).mono ?_
    rintro e W7 ⟨rfl, b7⟩
    rw [← HSN.out]
    have H17 : Hid (BlkT W7 (w.heap.size + 1 + 1) R0) := Lib.hid (BlkA.below H1.out b7)
    have H27 : Hid (BlkT W7 (w.heap.size + 1) t0) := Lib.hid (BlkA.below H2.out b7)
    have H37 := Lib.hid (H3.out.below b7)
    have H47 := Lib.hid (H4.out.below b7)
    have H57 := Lib.hid (blink H5.out b7)
    have HB7 := Lib.hid b7
    clear b7
    gi_wp2_with (refine wpListIn_store_row (o := ⟨none, _, _, _, _, _⟩) rfl 76 (.tmp 5) (.tmp 14) rfl (w.heap.size + 1 + 1) (tw R1) rfl rfl 76 (tw R0) H17.out (tw_info hoks.len) (by rw [tw_size, tw_size, hoks.len, hok0.len]) (tw_ones _) ?_)
    have hgs := grown_setRow W7 (w.heap.size + 1 + 1) (tw R1)
    exact ⟨(KeepsUp.below HB7.out).trans (KeepsUp.grown hgs (fun r e => by cases e; omega)), by rw [HR1.out]; exact H17.out.setRow_same, H27.out.setRow_other (by omega), (hgs.block _ (BlkA.lt H37.out) (by simp; omega)).trans H37.out, (hgs.block _ (BlkA.lt H47.out) (by simp; omega)).trans H47.out, H57.out.grown hgs H57.out.size (fun k e => by cases e; omega)⟩
  case done =>
    rintro D xs W hD ⟨k, hk, hend⟩ ⟨h1, h2, h3, h4, h5⟩ hK
    have hsk := orL_seen hk
    have hoks := orL_ok xs
    rw [hsk] at h1 hoks
    have HEND := Lib.hid hend
    obtain ⟨R, hR⟩ : ∃ R, seenK (onw L) (onw L (tOf s0 h0)) k = R := ⟨_, rfl⟩
    rw [hR] at h1 hoks
    have HR := Lib.hid hR
    have H1 := Lib.hid h1
    have H2 := Lib.hid h2
    have H5 := Lib.hid h5
    have HK := Lib.hid hK
    clear hk hend hsk h1 h2 h3 h4 h5 hK hR
    gi_wp2_with (first
      | (refine wpListIn_load_row (o := ⟨some 15, _, _, _, _, _⟩) rfl 76 (.tmp 5) rfl (w.heap.size + 1 + 1) rfl 76 (tw R) (0, 0) _ H1.out (show Try.prog.underlying 76 = some (.array 8 74) by kernel_rfl) rfl (tw_info hoks.len) ?_)
      | (refine wpListIn_store_row (o := ⟨none, _, _, _, _, _⟩) rfl 76 (.tmp 4) (.tmp 15) rfl (w.heap.size + 1) (tw R) rfl rfl 76 (tw t0) H2.out (tw_info hoks.len) (by rw [tw_size, tw_size, hoks.len, t0_ok.len]) (tw_ones _) ?_))
    have hK2 : (W.setRow (w.heap.size + 1) (tw R)).heap[D]? = some (.deferred (some [])) := ((grown_setRow W _ _).block D (Array.getElem?_eq_some_iff.1 HK.out).1 (by simp; omega)).trans HK.out
    refine ⟨by simp, .inl ⟨_, _, rfl, run_takeDeferred hK2, ?_⟩⟩
    have hne : w.heap.size + 1 ≠ D := by omega
    exact ⟨tv R, results_cell_row Try.results43 _ _ (w.heap.size + 1) 76 (tw R) (0, 0) _ rfl ((World.putObj_heap_other hne).trans H2.out.setRow_same) (show Try.prog.underlying 76 = some (.array 8 74) by kernel_rfl) rfl (tw_info hoks.len), k, by rw [HR.out], HEND.out, Below.trans (below_setRowT H5.out (by omega)) (belowK_b (w := w) (Nat.le_refl _) _ D _ _ (by omega) hK2 rfl rfl)⟩
end Go.Proofs.Ytlempmahkeilpaa
