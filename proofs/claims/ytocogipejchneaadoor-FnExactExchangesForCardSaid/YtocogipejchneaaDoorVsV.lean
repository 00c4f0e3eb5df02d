/-
  slices.Values, Collect and Sorted at numbers, at any length; hasEachOnce.
-/
import Derived.Test.YtocogipejchneaaDoorOwF
import Derived.Test.YtocogipejchneaaDoorVsE
import Derived.Test.YtocogipejchneaaDoorVsP
import Derived.Test.YtocogipejchneaaDoorToJ
import Derived.Test.YtocogipejchneaaDoorLaySort
import Derived.Shelf.SortM.AssemblyIn
import Derived.Shelf.SortM.SortNone
import Derived.Shelf.SortM.Plain
import Derived.Sort.OwnSortedInts
import Derived.Shelf.Abstract
import Derived.OwnWalkIn
import Derived.TacticsInMore
import Derived.LoopNIn
import Derived.LoopIn
import Derived.RangeFuncBox
namespace Go.Proofs.YtocogipejchneaaDoor
open Go Go.RowKit Go.Shelf Go.Sort
set_option linter.unusedVariables false
attribute [local go_sem] Oper.semAt_some

theorem own_rowV {B : Nat} {w w' : World} {v : Value} {xs : List Int} (h : w.ownsRow B 2 1 v xs.length (xs.map (Value.int .i64))) (hb : Below w.heap.size w w') : w'.ownsRow B 2 1 v xs.length (xs.map (Value.int .i64)) := (show OwnI B w v xs from h).below hb

theorem rowV_other {B n m : Nat} {T : TypeId} {w : World} {v : Value} {us : List Value} (h : w.ownsRow B T n v m us) (p : Addr) (u : Value) (hp : p.block < B) : (w.setCell p u).ownsRow B T n v m us := by
  refine ⟨h.1, ?_⟩
  rcases h.2 with hn | ⟨g, cap, cur, rfl, hB, hg, rest⟩
  · exact .inl hn
  · exact .inr ⟨g, cap, cur, rfl, hB, by rw [heap_setCell_other w p g u (by omega)]; exact hg, rest⟩

def fAt (zs : List Int) (x : Fin zs.length) : Int := zs.getD x.val 0

set_option maxRecDepth 100000 in
set_option maxHeartbeats 1000000 in
theorem vals_stops (n : Nat) (hn : 2 ≤ n) (Bs cap : Nat) (a : Option Addr) (zs : List Int) (hz : zs.length ≤ 1048576) (M : Nat) (w : World) (hM : M ≤ w.heap.size) (hBs : w.cell? ⟨Bs, 0, none⟩ = some (.slice a zs.length cap)) (hlt : Bs < M) (ha : zs ≠ [] → ∃ b, b < M ∧ a = some ⟨b, 0, none⟩ ∧ Cells w b zs) :
    SeqStopsK Fence.wide n Tryd.prog 37 #[.pointer (some ⟨Bs, 0, none⟩)] (fun x : Fin zs.length => #[.int .i64 (fAt zs x)]) (Below M) (fun xs => xs.map (·.val) = List.range zs.length) (fun pre => True) zs.length w := by
  intro l J Jx W hW _ _ hY h0
  have hro : Fence.wide.round = none := rfl
  have hFF : ∀ f, Fence.wide.fn f := fun _ => trivial
  have HY := Lib.hid hY
  have HA := Lib.hid ha
  have hB : W.cell? ⟨Bs, 0, none⟩ = some (.slice a zs.length cap) := (hW.cell (p := ⟨Bs, 0, none⟩) (by show Bs < w.heap.size; omega)).trans hBs
  have HW := Lib.hid hW
  have hn1 : 1 ≤ n := by omega
  obtain ⟨len, hlen⟩ : ∃ len, zs.length = len := ⟨_, rfl⟩
  have HLEN := Lib.hid hlen
  rw [hlen] at hB hz
  clear hY hW hBs ha hlen
  refine callsIn_of_wp Tryd.func37 rfl (hFF _) ?_ hro
  simp only [Tryd.ntmps37, List.size_toArray, List.length_cons, List.length_nil, Nat.reduceAdd, Nat.reduceSub, Array.replicate_succ, Array.replicate_zero, List.push_toArray, List.append_toArray, List.nil_append, List.cons_append]
  gi_wp2
  gi_loopw [7] (fun i wr => ∃ (k : Nat) (pre : List (Fin zs.length)), pre.map (·.val) = List.range k ∧ k ≤ len ∧ i = .int .i64 k ∧ J pre wr ∧ Below M W wr) (fun i _ => len - (intOf i).toNat)
  case atStart => exact ⟨0, [], rfl, Nat.zero_le _, rfl, h0, Below.refl _ _⟩
  case round =>
    obtain ⟨k, pre, hpre, hk, rfl, hJk, hbel⟩ := hrel
    have hpl : pre.length = k := by have h := congrArg List.length hpre; simpa using h
    have HPRE := Lib.hid hpre
    have HPL := Lib.hid hpl
    have HBEL := Lib.hid hbel
    clear hpre hpl
    by_cases hlt2 : k < len
    · have hlti : (k : Int) < (len : Int) := by omega
      have hkz : k < zs.length := by rw [HLEN.out]; exact hlt2
      obtain ⟨b, hbM, rfl, hc⟩ := HA.out (by intro e; rw [e] at hkz; simp at hkz)
      have cx : wr.cell? ⟨b, k, none⟩ = some (.int .i64 (zs.getD k 0)) := by
        rw [hbel.cell (p := ⟨b, k, none⟩) hbM]
        exact (HW.out.cell (p := ⟨b, k, none⟩) (by show b < w.heap.size; omega)).trans (hc k hkz)
      have HYK := Lib.hid (HY.out pre ⟨k, hkz⟩ wr hJk (by have := HPL.out; omega))
      have HP2 : Hid ((pre ++ [(⟨k, hkz⟩ : Fin zs.length)]).map (·.val) = List.range (k + 1)) := Lib.hid (by rw [List.map_append, HPRE.out, List.range_succ]; rfl)
      obtain ⟨ys, hys⟩ : ∃ ys, pre ++ [(⟨k, hkz⟩ : Fin zs.length)] = ys := ⟨_, rfl⟩
      rw [hys] at HP2 HYK
      obtain ⟨x, hx⟩ : ∃ x, fAt zs ⟨k, hkz⟩ = x := ⟨_, rfl⟩
      simp only [hx] at HYK
      rw [show zs.getD k 0 = x from hx] at cx
      obtain ⟨fn, tmps, assign, body, hyl, hR⟩ := HYK.out
      clear HYK hys hx hc hbel hJk hkz
      gi_wp2
      refine hR.mono ?_
      rintro e W3 (⟨rfl, hJ3, hk3⟩ | ⟨rfl, hJx3⟩)
      · have HJ3 := Lib.hid hJ3
        have HK3 := Lib.hid (HBEL.out.trans hk3)
        clear hJ3 hyl hR hk3
        gi_wp2
        go_roundw
        case rel => exact ⟨k + 1, ys, HP2.out, by omega, by go_num, HJ3.out, HK3.out⟩
        case measure => simp [intOf]; omega
      · have HJ3 := Lib.hid hJx3
        clear hJx3 hyl hR
        gi_wp2
        refine bodyPost_ret (results_none rfl _ _ _) rfl ?_
        exact ⟨⟨_, rfl⟩, .inr ⟨_, trivial, HJ3.out⟩⟩
    · have hk' : k = len := by omega
      have hlti : ¬ (k : Int) < (len : Int) := by omega
      have HJK := Lib.hid hJk
      have HP3 : Hid (pre.map (·.val) = List.range zs.length) := Lib.hid (by rw [HPRE.out, hk', HLEN.out])
      clear hk' hJk hbel
      gi_wp2
      go_end0
      exact ⟨⟨_, rfl⟩, .inl ⟨_, HP3.out, HJK.out⟩⟩

/-- What holds between the rounds: the list so far, and what lay before. -/
def ApInv (w : World) (zs : List Int) (xs : List (Fin zs.length)) (W : World) : Prop := (∃ v, BlkA W w.heap.size 22 #[v] ∧ W.ownsRow (w.heap.size + 1) 2 1 v (xs.map (fAt zs)).length ((xs.map (fAt zs)).map (Value.int .i64))) ∧ Below w.heap.size w W ∧ w.heap.size + 1 ≤ W.heap.size

set_option maxRecDepth 100000 in
set_option maxHeartbeats 2000000 in
theorem aps_in (Bs cap : Nat) (a : Option Addr) (zs : List Int) (hz : zs.length ≤ 1048576) (w : World) (hBs : w.cell? ⟨Bs, 0, none⟩ = some (.slice a zs.length cap)) (ha : zs ≠ [] → ∃ b, a = some ⟨b, 0, none⟩ ∧ Cells w b zs) :
    CallsIn Fence.wide 5 Tryd.prog 42 #[.slice none 0 0, .func (.func 37) #[] #[.pointer (some ⟨Bs, 0, none⟩)]] w fun e w' => ∃ v, e = .returned v ∧ OwnI w.heap.size w' v zs ∧ Below w.heap.size w w' := by
  have hro : Fence.wide.round = none := rfl
  have hFF : ∀ f, Fence.wide.fn f := fun _ => trivial
  obtain ⟨i0, hi, hz0, hz1, hz2⟩ := info_parts info_i64
  have hBl : Bs < w.heap.size := World.block_lt_of_cell? w _ hBs
  have b1 : Below w.heap.size w (w.alloc (.cells #[.slice none 0 0] 22)) := (Below.refl _ _).alloc (Nat.le_refl _) _
  have bx : BlkA (w.alloc (.cells #[.slice none 0 0] 22)) w.heap.size 22 #[.slice none 0 0] := BlkA.new rfl _ _
  have hc1 : (w.alloc (.cells #[.slice none 0 0] 22)).cell? ⟨Bs, 0, none⟩ = some (.slice a zs.length cap) := (b1.cell (p := ⟨Bs, 0, none⟩) hBl).trans hBs
  have ha1 : zs ≠ [] → ∃ b, b < w.heap.size ∧ a = some ⟨b, 0, none⟩ ∧ Cells (w.alloc (.cells #[.slice none 0 0] 22)) b zs := fun h => by
    obtain ⟨b, e, hc⟩ := ha h
    have hb : b < w.heap.size := by
      obtain ⟨x, xs, rfl⟩ := List.exists_cons_of_ne_nil h
      exact World.block_lt_of_cell? w _ (hc 0 (by simp))
    exact ⟨b, hb, e, hc.below b1⟩
  obtain ⟨W1, hW1⟩ : ∃ W, w.alloc (.cells #[.slice none 0 0] 22) = W := ⟨_, rfl⟩
  rw [hW1] at b1 bx hc1 ha1
  have hs1 : W1.heap.size = w.heap.size + 1 := by rw [← hW1]; simp
  have HB1 := Lib.hid b1
  have HBX := Lib.hid bx
  have HC1 := Lib.hid hc1
  have HA1 := Lib.hid ha1
  have HW1 := Lib.hid hW1
  have HS1 := Lib.hid hs1
  clear hBs ha b1 bx hc1 ha1 hW1 hs1
  refine callsIn_of_wp_marks Tryd.func42 rfl (hFF _) ?_ hro
  simp only [Tryd.ntmps42, List.size_toArray, List.length_cons, List.length_nil, Nat.reduceAdd, Nat.reduceSub, Array.replicate_succ, Array.replicate_zero, List.push_toArray, List.append_toArray, List.nil_append, List.cons_append]
  gi_wp2
  rw [HW1.out]
  refine wpIn_rangeFunc_ownF (α := Fin zs.length) hro (by omega) (gf := 37) (lb := #[.pointer (some ⟨Bs, 0, none⟩)]) rfl (hFF _) (enters_of Tryd.func37 (by kernel_rfl) rfl)
    (vals_stops 4 (by omega) Bs cap a zs hz w.heap.size W1 (by rw [HS1.out]; omega) HC1.out hBl HA1.out) (fun h k => belowK_t h k) (fun W l o o' h1 h2 h3 h4 => belowK_b (w := W1) (by rw [HS1.out]; omega) W l o o' h1 h2 h3 h4) (Below.refl _ _) (fun _ => rfl)
    (ApInv w zs) (fun _ _ _ => False) ?own (fun _ _ _ _ _ h _ _ => h) ⟨⟨_, HBX.out, World.ownsRow_nil _ _ _ _⟩, HB1.out, by rw [HS1.out]; omega⟩ ?act ?assign ?body ?done (fun _ _ _ _ _ _ h _ => h.elim)
  case own =>
    rintro xs A B row ⟨⟨v, h2, h3⟩, h4, h5⟩ hg hr
    exact ⟨⟨v, blkA_kept h2 hg (fun r e => (hr r e).2), row_kept h3 hg (fun r e => (hr r e).2)⟩, below_kept h4 h4.size (by have := HS1.out; omega) hg (fun r e => (hr r e).1), Nat.le_trans h5 hg.size⟩
  case assign =>
    intro l x W K hK
    gi_wp2
    exact hK
  case body =>
    rintro l pre x W ⟨⟨v, h2, h3⟩, h4, h5⟩ hpl
    obtain ⟨ls, hls⟩ : ∃ ls, pre.map (fAt zs) = ls := ⟨_, rfl⟩
    have hll : ls.length = pre.length := by rw [← hls]; simp
    obtain ⟨z, hz'⟩ : ∃ z, fAt zs x = z := ⟨_, rfl⟩
    have HLS : Hid ((pre ++ [x]).map (fAt zs) = ls ++ [z]) := Lib.hid (by rw [List.map_append, hls, ← hz']; rfl)
    rw [hls] at h3
    rw [hz']
    have hll' : ls.length < 1048576 := by omega
    have hB2 := h2.lt
    have H2 := Lib.hid h2
    have H3 := Lib.hid h3
    have H4 := Lib.hid h4
    have c0 : W.cell? ⟨w.heap.size, 0, none⟩ = some v := h2.at 0
    clear h2 h3 h4 hls hll hz' hpl
    gi_wp2_with (gi_at_builtin; refine wpListIn_append_own _ rfl _ _ 22 rfl (w.heap.size + 1) 2 i0 (.int .i64 0) 1 8 Tryd.underlying22 hi hz0 hz1 hz2 rfl (by decide) _ _ _ rfl (H3.out.alloc _) ⟨W.heap.size, 0, none⟩ 1 1 [.int .i64 z] rfl rfl (cell_one_new _ _ _) (ints_oneCell .i64 [z]) ?c3 ?c4 ?c5 ?_)
    case c3 => unfold maxLen; omega
    case c4 => omega
    case c5 => first | omega | (simp; omega)
    intro v' V2 hown' hgrow _
    obtain ⟨gv, cv, rfl⟩ : ∃ gv cv, v' = .slice (some ⟨gv, 0, none⟩) (ls.length + 1) cv := by
      rcases hown'.2 with ⟨_, h0⟩ | ⟨gu, cu, cur, h1, _⟩
      · omega
      · exact ⟨gu, cu, h1⟩
    obtain ⟨v', hv'⟩ : ∃ v', Value.slice (some ⟨gv, 0, none⟩) (ls.length + 1) cv = v' := ⟨_, rfl⟩
    have HV' := Lib.hid hv'
    rw [hv'] at hown'
    have hbl2 : BlkA V2 w.heap.size 22 #[v] := (hgrow.block _ (by simp; omega) (fun e => by have := (H3.out.lt _ e.symm).1; omega)).trans (H2.out.alloc _)
    have hb2 : Below w.heap.size w V2 := (H4.out.alloc (by omega) _).grown hgrow (by simp; omega) (fun k e => by have := (H3.out.lt _ e).1; omega)
    have hko : KeepsOthers W V2 := KeepsOthers.trans (KeepsOthers.alloc W _) (KeepsOthers.of_grownBy hgrow (fun j o hj ho => by
      have h := (H3.out.alloc (.cells #[.int .i64 z] 2)).2
      rcases h with ⟨rfl, _⟩ | ⟨g, cap', cur, rfl, _, hg, _⟩
      · cases hj
      · simp [Value.ownBlock] at hj; subst hj; rw [hg] at ho; cases ho; rfl))
    have hkb : Below w.heap.size W V2 := ((Below.refl _ _).alloc (by omega) _).grown hgrow (by simp; omega) (fun k e => by have := (H3.out.lt _ e).1; omega)
    have hsz2 := hgrow.size
    have c0 : V2.cell? ⟨w.heap.size, 0, none⟩ = some v := hbl2.at 0
    have f0 : V2.frozen? ⟨w.heap.size, 0, none⟩ = false := hbl2.frozen 0
    have HFIN : Hid (ApInv w zs (pre ++ [x]) (V2.setCell ⟨w.heap.size, 0, none⟩ v')) := Lib.hid ⟨⟨v', by have := hbl2.set 0 v'; simpa using this, rowV_other (by rw [HLS.out, List.map_append, List.length_append]; exact hown') _ _ (by simp)⟩, hb2.setCell (by simp) _, by simp at hsz2 ⊢; omega⟩
    have HKO : Hid (KeepsOthers W (V2.setCell ⟨w.heap.size, 0, none⟩ v')) := Lib.hid (hko.trans (KeepsOthers.setCell _ _ _))
    have HKB : Hid (Below w.heap.size W (V2.setCell ⟨w.heap.size, 0, none⟩ v')) := Lib.hid (hkb.setCell (by simp) _)
    rw [← HV'.out] at HKO HFIN HKB
    clear hown' hgrow hbl2 hb2 hko hkb hv'
    gi_wp2
    exact ⟨HKO.out, HKB.out, HFIN.out⟩
  case done =>
    rintro D xs W hD hxs ⟨⟨v, h2, h3⟩, h4, h5⟩ hK
    have c0 : W.cell? ⟨w.heap.size, 0, none⟩ = some v := h2.at 0
    have HK := Lib.hid hK
    have HO := Lib.hid (row_kept h3 (grownBy_putObj' W D (.deferred none)) (fun r e => by cases e; exact ⟨_, hK, rfl⟩))
    have HL : Hid (xs.map (fAt zs) = zs) := Lib.hid (by
      have e : xs.map (fAt zs) = (List.range zs.length).map (fun i => zs.getD i 0) := by rw [← hxs, List.map_map]; rfl
      rw [e]
      refine List.ext_getElem (by simp) fun i h1 h2 => ?_
      simp [List.getD, show i < zs.length from h2])
    have HB := Lib.hid (h4.trans (belowK_b (w := w) (Nat.le_refl _) W D _ (.deferred none) (by have := HS1.out; omega) hK rfl rfl))
    clear h2 h3 h4 hK hxs
    gi_wp2
    refine ⟨by simp, .inl ⟨_, _, rfl, run_takeDeferred HK.out, ?_⟩⟩
    refine ⟨v, by simp [results, Tryd.results42, go_sem], v, rfl, ?_, HB.out⟩
    have h := HO.out
    rw [HL.out] at h
    exact (show OwnI (w.heap.size + 1) _ v zs from h).mono (Nat.le_succ _)
end Go.Proofs.YtocogipejchneaaDoor
