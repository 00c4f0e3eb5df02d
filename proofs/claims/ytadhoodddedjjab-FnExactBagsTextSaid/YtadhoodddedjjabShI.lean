/-
  The program's shifts: slices.Clone of bags, impl.shifted, impl.copied.
-/
import Derived.Test.YtadhoodddedjjabShO
import Derived.ArgAppend
import Derived.Deep.RegionLawGrows
import Derived.Deep.AppendLies
namespace Go.Proofs.Ytadhoodddedjjab
open Go Go.RowKit
set_option linter.unusedVariables false

theorem ReadsS.list {w : World} {b : Nat} {R : List (List Int)} (hc : ∀ j, j < R.length → ∃ u, w.cell? ⟨b, j, none⟩ = some u ∧ RowAt w u (R.getD j [])) :
    ∃ us : List Value, us.length = R.length ∧ (∀ j, j < R.length → w.cell? ⟨b, j, none⟩ = some (us.getD j nilS)) ∧ ∀ j, j < R.length → RowAt w (us.getD j nilS) (R.getD j []) := by
  obtain ⟨q, hq⟩ := Classical.axiomOfChoice (fun j : {j // j < R.length} => hc j.1 j.2)
  refine ⟨(List.range R.length).attach.map (fun j => q ⟨j.1, List.mem_range.1 j.2⟩), by simp, fun j hj => ?_, fun j hj => ?_⟩
  · have h := (hq ⟨j, hj⟩).1
    simpa [List.getD, hj] using h
  · have h := (hq ⟨j, hj⟩).2
    simpa [List.getD, hj] using h
theorem RowAt.one {w : World} {u : Value} {xs : List Int} (h : RowAt w u xs) : u.oneCell' = true := by
  rcases h with ⟨rfl, _⟩ | ⟨b, cap, rfl, _⟩ <;> rfl
theorem RowAt.is {w : World} {u : Value} {xs : List Int} (h : RowAt w u xs) : ∃ a c, u = .slice a xs.length c ∧ (a = none → xs.length = 0 ∧ c = 0) := by
  rcases h with ⟨rfl, rfl⟩ | ⟨b, cap, rfl, _⟩
  · exact ⟨none, 0, rfl, fun _ => ⟨rfl, rfl⟩⟩
  · exact ⟨_, cap, rfl, fun h => by cases h⟩

theorem grow_cell {w w' : World} (h : w.grownBy w' none) {p : Addr} {u : Value} (hc : w.cell? p = some u) : w'.cell? p = some u := by
  rw [World.cell?_of_block (w := w) (a := p) (h.block _ (World.block_lt_of_cell? w _ hc) (by simp))]; exact hc
theorem grow_frozen {w w' : World} (h : w.grownBy w' none) {p : Addr} {b : Bool} (hc : p.block < w.heap.size ∧ w.frozen? p = b) : w'.frozen? p = b := by
  rw [World.frozen?_of_block (w := w) (a := p) (h.block _ hc.1 (by simp))]; exact hc.2
theorem cell_alloc {w : World} {p : Addr} {u : Value} (hc : w.cell? p = some u) (o : Obj) : (w.alloc o).cell? p = some u := by
  rw [World.cell?_of_block (w := w) (a := p) (heap_alloc_old w o (World.block_lt_of_cell? w _ hc))]; exact hc
theorem frozen_alloc {w : World} {p : Addr} {b : Bool} (hp : p.block < w.heap.size) (hc : w.frozen? p = b) (o : Obj) : p.block < (w.alloc o).heap.size ∧ (w.alloc o).frozen? p = b := by
  refine ⟨by simp; omega, ?_⟩
  rw [World.frozen?_of_block (w := w) (a := p) (heap_alloc_old w o hp)]; exact hc

/-- Bags told by an outer row of the call's own, and the values of its cells. -/
def OwnO (lo : Nat) (w : World) (v : Value) (us : List Value) (R : List (List Int)) : Prop := w.ownsRow lo 52 1 v R.length us ∧ ∀ j, j < R.length → RowAt w (us.getD j nilS) (R.getD j [])
theorem OwnO.below {lo : Nat} {w w' : World} {v : Value} {us : List Value} {R : List (List Int)} (h : OwnO lo w v us R) (hb : Below w.heap.size w w') : OwnO lo w' v us R := ⟨row_below h.1 hb, fun j hj => (h.2 j hj).below hb⟩
theorem OwnO.solid {lo : Nat} {w : World} {v : Value} {us : List Value} {R : List (List Int)} (h : OwnO lo w v us R) (h0 : R ≠ []) : ReadsS w v R := by
  have hus : us.length = R.length := by simpa using h.1.1
  rcases h.1.2 with ⟨rfl, hz⟩ | ⟨g, cap, cur, rfl, hb, hg, hn, hm, _, _⟩
  · exact absurd (List.eq_nil_of_length_eq_zero hz) h0
  · refine ⟨g, cap, rfl, hn, hm, (Array.getElem?_eq_some_iff.1 hg).1, fun j hj => ⟨us.getD j nilS, ?_, h.2 j hj⟩⟩
    rw [World.ownsRow.cellAt h.1 j (by omega)]
    simp [List.getD, show j < us.length by omega]

set_option maxHeartbeats 2000000 in
set_option maxRecDepth 100000 in
theorem cloneO_any (v : Value) (R : List (List Int)) (w : World) (hv : ReadsS w v R) (h4 : R.length ≤ 4) :
    Calls Try.prog 61 #[v] w fun e w' => ∃ v' us, e = .returned v' ∧ OwnO w.heap.size w' v' us R ∧ (∀ j, j < R.length → RowAt w (us.getD j nilS) (R.getD j [])) ∧ Below w.heap.size w w' := by
  obtain ⟨i0, hi, hz0, hz1, hz2⟩ := info_parts info_rows
  obtain ⟨b, cap, rfl, g1, g2, g3, hc⟩ := hv
  obtain ⟨us, hus, hcell, hrow⟩ := ReadsS.list hc
  have HO : Hid ((w.alloc (.cells #[] 52)).ownsRow w.heap.size 52 1 (.slice (some ⟨w.heap.size, 0, none⟩) 0 0) 0 []) := Lib.hid (World.ownsRow_made w #[] 0 (Nat.le_refl _) (Nat.zero_le _) rfl)
  have HB : Hid (Below w.heap.size w (w.alloc (.cells #[] 52))) := Lib.hid ((Below.refl _ _).alloc (Nat.le_refl _) _)
  have hnews : ∀ j u, us[j]? = some u → (w.alloc (.cells #[] 52)).cell? ((⟨b, 0, none⟩ : Addr).add j) = some u := by
    intro j u hj
    have hjl : j < us.length := (List.getElem?_eq_some_iff.1 hj).1
    rw [addr_add, Nat.zero_add]
    have h1 := hcell j (by omega)
    rw [HB.out.cell (p := ⟨b, j, none⟩) g3, h1]
    simp [List.getD, hj]
  have hone : ∀ u ∈ us, u.oneCell' = true := by
    intro u hu
    obtain ⟨j, hj, rfl⟩ := List.getElem_of_mem hu
    have := (hrow j (by omega)).one
    simpa [List.getD, hj] using this
  have HN := Lib.hid hnews
  have HONE := Lib.hid hone
  have HROW := Lib.hid hrow
  have HUS := Lib.hid hus
  have hq := fun (wx : World) => Lib.run_eql_slice_nil (P := Try.prog) wx 22 52 (some ⟨b, 0, none⟩) R.length cap 0 0 Try.underlying22
  obtain ⟨n, hn⟩ : ∃ n, R.length = n := ⟨_, rfl⟩
  have HNN := Lib.hid hn
  rw [hn] at h4 g1 hq HUS ⊢
  clear hnews hone hrow hus hcell hc hn
  go_enter Try.func61, Try.ntmps61
  go_wp2_with (at_builtin; refine wpList_append_own _ rfl _ _ 22 rfl w.heap.size 52 i0 (.slice none 0 0) 1 24 Try.underlying22 hi hz0 hz1 hz2 rfl (by decide) _ _ _ rfl HO.out ⟨b, 0, none⟩ n cap us rfl (by rw [HUS.out]; omega) HN.out HONE.out (by unfold maxLen; omega) (by omega) (by simp) ?_)
  intro v' w3 hown' hgrow _
  have HB' : Hid (Below w.heap.size w w3) := Lib.hid (HB.out.grown hgrow (by simp) (fun j hj => by simp [Value.ownBlock] at hj; omega))
  have HO' : Hid (OwnO w.heap.size w3 v' us R) := Lib.hid ⟨by rw [HNN.out]; simpa using hown', fun j hj => (HROW.out j hj).below HB'.out⟩
  clear hown' hgrow
  go_wp2
  go_ret
  exact ⟨_, us, rfl, HO'.out, fun j hj => HROW.out j (by rw [HNN.out]; exact hj), HB'.out⟩

theorem RowAt.far {w w' : World} {B : Nat} {u : Value} {xs : List Int} (h : RowAt w u xs) (hb : Below w.heap.size w w') : RowAt w' u xs := h.below hb
theorem shift_done {R : List (List Int)} {f t n g gc g5 c5 bf lx ly : Nat} {x : Int} {w1 w3 w5 : World} {us2 : List Value} {xs ys : List Int} {o : Obj}
    (hn : R.length = n) (hf : f < n) (ht : t < n) (hft : f ≠ t) (hxs : R.getD f [] = xs) (hys : R.getD t [] = ys) (hlx : xs.length = lx) (hly : ys.length = ly) (hlx6 : lx ≤ 6) (h0 : lx ≠ 0) (hxv : xs.getD (lx - 1) 0 = x)
    (hrows : ∀ j, j < R.length → RowAt w1 (us2.getD j nilS) (R.getD j [])) (hbf : bf < w1.heap.size) (hcf : Cells w1 bf xs)
    (hO3 : w3.ownsRow w1.heap.size 52 1 (.slice (some ⟨g, 0, none⟩) n gc) n (us2.set f (.slice (some ⟨bf, 0, none⟩) (lx - 1) (lx - 1))))
    (hB3 : Below w1.heap.size w1 w3) (hgrow : (w3.alloc o).drew.grownBy w5 none)
    (hown : w5.ownsRow (w3.heap.size + 1) 2 1 (.slice (some ⟨g5, 0, none⟩) (ly + 1) c5) (ly + 1) ((ys ++ [x]).map (Value.int .i64))) :
    ReadsS (w5.setCell ⟨g, t, none⟩ (.slice (some ⟨g5, 0, none⟩) (ly + 1) c5)) (.slice (some ⟨g, 0, none⟩) n gc) (shM R f t) ∧ Below w1.heap.size w1 (w5.setCell ⟨g, t, none⟩ (.slice (some ⟨g5, 0, none⟩) (ly + 1) c5)) := by
  have hg1 := (hO3.lt g rfl).1
  have hg2 := (hO3.lt g rfl).2
  have h5 := (hown.lt g5 rfl)
  have hus : us2.length = n := by have h := hO3.1; rw [List.length_set] at h; omega
  have b35 : Below w3.heap.size w3 w5 := (((Below.refl _ _).alloc (Nat.le_refl _) _).drew).grown hgrow (by simp [World.drew]) (fun k hk => by simp at hk)
  have o5 := row_below hO3 b35
  have o6 := (o5.stored t (.slice (some ⟨g5, 0, none⟩) (ly + 1) c5)).1
  have bb : Below w1.heap.size w1 (w5.setCell ⟨g, t, none⟩ (.slice (some ⟨g5, 0, none⟩) (ly + 1) c5)) := (hB3.trans (b35.mono hB3.size)).setCell hg1 _
  have hcells : ∀ j, j < n → (w5.setCell ⟨g, t, none⟩ (.slice (some ⟨g5, 0, none⟩) (ly + 1) c5)).cell? ⟨g, j, none⟩ = some (((us2.set f (.slice (some ⟨bf, 0, none⟩) (lx - 1) (lx - 1))).set t (.slice (some ⟨g5, 0, none⟩) (ly + 1) c5)).getD j nilS) := fun j hj => by
    rw [o6.cellAt j (by omega)]
    simp [List.getD, show j < us2.length by omega]
  refine ⟨?_, bb⟩
  rcases o6.2 with ⟨e, _⟩ | ⟨g', cap', cur, e, _, hh, k1, k2, _⟩
  · simp at e
  · simp only [Value.slice.injEq, Option.some.injEq, Addr.mk.injEq, and_true, true_and] at e
    obtain ⟨rfl, rfl⟩ := e
    refine ⟨g, gc, by rw [shM_len, hn], by rw [shM_len, hn]; exact k1, k2, (Array.getElem?_eq_some_iff.1 hh).1, fun j hj => ?_⟩
    rw [shM_len, hn] at hj
    refine ⟨_, hcells j hj, ?_⟩
    rw [shM_get R f t j (by omega) (by omega) hft (by omega), hxs, hys, hlx, hxv]
    by_cases e1 : j = f
    · subst e1
      rw [if_pos rfl]
      have e2 : ((us2.set j (.slice (some ⟨bf, 0, none⟩) (lx - 1) (lx - 1))).set t (.slice (some ⟨g5, 0, none⟩) (ly + 1) c5)).getD j nilS = .slice (some ⟨bf, 0, none⟩) (lx - 1) (lx - 1) := by
        rw [List.getD, List.getElem?_set_ne (Ne.symm hft)]; simp [show j < us2.length by omega]
      rw [e2]
      have hl : (List.take (lx - 1) xs).length = lx - 1 := by rw [List.length_take]; omega
      refine .inr ⟨bf, lx - 1, by rw [hl], by rw [hl]; exact Nat.le_refl _, by unfold maxLen; omega, Nat.lt_of_lt_of_le hbf bb.size, fun i hi => ?_⟩
      rw [hl] at hi
      rw [hcf.below bb i (by omega)]
      simp [List.getD, hi]
    · rw [if_neg e1]
      by_cases e2 : j = t
      · subst e2
        rw [if_pos rfl]
        have e3 : ((us2.set f (.slice (some ⟨bf, 0, none⟩) (lx - 1) (lx - 1))).set j (.slice (some ⟨g5, 0, none⟩) (ly + 1) c5)).getD j nilS = .slice (some ⟨g5, 0, none⟩) (ly + 1) c5 := by
          simp [List.getD, show j < us2.length by omega]
        rw [e3]
        have hs : OwnI (w3.heap.size + 1) w5 (.slice (some ⟨g5, 0, none⟩) (ly + 1) c5) (ys ++ [x]) := by
          unfold OwnI
          rw [List.length_append, List.length_singleton, hly]
          exact hown
        have hs2 := hs.solid
        rcases hs2 with ⟨e4, _⟩ | ⟨b', cap', e4, q1, q2, q3, q4⟩
        · simp at e4
        · have e6 := e4
          simp only [Value.slice.injEq, Option.some.injEq, Addr.mk.injEq, and_true] at e6
          obtain ⟨rfl, _, rfl⟩ := e6
          refine .inr ⟨g5, c5, e4, q1, q2, by simpa [World.setCell] using q3, fun i hi => ?_⟩
          rw [World.cell?_of_block (w := w5) (a := ⟨g5, i, none⟩) (heap_setCell_other w5 ⟨g, j, none⟩ g5 _ (by simp only; omega))]
          exact q4 i hi
      · rw [if_neg e2]
        have e3 : ((us2.set f (.slice (some ⟨bf, 0, none⟩) (lx - 1) (lx - 1))).set t (.slice (some ⟨g5, 0, none⟩) (ly + 1) c5)).getD j nilS = us2.getD j nilS := by
          rw [List.getD, List.getElem?_set_ne (Ne.symm e2), List.getElem?_set_ne (Ne.symm e1)]; rfl
        rw [e3]
        exact (hrows j (by omega)).below bb

set_option maxHeartbeats 4000000 in
set_option maxRecDepth 100000 in
theorem shifted_any (v : Value) (R : List (List Int)) (f t : Nat) (w : World) (hv : ReadsS w v R) (h4 : R.length ≤ 4) (h6 : ∀ j, j < R.length → (R.getD j []).length ≤ 6) (hf : f < R.length) (ht : t < R.length) (hft : f ≠ t) (h0 : (R.getD f []).length ≠ 0) :
    Calls Try.prog 47 #[v, .agg #[.int .i8 f, .int .i8 t]] w fun e w' => ∃ v', e = .returned v' ∧ ReadsS w' v' (shM R f t) ∧ Below w.heap.size w w' := by
  obtain ⟨i0, hi, hz0, hz1, hz2⟩ := info_parts info_i64
  obtain ⟨b, cap, rfl, g1, g2, g3, hc⟩ := id hv
  obtain ⟨us, hus, hcell, hrow⟩ := ReadsS.list hc
  have HV := Lib.hid hv
  have cf := hcell f hf
  have ct := hcell t ht
  have rf := hrow f hf
  have rt := hrow t ht
  have f6 := h6 f hf
  have t6 := h6 t ht
  obtain ⟨uf, huf⟩ : ∃ u, us.getD f nilS = u := ⟨_, rfl⟩
  obtain ⟨ut, hut⟩ : ∃ u, us.getD t nilS = u := ⟨_, rfl⟩
  rw [huf] at cf rf
  rw [hut] at ct rt
  obtain ⟨xs, hxs⟩ : ∃ xs, R.getD f [] = xs := ⟨_, rfl⟩
  obtain ⟨ys, hys⟩ : ∃ ys, R.getD t [] = ys := ⟨_, rfl⟩
  rw [hxs] at rf h0 f6
  rw [hys] at rt t6
  have HXS := Lib.hid hxs
  have HYS := Lib.hid hys
  rcases rf with ⟨_, e⟩ | ⟨bf, cpf, rfl, k1, k2, k3, k4⟩
  · rw [e] at h0; simp at h0
  obtain ⟨ta, tc, htv, htn⟩ := rt.is
  subst htv
  have HRT := Lib.hid rt
  have HKF := Lib.hid k4
  have HTN := Lib.hid htn
  have HFT := Lib.hid hft
  obtain ⟨n, hn⟩ : ∃ n, R.length = n := ⟨_, rfl⟩
  have HN := Lib.hid hn
  have HF6 := Lib.hid h6
  rw [hn] at hf ht h4 HV ⊢
  have hfn : (f : Int) < (n : Int) := by omega
  have htnn : (t : Int) < (n : Int) := by omega
  have hf4 : (f : Int) ≤ 4 := by omega
  have ht4 : (t : Int) ≤ 4 := by omega
  obtain ⟨lx, hlx⟩ : ∃ l, xs.length = l := ⟨_, rfl⟩
  obtain ⟨ly, hly⟩ : ∃ l, ys.length = l := ⟨_, rfl⟩
  have HLX := Lib.hid hlx
  have HLY := Lib.hid hly
  rw [hlx] at k1 cf h0 f6
  rw [hly] at ct t6 HTN
  clear hv hc hus hcell hrow huf hut hxs hys rt htn hn h6 g1 hft hlx hly k4
  go_enter Try.func47, Try.ntmps47
  go_wp2_with fail
  go_quiet (fail)
  go_wp2_with fail
  have HB0 : Hid (Below w.heap.size w ((w.alloc (.cells #[.int .i8 f, .int .i8 t] 34)).drewN nq)) := Lib.hid (below_drewN ((Below.refl _ _).alloc (Nat.le_refl _) _) _)
  have HBX : Hid (Blk2 ((w.alloc (.cells #[.int .i8 f, .int .i8 t] 34)).drewN nq) w.heap.size 34 (.int .i8 f) (.int .i8 t)) := Lib.hid (Blk2.drewN (Blk2.new rfl _ _ _) nq)
  generalize (w.alloc (.cells #[.int .i8 f, .int .i8 t] 34)).drewN nq = w1 at HB0 HBX ⊢
  refine (cloneO_any _ R _ (HV.out.below HB0.out) (by have := HN.out; omega)).mono ?_
  rintro e w2 ⟨v2, us2, rfl, o2, hr2, b2⟩
  have HR2 := Lib.hid hr2
  have HBB2 := Lib.hid b2
  have HB2 : Hid (Below w.heap.size w w2) := Lib.hid (blink HB0.out b2)
  have HBX2 := Lib.hid (HBX.out.below b2)
  have hw1 : w.heap.size < w1.heap.size := HBX.out.lt
  have hw2 : w1.heap.size ≤ w2.heap.size := b2.size
  have HO2 := Lib.hid o2
  have hus2 : us2.length = n := by have h := o2.1.1; rw [HN.out] at h; omega
  have HUS2 := Lib.hid hus2
  obtain ⟨g, gc, hv2⟩ : ∃ g gc, v2 = .slice (some ⟨g, 0, none⟩) n gc := by
    rcases o2.1.2 with ⟨_, hz⟩ | ⟨g, cap, cur, e, _⟩
    · have := HN.out; omega
    · rw [HN.out] at e; exact ⟨g, cap, e⟩
  subst hv2
  have hgb := (o2.1.lt g rfl).1
  have hg2 := (o2.1.lt g rfl).2
  have o3 : w2.ownsRow w1.heap.size 52 1 (.slice (some ⟨g, 0, none⟩) n gc) n us2 := by have h := o2.1; rw [HN.out] at h; exact h
  have HO3 := Lib.hid o3
  have xb0 := HBX2.out.at0
  have xb1 := HBX2.out.at1
  have q0 := o3.cellAt f (by omega)
  have q1 := o3.frozenAt f
  have q2 := o3.cellAt t (by omega)
  have q3 := o3.frozenAt t
  have huf2 : us2[f]? = some (us2.getD f nilS) := by simp [List.getD, show f < us2.length by omega]
  have hut2 : us2[t]? = some (us2.getD t nilS) := by simp [List.getD, show t < us2.length by omega]
  rw [huf2] at q0
  rw [hut2] at q2
  obtain ⟨uf2, huf3⟩ : ∃ u, us2.getD f nilS = u := ⟨_, rfl⟩
  obtain ⟨ut2, hut3⟩ : ∃ u, us2.getD t nilS = u := ⟨_, rfl⟩
  rw [huf3] at q0
  rw [hut3] at q2
  have hgne : w.heap.size ≠ g := by omega
  have hl1 : 0 ≤ (lx : Int) - 1 := by omega
  have hl2 : (lx : Int) - 1 ≤ (cpf : Int) := by omega
  have hl3 : (lx : Int) - 1 < (lx : Int) := by omega
  have hlt1 : ((lx : Int) - 1).toNat = lx - 1 := by omega
  clear huf2 hut2 huf3 hut3 hus2 o2 o3 b2 hr2
  go_wp2_with fail
  go_region
  have HS3 : Hid (((w2.setCell ⟨g, f, none⟩ (.slice (some ⟨bf, 0, none⟩) (lx - 1) (lx - 1))).drew).heap.size = w2.heap.size) := Lib.hid (by simp [World.setCell])
  have hs3 := HS3.out
  have HO3' : Hid (((w2.setCell ⟨g, f, none⟩ (.slice (some ⟨bf, 0, none⟩) (lx - 1) (lx - 1))).drew).ownsRow w1.heap.size 52 1 (.slice (some ⟨g, 0, none⟩) n gc) n (us2.set f (.slice (some ⟨bf, 0, none⟩) (lx - 1) (lx - 1)))) := Lib.hid (HO3.out.stored f (.slice (some ⟨bf, 0, none⟩) (lx - 1) (lx - 1))).1
  have HBB3 : Hid (Below w1.heap.size w1 ((w2.setCell ⟨g, f, none⟩ (.slice (some ⟨bf, 0, none⟩) (lx - 1) (lx - 1))).drew)) := Lib.hid (HBB2.out.setCell (by simp only; omega) _).drew
  have HB3 : Hid (Below w.heap.size w ((w2.setCell ⟨g, f, none⟩ (.slice (some ⟨bf, 0, none⟩) (lx - 1) (lx - 1))).drew)) := Lib.hid (HB2.out.setCell (by simp; omega) _).drew
  have HBX3 : Hid (Blk2 ((w2.setCell ⟨g, f, none⟩ (.slice (some ⟨bf, 0, none⟩) (lx - 1) (lx - 1))).drew) w.heap.size 34 (.int .i8 f) (.int .i8 t)) := Lib.hid (HBX2.out.other ⟨g, f, none⟩ (.slice (some ⟨bf, 0, none⟩) (lx - 1) (lx - 1)) hgne)
  generalize ((w2.setCell ⟨g, f, none⟩ (.slice (some ⟨bf, 0, none⟩) (lx - 1) (lx - 1))).drew) = w3 at HS3 hs3 HO3' HB3 HBX3 HBB3 ⊢
  clear xb0 xb1 q0 q1 q2 q3
  have xb0 := HBX3.out.at0
  have xb1 := HBX3.out.at1
  have q2 := HO3'.out.cellAt t (by omega)
  have q3 := HO3'.out.frozenAt t
  have hut4 : (us2.set f (.slice (some ⟨bf, 0, none⟩) (lx - 1) (lx - 1)))[t]? = some (us2.getD t nilS) := by
    rw [List.getElem?_set_ne HFT.out]
    simp [List.getD, show t < us2.length by have := HUS2.out; omega]
  rw [hut4] at q2
  obtain ⟨ut2, hut3⟩ : ∃ u, us2.getD t nilS = u := ⟨_, rfl⟩
  rw [hut3] at q2
  have q5 := HKF.out.below HB3.out (lx - 1) (by have := HLX.out; omega)
  obtain ⟨x, hxv⟩ : ∃ x, xs.getD (lx - 1) 0 = x := ⟨_, rfl⟩
  rw [hxv] at q5
  have HXV := Lib.hid hxv
  have hgw : g < w3.heap.size := by omega
  clear hut4 hut3 hxv
  rcases HRT.out with ⟨e, e2⟩ | ⟨bt, ct2, e, p1, p2, p3, p4⟩
  · simp only [Value.slice.injEq] at e
    obtain ⟨rfl, e3, rfl⟩ := e
    have hly0 : ly = 0 := by have := HLY.out; omega
    subst hly0
    have HYE := Lib.hid e2
    clear e2 e3
    have hy1 : 1 ≤ (lx : Int) := by omega
    have hy2 : 0 < lx := by omega
    have hy3 : decide (0 < lx) = true := decide_eq_true hy2
    have hy4 : 1 ≤ lx := by omega
    have xl1 : w.heap.size < w3.heap.size := by omega
    have xl2 : w.heap.size ≠ w3.heap.size := by omega
    have ya : (w3.alloc (.cells #[.int .i64 x] 2)).cell? ⟨w.heap.size, 1, none⟩ = some (.int .i8 t) := cell_alloc xb1 _
    have yb : (w3.alloc (.cells #[.int .i64 x] 2)).cell? ⟨g, t, none⟩ = some ut2 := cell_alloc q2 _
    go_wp2_with fail
    go_region_law (refine step_append_grows rfl (.tmp 40) (.tmp 45) 52 rfl 2 i0 (.int .i64 0) 1 8 Try.underlying52 hi hz0 hz1 hz2 rfl (by decide) none 0 0 [] (by simp [Act.eval]) (fun _ => ⟨rfl, rfl⟩) (by simp) (fun b e => by cases e) ⟨w3.heap.size, 0, none⟩ 1 1 [.int .i64 x] (by simp [Act.eval]) rfl (cell_one_new w3 _ _) (ints_oneCell .i64 [x]) (by omega) (by unfold maxLen; omega) (by omega) ?_; intro v5 w5 hown hgrow; obtain ⟨g5, c5, rfl, hb5, hlt5⟩ := hown.form (by omega); have z0 : w5.cell? ⟨w.heap.size, 1, none⟩ = some (.int .i8 t) := grow_cell (w := (w3.alloc (.cells #[.int .i64 x] 2)).drew) hgrow (cell_alloc xb1 _); have z1 : w5.cell? ⟨g, t, none⟩ = some ut2 := grow_cell (w := (w3.alloc (.cells #[.int .i64 x] 2)).drew) hgrow (cell_alloc q2 _); have z2 : w5.frozen? ⟨g, t, none⟩ = false := grow_frozen (w := (w3.alloc (.cells #[.int .i64 x] 2)).drew) hgrow (frozen_alloc hgw q3 _); have H5 := Lib.hid hown; have H6 := Lib.hid hgrow; clear hown hgrow)
    all_goals
      go_wp2_with fail
      go_ret
      have D := shift_done (o := .cells #[.int .i64 x] 2) HN.out hf ht HFT.out HXS.out HYS.out HLX.out HLY.out f6 h0 HXV.out HR2.out (Nat.lt_of_lt_of_le k3 HB0.out.size) (HKF.out.below HB0.out) HO3'.out HBB3.out H6.out (by rw [HYE.out]; simpa using H5.out)
      exact ⟨_, rfl, D.1, HB0.out.trans (D.2.mono HB0.out.size)⟩
  · simp only [Value.slice.injEq] at e
    obtain ⟨rfl, e3, rfl⟩ := e
    have HCT := Lib.hid p4
    have hlyc : ly ≤ tc := by have := HLY.out; omega
    clear e3 p4 p1
    have HOLD : Hid (∀ b : Addr, (some ⟨bt, 0, none⟩ : Option Addr) = some b → ∀ j u, (ys.map (Value.int .i64))[j]? = some u → (w3.alloc (.cells #[.int .i64 x] 2)).cell? (b.add j) = some u) := Lib.hid (fun b e j u hj => by
      obtain rfl : (⟨bt, 0, none⟩ : Addr) = b := by simpa using e
      have hjl : j < ys.length := by
        have := (List.getElem?_eq_some_iff.1 hj).1
        simpa using this
      rw [addr_add, Nat.zero_add]
      rw [((HCT.out.below HB3.out).below ((Below.refl _ _).alloc (Nat.le_refl _) _)) j hjl]
      simp [hjl] at hj
      simp [List.getD, hjl, hj])
    have hy1 : 1 ≤ (lx : Int) := by omega
    have hy2 : 0 < lx := by omega
    have hy3 : decide (0 < lx) = true := decide_eq_true hy2
    have hy4 : 1 ≤ lx := by omega
    have xl1 : w.heap.size < w3.heap.size := by omega
    have xl2 : w.heap.size ≠ w3.heap.size := by omega
    have ya : (w3.alloc (.cells #[.int .i64 x] 2)).cell? ⟨w.heap.size, 1, none⟩ = some (.int .i8 t) := cell_alloc xb1 _
    have yb : (w3.alloc (.cells #[.int .i64 x] 2)).cell? ⟨g, t, none⟩ = some ut2 := cell_alloc q2 _
    go_wp2_with fail
    go_region_law (refine step_append_grows rfl (.tmp 40) (.tmp 45) 52 rfl 2 i0 (.int .i64 0) 1 8 Try.underlying52 hi hz0 hz1 hz2 rfl (by decide) (some ⟨bt, 0, none⟩) ly ly (ys.map (Value.int .i64)) (by simp [Act.eval]) (fun e => by cases e) (by simp [HLY.out]) (fun b e j u hj => HOLD.out b e j u hj) ⟨w3.heap.size, 0, none⟩ 1 1 [.int .i64 x] (by simp [Act.eval]) rfl (cell_one_new w3 _ _) (ints_oneCell .i64 [x]) (by omega) (by unfold maxLen; omega) (by omega) ?_; intro v5 w5 hown hgrow; obtain ⟨g5, c5, rfl, hb5, hlt5⟩ := hown.form (by omega); have z0 : w5.cell? ⟨w.heap.size, 1, none⟩ = some (.int .i8 t) := grow_cell (w := (w3.alloc (.cells #[.int .i64 x] 2)).drew) hgrow (cell_alloc xb1 _); have z1 : w5.cell? ⟨g, t, none⟩ = some ut2 := grow_cell (w := (w3.alloc (.cells #[.int .i64 x] 2)).drew) hgrow (cell_alloc q2 _); have z2 : w5.frozen? ⟨g, t, none⟩ = false := grow_frozen (w := (w3.alloc (.cells #[.int .i64 x] 2)).drew) hgrow (frozen_alloc hgw q3 _); have H5 := Lib.hid hown; have H6 := Lib.hid hgrow; clear hown hgrow)
    all_goals
      go_wp2_with fail
      go_ret
      have D := shift_done (o := .cells #[.int .i64 x] 2) HN.out hf ht HFT.out HXS.out HYS.out HLX.out HLY.out f6 h0 HXV.out HR2.out (Nat.lt_of_lt_of_le k3 HB0.out.size) (HKF.out.below HB0.out) HO3'.out HBB3.out H6.out (by simpa using H5.out)
      exact ⟨_, rfl, D.1, HB0.out.trans (D.2.mono HB0.out.size)⟩
end Go.Proofs.Ytadhoodddedjjab
