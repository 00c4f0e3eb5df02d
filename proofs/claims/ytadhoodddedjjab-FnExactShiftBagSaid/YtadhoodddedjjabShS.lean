/-
  The model's shift: spec.l04Shift.
-/
import Derived.Test.YtadhoodddedjjabShK
import Derived.Test.YtadhoodddedjjabBgS
import Derived.Deep.RegionHeldLaw
import Derived.Deep.AppendLies
import Derived.BigRegion
namespace Go.Proofs.Ytadhoodddedjjab
open Go Go.RowKit
set_option linter.unusedVariables false

theorem ownMX_made (lo hi : Nat) (w : World) (hl : lo ≤ w.heap.size) (hh : w.heap.size < hi) : OwnMX lo hi (w.alloc (.cells #[] 52)) (.slice (some ⟨w.heap.size, 0, none⟩) 0 0) [] :=
  ⟨[], World.ownsRow_made w #[] 0 hl (Nat.zero_le _) rfl, fun j hj => absurd hj (by simp), fun p hp => by simp [Value.ownBlock] at hp; omega, fun j hj => absurd hj (by simp)⟩
theorem own_take {lo b n c m : Nat} {w : World} {xs : List Int} (h : OwnI lo w (.slice (some ⟨b, 0, none⟩) n c) xs) (hl : xs.length = n) (hm : m ≤ n) : OwnI lo w (.slice (some ⟨b, 0, none⟩) m c) (xs.take m) := by
  have hlt : (xs.take m).length = m := by rw [List.length_take]; omega
  refine ⟨by rw [List.length_map, Nat.mul_one], ?_⟩
  rcases h.2 with ⟨e, _⟩ | ⟨g, cap, cur, e, hB, hg, k1, k2, k3, k4⟩
  · simp at e
  · simp only [Value.slice.injEq, Option.some.injEq, Addr.mk.injEq, and_true] at e
    obtain ⟨rfl, _, rfl⟩ := e
    refine .inr ⟨b, c, cur, by rw [hlt], hB, hg, by rw [hlt]; omega, k2, k3, ?_⟩
    rw [hlt, Nat.mul_one, List.map_take, ← k4, hl, List.take_take]
    congr 1; omega

theorem set_far {w : World} {b b' o o' : Nat} {u x : Value} (h : ¬ b = b') (hc : w.cell? ⟨b', o', none⟩ = some x) : (w.setCell ⟨b, o, none⟩ u).cell? ⟨b', o', none⟩ = some x := by
  rw [World.cell?_of_block (w := w) (a := ⟨b', o', none⟩) (heap_setCell_other w ⟨b, o, none⟩ b' u (fun e => h e.symm))]; exact hc
theorem set_off {w : World} {b o o' : Nat} {u x : Value} (h : ¬ o = o') (hc : w.cell? ⟨b, o', none⟩ = some x) : (w.setCell ⟨b, o, none⟩ u).cell? ⟨b, o', none⟩ = some x := by
  rw [World.cell?_setCell_other w ⟨b, o, none⟩ ⟨b, o', none⟩ u (fun e => by simp only [Addr.mk.injEq, true_and, and_true] at e; exact h e)]; exact hc
theorem own_of {lo n : Nat} {w : World} {u : Value} {ys : List Int} (h : OwnI lo w u ys) (hl : ys.length = n) : w.ownsRow lo 2 1 u n (ys.map (Value.int .i64)) := by subst hl; exact h
abbrev OpBox (o : Oper) : Oper := o
theorem box_op {P : Program} {id : Nat} {o0 o1 o2 o3 o4 o5 o6 o7 : Oper} {rest : List Oper} {Q : Exit → Act → World → Prop} {a : Act} {w : World}
    (h : (Code.region id (List.toArray (o0 :: o1 :: o2 :: o3 :: o4 :: o5 :: o6 :: OpBox o7 :: rest)) true).wp P Q a w) : (Code.region id (List.toArray (o0 :: o1 :: o2 :: o3 :: o4 :: o5 :: o6 :: o7 :: rest)) true).wp P Q a w := h
theorem sshift_done {R : List (List Int)} {f t n g gc gg cap bf cf lx ly lo : Nat} {x : Int} {w2 w1 : World} {us : List Value} {xs ys : List Int} {o : Obj} {ut : Value}
    (hn : R.length = n) (hf : f < n) (ht : t < n) (hft : f ≠ t) (hxs : R.getD f [] = xs) (hys : R.getD t [] = ys) (hlx : xs.length = lx) (hly : ys.length = ly) (h0 : lx ≠ 0) (hxv : xs.getD (lx - 1) 0 = x)
    (huf : us.getD f nilS = .slice (some ⟨bf, 0, none⟩) lx cf) (hut : us.getD t nilS = ut)
    (hO2 : w2.ownsRow lo 52 1 (.slice (some ⟨g, 0, none⟩) n gc) n us) (hrows : ∀ j, j < n → OwnI lo w2 (us.getD j nilS) (R.getD j []))
    (hdist : ∀ i j, i < j → j < n → ∀ p q, (us.getD i nilS).ownBlock = some p → (us.getD j nilS).ownBlock = some q → p ≠ q)
    (hgrow : (w2.alloc o).drew.grownBy w1 ut.ownBlock)
    (hown : w1.ownsRow lo 2 1 (.slice (some ⟨gg, 0, none⟩) (ly + 1) cap) (ly + 1) ((ys ++ [x]).map (Value.int .i64))) :
    w1.ownsRow lo 52 1 (.slice (some ⟨g, 0, none⟩) n gc) n us ∧ OwnMX lo (w1.setCell ⟨g, t, none⟩ (.slice (some ⟨gg, 0, none⟩) (ly + 1) cap)).heap.size
      (((w1.setCell ⟨g, t, none⟩ (.slice (some ⟨gg, 0, none⟩) (ly + 1) cap)).setCell ⟨g, f, none⟩ (.slice (some ⟨bf, 0, none⟩) (lx - 1) cf)).drew) (.slice (some ⟨g, 0, none⟩) n gc) (shM R f t) := by
  have hus : us.length = n := by have h := hO2.1; omega
  have hba : Below w2.heap.size w2 (w2.alloc o).drew := ((Below.refl _ _).alloc (Nat.le_refl _) _).drew
  have o3 := row_below hO2 hba
  have rt := hrows t ht
  rw [hut] at rt
  have rt3 := rt.below hba
  have hgne : ∀ p, ut.ownBlock = some p → p ≠ g := fun p hp e => row_ne_outer o3 rt3 p (by rw [e]; rfl) hp
  have o4 : w1.ownsRow lo 52 1 (.slice (some ⟨g, 0, none⟩) n gc) n us := World.ownsRow.kept o3 hgrow (by
    cases e : ut.ownBlock with
    | none => exact .inr (by simp [Value.ownBlock])
    | some p => exact .inr (fun e2 => hgne p e (by simpa [Value.ownBlock] using e2.symm)))
  refine ⟨o4, ?_⟩
  have o5 := o4.stored t (.slice (some ⟨gg, 0, none⟩) (ly + 1) cap)
  have o6 := o5.1.stored f (.slice (some ⟨bf, 0, none⟩) (lx - 1) cf)
  -- a row apart from row t and from the outer one
  have keep : ∀ (u : Value) (zs : List Int), OwnI lo w1 u zs → OwnI lo (((w1.setCell ⟨g, t, none⟩ (.slice (some ⟨gg, 0, none⟩) (ly + 1) cap)).setCell ⟨g, f, none⟩ (.slice (some ⟨bf, 0, none⟩) (lx - 1) cf)).drew) u zs := fun u zs h => by
    have h1 : OwnI lo (w1.setCell ⟨g, t, none⟩ (.slice (some ⟨gg, 0, none⟩) (ly + 1) cap)) u zs := h.kept o5.2 (by
      cases e : u.ownBlock with
      | none => exact .inl rfl
      | some p => exact .inr (fun e2 => row_ne_outer o4 h p (by simpa [Value.ownBlock] using e2.symm) e))
    have h2 : OwnI lo ((w1.setCell ⟨g, t, none⟩ (.slice (some ⟨gg, 0, none⟩) (ly + 1) cap)).setCell ⟨g, f, none⟩ (.slice (some ⟨bf, 0, none⟩) (lx - 1) cf)) u zs := h1.kept o6.2 (by
      cases e : u.ownBlock with
      | none => exact .inl rfl
      | some p => exact .inr (fun e2 => row_ne_outer o5.1 h1 p (by simpa [Value.ownBlock] using e2.symm) e))
    exact h2
  have old : ∀ j, j < n → j ≠ t → OwnI lo w1 (us.getD j nilS) (R.getD j []) := fun j hj hjt => ((hrows j hj).below hba).kept hgrow (by
    cases e : (us.getD j nilS).ownBlock with
    | none => exact .inl rfl
    | some p =>
      refine .inr (fun e2 => ?_)
      rcases Nat.lt_or_gt_of_ne hjt with h | h
      · exact hdist j t h ht p p e (by rw [hut, ← e2]) rfl
      · exact hdist t j h hj p p (by rw [hut, ← e2]) e rfl)
  have hl2 : ((us.set t (.slice (some ⟨gg, 0, none⟩) (ly + 1) cap)).set f (.slice (some ⟨bf, 0, none⟩) (lx - 1) cf)).length = n := by simp [hus]
  have rows : ∀ j, j < n → OwnI lo (((w1.setCell ⟨g, t, none⟩ (.slice (some ⟨gg, 0, none⟩) (ly + 1) cap)).setCell ⟨g, f, none⟩ (.slice (some ⟨bf, 0, none⟩) (lx - 1) cf)).drew) (((us.set t (.slice (some ⟨gg, 0, none⟩) (ly + 1) cap)).set f (.slice (some ⟨bf, 0, none⟩) (lx - 1) cf)).getD j nilS) ((shM R f t).getD j []) := fun j hj => by
    rw [shM_get R f t j (by omega) (by omega) hft (by omega), hxs, hys, hlx, hxv]
    by_cases e1 : j = f
    · subst e1
      rw [if_pos rfl]
      have e2 : ((us.set t (.slice (some ⟨gg, 0, none⟩) (ly + 1) cap)).set j (.slice (some ⟨bf, 0, none⟩) (lx - 1) cf)).getD j nilS = .slice (some ⟨bf, 0, none⟩) (lx - 1) cf := by simp [List.getD, show j < us.length by omega]
      rw [e2]
      have h1 := old j hj hft
      rw [huf, hxs] at h1
      exact keep _ _ (own_take h1 hlx (by omega))
    · rw [if_neg e1]
      by_cases e2 : j = t
      · subst e2
        rw [if_pos rfl]
        have e3 : ((us.set j (.slice (some ⟨gg, 0, none⟩) (ly + 1) cap)).set f (.slice (some ⟨bf, 0, none⟩) (lx - 1) cf)).getD j nilS = .slice (some ⟨gg, 0, none⟩) (ly + 1) cap := by
          rw [List.getD, List.getElem?_set_ne hft]; simp [show j < us.length by omega]
        rw [e3]
        refine keep _ _ ?_
        unfold OwnI
        rw [List.length_append, List.length_singleton, hly]
        exact hown
      · rw [if_neg e2]
        have e3 : ((us.set t (.slice (some ⟨gg, 0, none⟩) (ly + 1) cap)).set f (.slice (some ⟨bf, 0, none⟩) (lx - 1) cf)).getD j nilS = us.getD j nilS := by
          rw [List.getD, List.getElem?_set_ne (Ne.symm e1), List.getElem?_set_ne (Ne.symm e2)]; rfl
        rw [e3]
        exact keep _ _ (old j hj e2)
  refine ⟨_, by rw [shM_len, hn]; exact o6.1, by rw [shM_len, hn]; exact rows, fun p hp => ?_, fun j hj p hp => ?_⟩
  · have := (o5.1.lt p hp).2
    exact this
  · rw [shM_len, hn] at hj
    have := ((rows j hj).block p hp).2
    simpa [World.drew, World.setCell] using this

set_option maxHeartbeats 8000000 in
set_option maxRecDepth 100000 in
theorem sshift_ok (v : Value) (R : List (List Int)) (f t : Nat) (w : World) (hv : ReadsS w v R) (hvl : vldM R = true) (hf : f < R.length) (ht : t < R.length) (hft : f ≠ t) (h0 : (R.getD f []).length ≠ 0) (h6 : (R.getD t []).length ≠ 6) :
    Calls Try.prog 42 #[v, .agg #[.int .i8 f, .int .i8 t]] w (RetMX1 w (shM R f t) 0) := by
  obtain ⟨i0, hi, hz0, hz1, hz2⟩ := info_parts info_i64
  obtain ⟨q1, q4, hok⟩ := vldM_spec hvl
  have hf6 := (hok f hf).1
  have ht6 := (hok t ht).1
  have HR6 : Hid (∀ j, j < R.length → (R.getD j []).length ≤ 6) := Lib.hid (fun j hj => (hok j hj).1)
  obtain ⟨b, cap, rfl, g1, g2, g3, hc⟩ := id hv
  obtain ⟨uf0, c0, r0⟩ := hc f hf
  obtain ⟨ut0, c1, r1⟩ := hc t ht
  obtain ⟨fa, fc, rfl, _⟩ := r0.is
  obtain ⟨ta, tc, rfl, _⟩ := r1.is
  have HFT := Lib.hid hft
  obtain ⟨n, hn⟩ : ∃ n, R.length = n := ⟨_, rfl⟩
  have HN := Lib.hid hn
  obtain ⟨xs, hxs⟩ : ∃ xs, R.getD f [] = xs := ⟨_, rfl⟩
  obtain ⟨ys, hys⟩ : ∃ ys, R.getD t [] = ys := ⟨_, rfl⟩
  rw [hxs] at c0 hf6 h0
  rw [hys] at c1 ht6 h6
  obtain ⟨lx, hlx⟩ : ∃ l, xs.length = l := ⟨_, rfl⟩
  obtain ⟨ly, hly⟩ : ∃ l, ys.length = l := ⟨_, rfl⟩
  rw [hlx] at c0 hf6 h0
  rw [hly] at c1 ht6 h6
  rw [hn] at hf ht q4 g1 hv ⊢
  have HXS := Lib.hid hxs
  have HYS := Lib.hid hys
  have HLX := Lib.hid hlx
  have HLY := Lib.hid hly
  have HV := Lib.hid hv
  have s1 : inB (f : Int) 0 ((n : Int) - 1) = true := inB_true (by omega)
  have s2 : inB (t : Int) 0 ((n : Int) - 1) = true := inB_true (by omega)
  have s3 : ((f : Int) == (t : Int)) = false := by simp; omega
  have s4 : ((ly : Int) == 6) = false := by simp; omega
  have s5 : decide ((lx : Int) - 1 < 0) = false := decide_eq_false (by omega)
  have hfn : (f : Int) < (n : Int) := by omega
  have htn : (t : Int) < (n : Int) := by omega
  have hl1 : 0 ≤ (lx : Int) - 1 := by omega
  have hl3 : (lx : Int) - 1 < (lx : Int) := by omega
  have hl4 : ((lx : Int) - 1).toNat = lx - 1 := by omega
  have hl5 : 1 ≤ (lx : Int) := by omega
  have hl6 : 0 < lx := by omega
  have hl7 : decide (0 < lx) = true := decide_eq_true hl6
  have HB0 : Hid (Below w.heap.size w (w.alloc (.cells #[.int .i8 f, .int .i8 t] 34))) := Lib.hid ((Below.refl _ _).alloc (Nat.le_refl _) _)
  have HBX : Hid (Blk2 (w.alloc (.cells #[.int .i8 f, .int .i8 t] 34)) w.heap.size 34 (.int .i8 f) (.int .i8 t)) := Lib.hid (Blk2.new rfl _ _ _)
  clear hv hc r0 r1 hxs hys hlx hly hn hok hft hvl q1 g1
  go_enter Try.func42, Try.ntmps42
  go_wp2_with (go_at_call 50; refine (in_any _ _ _ _).mono ?_; rintro e w2 ⟨rfl, hw2⟩; subst hw2)
  generalize w.alloc (.cells #[.int .i8 f, .int .i8 t] 34) = w1 at HB0 HBX ⊢
  refine (sownM_any _ R w1 (HV.out.below HB0.out) (by have := HN.out; omega) HR6.out).mono ?_
  rintro e w2 ⟨v2, rfl, o2, b2⟩
  obtain ⟨us, p1, p2, p3, p4, p5⟩ := o2
  have HB2 := Lib.hid (blink HB0.out b2)
  have HBX2 := HBX.out.below b2
  have hw1 : w.heap.size < w1.heap.size := HBX.out.lt
  have hw12 : w1.heap.size ≤ w2.heap.size := b2.size
  obtain ⟨g, gc, hv2⟩ : ∃ g gc, v2 = .slice (some ⟨g, 0, none⟩) n gc := by
    rcases p1.2 with ⟨_, hz⟩ | ⟨g, cap, cur, e, _⟩
    · have := HN.out; omega
    · rw [HN.out] at e; exact ⟨g, cap, e⟩
  subst hv2
  rw [HN.out] at p1 p2 p4 p5
  have hgb := (p1.lt g rfl).1
  have hg2 := (p1.lt g rfl).2
  have hus : us.length = n := by have h := p1.1; omega
  have of := p2 f hf
  have ot := p2 t ht
  rw [HXS.out] at of
  rw [HYS.out] at ot
  have q0 := p1.cellAt f (by omega)
  have qf0 := p1.frozenAt f
  have qt := p1.cellAt t (by omega)
  have qf1 := p1.frozenAt t
  have e0 : us[f]? = some (us.getD f nilS) := by simp [List.getD, show f < us.length by omega]
  have e1 : us[t]? = some (us.getD t nilS) := by simp [List.getD, show t < us.length by omega]
  rw [e0] at q0
  rw [e1] at qt
  have hdft : ∀ p, (us.getD f nilS).ownBlock = some p → (us.getD t nilS).ownBlock ≠ some p := fun p hp hq => by
    rcases Nat.lt_or_gt_of_ne HFT.out with h | h
    · exact p5 f t h ht p p hp hq rfl
    · exact p5 t f h hf p p hq hp rfl
  obtain ⟨uf, huf⟩ : ∃ u, us.getD f nilS = u := ⟨_, rfl⟩
  obtain ⟨ut, hut⟩ : ∃ u, us.getD t nilS = u := ⟨_, rfl⟩
  rw [huf] at q0 of hdft
  rw [hut] at qt ot hdft
  rcases of.cases with ⟨_, e⟩ | ⟨bf, cf, rfl, k1, k2, k3, k4, k5, _⟩
  · have := HLX.out; rw [e] at this; simp at this; omega
  rw [HLX.out] at q0 k3 huf
  have kx := k5 (lx - 1) (by have := HLX.out; omega)
  obtain ⟨x, hxv⟩ : ∃ x, xs.getD (lx - 1) 0 = x := ⟨_, rfl⟩
  rw [hxv] at kx
  have HXV := Lib.hid hxv
  have hbf := hdft bf rfl
  have hut_g : ut.ownBlock ≠ some g := fun e => row_ne_outer p1 ot g rfl e
  have hut_B : ut.ownBlock ≠ some w.heap.size := fun e => by have := (ot.block _ e).1; omega
  have hbg : bf ≠ g := fun e => row_ne_outer p1 of g rfl (by simp [Value.ownBlock, e])
  have xb0 := HBX2.at0
  have xb1 := HBX2.at1
  have HP1 := Lib.hid p1
  have HP2 := Lib.hid p2
  have HP5 := Lib.hid p5
  have HUF := Lib.hid huf
  have HUT := Lib.hid hut
  have HOT := Lib.hid ot
  have HUG := Lib.hid hut_g
  have HUB := Lib.hid hut_B
  have HUBF := Lib.hid hbf
  have hft2 : ¬ f = t := HFT.out
  have htf2 : ¬ t = f := fun e => HFT.out e.symm
  have hBg : ¬ w.heap.size = g := by omega
  have hgB : ¬ g = w.heap.size := by omega
  have hgbf : ¬ g = bf := fun e => hbg e.symm
  have hBbf : ¬ w.heap.size = bf := by omega
  have yb : (w2.alloc (.cells #[.int .i64 x] 2)).cell? ⟨g, t, none⟩ = some ut := cell_alloc qt _
  have HQT := Lib.hid qt
  have HQF1 := Lib.hid qf1
  have hly6 : ly ≤ 6 := ht6
  have hxl : w.heap.size < w2.heap.size := by omega
  have HOW := Lib.hid (show OwnI w1.heap.size w2 ut ys from ot)
  clear p1 p2 p3 p4 p5 of ot e0 e1 huf hut hxv hut_g hut_B hbf hdft k5 hus HBX2 b2
  go_wp2_with fail
  refine box_op ?_
  go_region_held_law (fun w' => w'.cell? ⟨w.heap.size, 0, none⟩ = some (.int .i8 f) ∧ w'.cell? ⟨w.heap.size, 1, none⟩ = some (.int .i8 t) ∧ w'.cell? ⟨g, f, none⟩ = some (.slice (some ⟨bf, 0, none⟩) lx cf) ∧ w'.cell? ⟨bf, lx - 1, none⟩ = some (.int .i64 x))
    (first
      | (go_split_ands
         refine ⟨?_, ?_, ?_, ?_⟩
         · exact set_far hgB (by assumption)
         · exact set_far hgB (by assumption)
         · exact set_off htf2 (by assumption)
         · exact set_far hgbf (by assumption))
      | (go_split_ands
         refine ⟨?_, ?_, ?_, ?_⟩
         · (rw [hgrow.cell_far _ (by simp; omega) (Ne.symm HUB.out)]; assumption)
         · (rw [hgrow.cell_far _ (by simp; omega) (Ne.symm HUB.out)]; assumption)
         · (rw [hgrow.cell_far _ (by simp; omega) (Ne.symm HUG.out)]; assumption)
         · (rw [hgrow.cell_far _ (by simp; omega) (Ne.symm HUBF.out)]; assumption))
      | go_keep)
    ((refine step_append_lies _ (by rfl) _ _ _ (by rfl) w1.heap.size 2 i0 (.int .i64 0) 1 8 Try.underlying52 hi hz0 hz1 hz2 rfl (by omega) ut ly (ys.map (Value.int .i64)) (by rfl) ((own_of HOW.out HLY.out).alloc _).drew
        ⟨w2.heap.size, 0, none⟩ 1 1 [.int .i64 x] (by rfl) (by rfl) (cell_one_new w2 _ _) (ints_oneCell .i64 [x])
        (by omega) (by unfold maxLen; omega) (by omega) (by simp; omega) (w2.heap.size + 1) (by simp) ?_; intro gg gcap wz hown hgrow hat hlt; have z1 : wz.cell? ⟨g, t, none⟩ = some ut := hgrow.cell yb (Ne.symm HUG.out); have z2 : wz.frozen? ⟨g, t, none⟩ = false := (hgrow.frozen_far ⟨g, t, none⟩ (by simp; omega) (Ne.symm HUG.out)).trans (frozen_alloc (p := ⟨g, t, none⟩) hg2 HQF1.out _).2))
  all_goals
    have D := sshift_done (o := .cells #[.int .i64 x] 2) HN.out hf ht HFT.out HXS.out HYS.out HLX.out HLY.out h0 HXV.out HUF.out HUT.out HP1.out HP2.out HP5.out hgrow (by rw [List.map_append]; exact hown)
    obtain ⟨y0, y1, y2, y3⟩ : (wz.setCell ⟨g, t, none⟩ (.slice (some ⟨gg, 0, none⟩) (ly + 1) gcap)).cell? ⟨w.heap.size, 0, none⟩ = some (.int .i8 f) ∧ (wz.setCell ⟨g, t, none⟩ (.slice (some ⟨gg, 0, none⟩) (ly + 1) gcap)).cell? ⟨w.heap.size, 1, none⟩ = some (.int .i8 t) ∧ (wz.setCell ⟨g, t, none⟩ (.slice (some ⟨gg, 0, none⟩) (ly + 1) gcap)).cell? ⟨g, f, none⟩ = some (.slice (some ⟨bf, 0, none⟩) lx cf) ∧ (wz.setCell ⟨g, t, none⟩ (.slice (some ⟨gg, 0, none⟩) (ly + 1) gcap)).cell? ⟨bf, lx - 1, none⟩ = some (.int .i64 x) := by assumption
    have yf := (D.1.stored t (.slice (some ⟨gg, 0, none⟩) (ly + 1) gcap)).1.frozenAt f
    have HBF : Hid (Below w.heap.size w (wz.setCell ⟨g, t, none⟩ (.slice (some ⟨gg, 0, none⟩) (ly + 1) gcap))) := Lib.hid (((HB2.out.trans ((((Below.refl _ _).alloc (Nat.le_refl _) _).drew).mono HB2.out.size)).grown hgrow (by have := HB2.out.size; simp [World.drew]; omega) (fun p hp => by have := (HOW.out.block p hp).1; omega)).setCell (by simp only; omega) _)
    have HD := Lib.hid D.2
    clear D hown hgrow hat
    generalize wz.setCell ⟨g, t, none⟩ (.slice (some ⟨gg, 0, none⟩) (ly + 1) gcap) = w5 at y0 y1 y2 y3 yf HBF HD ⊢
    go_wp2_with fail
    go_region
    have HO6 := Lib.hid ((HD.out).mono (show w.heap.size ≤ w1.heap.size by omega) (Nat.le_refl _))
    have HB6 : Hid (Below w.heap.size w ((w5.setCell ⟨g, f, none⟩ (.slice (some ⟨bf, 0, none⟩) (lx - 1) cf)).drew)) := Lib.hid ((HBF.out.setCell (by simp only; omega) _).drew)
    have HS6 : Hid (((w5.setCell ⟨g, f, none⟩ (.slice (some ⟨bf, 0, none⟩) (lx - 1) cf)).drew).heap.size = w5.heap.size) := Lib.hid (by simp [World.setCell])
    generalize (w5.setCell ⟨g, f, none⟩ (.slice (some ⟨bf, 0, none⟩) (lx - 1) cf)).drew = w6 at HO6 HB6 HS6 ⊢
    go_wp2_with fail
    go_ret2
    exact ⟨_, rfl, by rw [HS6.out]; exact HO6.out, HB6.out⟩
end Go.Proofs.Ytadhoodddedjjab
