/-
  The contract of impl.HowMany.
-/
import Derived.Test.YtkhemijanhcibabCut
import Derived.Test.YtkhemijanhcibabHM
namespace Go.Proofs.Ytkhemijanhcibab
open Go Go.RowKit Go.Shelf
set_option linter.unusedVariables false
attribute [local go_sem] Oper.semAt_some

theorem Blk3.otherB {W : World} {B : Nat} {T : TypeId} {a b c : Int} (h : Blk3 W B T a b c) (p : Addr) (v : Value) (hne : B ≠ p.block) : Blk3 (W.setCell p v) B T a b c := (heap_setCell_other W p B v hne).trans h

set_option maxHeartbeats 1000000 in
set_option maxRecDepth 100000 in
theorem ihm_in (a b c x y z : Int) (hok : okB a b c = true) (hokx : okB x y z = true) (w : World) (ha : I8s a b c) (hx : I8s x y z) :
    CallsIn Fence.wide 5 Try.prog 10 #[.agg #[.int .i8 a, .int .i8 b, .int .i8 c], .agg #[.int .i8 x, .int .i8 y, .int .i8 z]] w (RetHM w.heap.size w (manyOf (x, y, z) (turnsL (lo3 a b c) (mi3 a b c) (hi3 a b c))) 0) := by
  have hro : Fence.wide.round = none := rfl
  have hFF : ∀ f, Fence.wide.fn f := fun _ => trivial
  obtain ⟨v0, e0⟩ : ∃ v, w.alloc (.cells #[.int .i8 a, .int .i8 b, .int .i8 c] 25) = v := ⟨_, rfl⟩
  have s0 : v0.heap.size = w.heap.size + 1 := by rw [← e0]; simp
  have q0 : At3 v0 (w.heap.size) a b c := by rw [← e0]; exact At3.new _ _ _ _ _
  have c0 : Below w.heap.size w v0 := by rw [← e0]; exact (Below.refl _ _).alloc (Nat.le_refl _) _
  obtain ⟨v1, e1⟩ : ∃ v, v0.alloc (.cells #[.int .i8 x, .int .i8 y, .int .i8 z] 25) = v := ⟨_, rfl⟩
  have s1 : v1.heap.size = w.heap.size + 1 + 1 := by rw [← e1]; simp [s0]
  have q1 : Blk3 v1 (w.heap.size + 1) 25 x y z := by rw [← e1, ← s0]; exact Blk3.new _ _ _ _ _
  have q0 : At3 v1 w.heap.size a b c := by rw [← e1]; exact q0.alloc _
  have c1 : Below w.heap.size w v1 := by rw [← e1]; exact c0.alloc (by omega) _
  obtain ⟨v2, e2⟩ : ∃ v, v1.alloc (.cells #[.int .i8 0, .int .i8 0, .int .i8 0] 25) = v := ⟨_, rfl⟩
  have s2 : v2.heap.size = w.heap.size + 1 + 1 + 1 := by rw [← e2]; simp [s1]
  have c2 : Below w.heap.size w v2 := by rw [← e2]; exact c1.alloc (by omega) _
  have k2 : Blk3 v2 (w.heap.size + 1 + 1) 25 0 0 0 := by rw [← e2, ← s1]; exact Blk3.new _ _ _ _ _
  have q0 : At3 v2 w.heap.size a b c := by rw [← e2]; exact q0.alloc _
  have q1 : Blk3 v2 (w.heap.size + 1) 25 x y z := by rw [← e2]; exact q1.alloc _
  have hvb := (callsIn_wide (n := 4)).2 (ivbox_any a b c v2 ha)
  rw [hok] at hvb
  have HVB := Lib.hid hvb
  have E := Lib.hid (And.intro e0 (And.intro e1 e2))
  have S2 := Lib.hid s2
  have C2 := Lib.hid c2
  have Q0 := Lib.hid q0
  have Q1 := Lib.hid q1
  have K2 := Lib.hid k2
  have HOK := Lib.hid hok
  have HOX := Lib.hid hokx
  have HX := Lib.hid hx
  clear e0 e1 e2 s0 s1 s2 q0 q1 c0 c1 c2 k2 hvb hok hokx ha hx
  refine callsIn_of_wp_marks Try.func10 rfl (hFF _) ?_ hro
  simp only [Try.ntmps10, List.size_toArray, List.length_cons, List.length_nil, Nat.reduceAdd, Nat.reduceSub, Array.replicate_succ, Array.replicate_zero, List.push_toArray, List.append_toArray, List.nil_append, List.cons_append]
  gi_wp2
  rw [E.out.1, E.out.2.1, E.out.2.2]
  refine HVB.out.mono ?_
  rintro e w3 ⟨rfl, b2⟩
  have q0 := Q0.out.below b2
  have q1 := Q1.out.below b2 Q1.out.lt
  have KK := Lib.hid (K2.out.below b2 K2.out.lt)
  have B3 := Lib.hid (blink C2.out b2)
  have m0 := q1.at3.1
  have m1 := q1.at3.2.1
  have m2 := q1.at3.2.2
  have hvx := (callsIn_wide (n := 4)).2 (ivbox_any x y z w3 HX.out)
  rw [HOX.out] at hvx
  have HVX := Lib.hid hvx
  clear b2 hvx
  gi_wp2
  refine HVX.out.mono ?_
  rintro e w4 ⟨rfl, b2⟩
  have q0 := q0.below b2
  have q1 := q1.below b2 q1.lt
  have KK := Lib.hid (KK.out.below b2 KK.out.lt)
  have B4 := Lib.hid (blink B3.out b2)
  have qA := (q0.alloc (.cells #[.int .i64 (-1)] 2)).alloc (.cells #[.int .i8 0, .int .i8 0, .int .i8 0] 25)
  have m0 := qA.1
  have m1 := qA.2.1
  have m2 := qA.2.2
  have hlt : w.heap.size + 1 + 1 < w4.heap.size := KK.out.lt
  obtain ⟨W5, e5⟩ : ∃ V, w4.alloc (.cells #[.int .i64 (-1)] 2) = V := ⟨_, rfl⟩
  have s5 : W5.heap.size = w4.heap.size + 1 := by rw [← e5]; simp
  obtain ⟨W6, e6⟩ : ∃ V, W5.alloc (.cells #[.int .i8 0, .int .i8 0, .int .i8 0] 25) = V := ⟨_, rfl⟩
  have s6 : W6.heap.size = w4.heap.size + 1 + 1 := by rw [← e6]; simp [s5]
  have k5 : BlockI W5 w4.heap.size 2 [-1] := by rw [← e5]; exact BlockI.new _ _ [-1]
  have k6 : BlockI W6 w4.heap.size 2 [-1] := by rw [← e6]; exact k5.alloc _
  have l6 : Blk3 W6 (w4.heap.size + 1) 25 0 0 0 := by rw [← e6, ← s5]; exact Blk3.new _ _ _ _ _
  have b6 : Below w.heap.size w W6 := by rw [← e6]; refine Below.alloc ?_ (by omega) _; rw [← e5]; exact B4.out.alloc (by omega) _
  have j6 : Blk3 W6 (w.heap.size + 1 + 1) 25 0 0 0 := by rw [← e6]; refine Blk3.alloc ?_ _; rw [← e5]; exact KK.out.alloc _
  have p6 : Blk3 W6 (w.heap.size + 1) 25 x y z := by rw [← e6]; refine Blk3.alloc ?_ _; rw [← e5]; exact q1.alloc _
  have hit := (callsIn_wide (n := 4)).2 (iturns_any a b c W6)
  rw [s6] at hit
  have HIT := Lib.hid hit
  have EE := Lib.hid (And.intro e5 e6)
  have S6 := Lib.hid s6
  have K6 := Lib.hid k6
  have L6 := Lib.hid l6
  have B6 := Lib.hid b6
  have J6 := Lib.hid j6
  have P6 := Lib.hid p6
  clear b2 q0 q1 qA hit e5 e6 s5 s6 k5 k6 l6 b6 j6 p6
  gi_wp2
  rw [EE.out.1, EE.out.2]
  refine HIT.out.mono ?_
  rintro e w7 ⟨rfl, hw7⟩
  have q7 : At3 w7 W6.heap.size a b c := by rw [hw7]; exact At3.new _ _ _ _ _
  have s7 : w7.heap.size = w4.heap.size + 1 + 1 + 1 := by rw [hw7]; simp [S6.out]
  have k7 : BlockI w7 w4.heap.size 2 [-1] := by rw [hw7]; exact K6.out.alloc _
  have l7 : Blk3 w7 (w4.heap.size + 1) 25 0 0 0 := by rw [hw7]; exact L6.out.alloc _
  have b7 : Below w.heap.size w w7 := by rw [hw7]; exact B6.out.alloc (by have := S6.out; omega) _
  have j7 : Blk3 w7 (w.heap.size + 1 + 1) 25 0 0 0 := by rw [hw7]; exact J6.out.alloc _
  have p7 : Blk3 w7 (w.heap.size + 1) 25 x y z := by rw [hw7]; exact P6.out.alloc _
  rw [S6.out] at q7
  have hs2 : w.heap.size ≤ w4.heap.size := by omega
  clear hw7 m0 m1 m2
  gi_wp2
  skip
  refine wpIn_range_upA (α := Turn) hro (by omega) (gf := 68) (lb := #[.pointer (some ⟨w4.heap.size + 1 + 1, 0, none⟩)]) rfl (hFF _) (enters_of Try.func68 (by kernel_rfl) rfl)
    (turn_up 4 (by omega) (w4.heap.size + 1 + 1) a b c HOK.out w7 q7) (Below.refl _ _) (fun _ => rfl)
    (fun pre W => (BlockI W w4.heap.size 2 [(manyOf (x, y, z) (pre.map (fun t : Turn => t.1))).1] ∧ Blk3 W (w4.heap.size + 1) 25 (manyOf (x, y, z) (pre.map (fun t : Turn => t.1))).2.1 (manyOf (x, y, z) (pre.map (fun t : Turn => t.1))).2.2.1 (manyOf (x, y, z) (pre.map (fun t : Turn => t.1))).2.2.2 ∧ Blk3 W (w.heap.size + 1 + 1) 25 0 0 0 ∧ Blk3 W (w.heap.size + 1) 25 x y z) ∧ Below w.heap.size w W)
    (UpFrom.and (fun s A B row hs hg hr => ⟨(hg.block _ hs.1.lt (fun e => by have := hr _ e.symm; omega)).trans hs.1, (hg.block _ hs.2.1.lt (fun e => by have := hr _ e.symm; omega)).trans hs.2.1, (hg.block _ hs.2.2.1.lt (fun e => by have := hr _ e.symm; omega)).trans hs.2.2.1, (hg.block _ hs.2.2.2.lt (fun e => by have := hr _ e.symm; omega)).trans hs.2.2.2⟩) (upFrom_below (Nat.le_refl _) (by omega)))
    ⟨⟨k7, l7, j7, p7⟩, b7⟩
    (fun t b' => { tmps := #[.agg #[.int .i8 a, .int .i8 b, .int .i8 c], .agg #[.int .i8 x, .int .i8 y, .int .i8 z], .pointer (some ⟨w.heap.size, 0, none⟩), .pointer (some ⟨w.heap.size + 1, 0, none⟩), .int .i64 0, .pointer (some ⟨w.heap.size + 1 + 1, 0, none⟩), .int .i64 0, .pointer (some ⟨w4.heap.size, 0, none⟩), .pointer (some ⟨w4.heap.size + 1, 0, none⟩), .pointer (some ⟨b', 0, none⟩), undef,
      .agg #[.int .i8 a, .int .i8 b, .int .i8 c], .bool true, .bool false, .bool false, .agg #[.int .i8 x, .int .i8 y, .int .i8 z], .bool true, .bool false, .bool false, undef, .agg #[.int .i8 0, .int .i8 0, .int .i8 0], .agg #[.int .i8 a, .int .i8 b, .int .i8 c], .func (.func 68) #[] #[.pointer (some ⟨w4.heap.size + 1 + 1, 0, none⟩)], .agg #[.int .i8 t.1.1, .int .i8 t.1.2.1, .int .i8 t.1.2.2],
      undef, undef, undef, undef, undef, undef, undef, undef, undef, undef, undef, undef, undef, undef, undef, undef, undef, undef, undef, undef, undef, undef, undef, undef, undef, undef, undef], defers := [] })
    (fun t => .cells #[.int .i8 t.1.1, .int .i8 t.1.2.1, .int .i8 t.1.2.2] 25) ?assign ?body ?done
  case assign =>
    intro l t W K hK
    unfold encT
    gi_wp2
    exact hK
  case body =>
    rintro l pre t b' W ⟨⟨kA, kB, kJ, kP⟩, hB⟩ hpl hbge hbx
    have hb3 : Blk3 W b' 25 t.1.1 t.1.2.1 t.1.2.2 := hbx
    obtain ⟨x1, x2, y1, y2, z1, z2⟩ := okB_spec HOX.out
    have hsn : manyOf (x, y, z) ((pre ++ [t]).map (fun t : Turn => t.1)) = manyStep (x, y, z) (manyOf (x, y, z) (pre.map (fun t : Turn => t.1))) t.1 := by rw [List.map_append]; exact manyOf_snoc _ _ _
    have hpb := manyOf_bd (c := (x, y, z)) ⟨x1, x2⟩ ⟨y1, y2⟩ ⟨z1, z2⟩ (pre.map (fun t : Turn => t.1)) (by intro u hu; obtain ⟨v, _, rfl⟩ := List.mem_map.1 hu; exact v.2)
    obtain ⟨nx, hnx⟩ : ∃ nx, manyOf (x, y, z) ((pre ++ [t]).map (fun t : Turn => t.1)) = nx := ⟨_, rfl⟩
    rw [hnx] at hsn
    obtain ⟨s, hs⟩ : ∃ s, manyOf (x, y, z) (pre.map (fun t : Turn => t.1)) = s := ⟨_, rfl⟩
    rw [hs] at kA kB hpb hsn
    obtain ⟨⟨ta, tb, tc⟩, hokk⟩ := t
    obtain ⟨sm, s0, s1, s2⟩ := s
    have hwv := rows_wrap ⟨x1, x2⟩ ⟨y1, y2⟩ ⟨z1, z2⟩ hokk
    have hri := (rows_in ⟨x1, x2⟩ ⟨y1, y2⟩ ⟨z1, z2⟩ hokk).2.2.2.2
    obtain ⟨p1, p2, q1, q2, r1, r2⟩ := hokk
    obtain ⟨hm1, hm2⟩ := hpb
    unfold manyStep rowsOf at hsn
    simp only at p1 p2 q1 q2 r1 r2 hm1 hm2 hsn kA kB hb3
    obtain ⟨v, hv⟩ : ∃ v, x / ta * (y / tb) * (z / tc) = v := ⟨_, rfl⟩
    rw [hv] at hri hsn hwv
    obtain ⟨d9, d10⟩ := hri
    have c0 := hb3.at3.1
    have c1 := hb3.at3.2.1
    have c2 := hb3.at3.2.2
    have n0 := kP.at3.1
    have n1 := kP.at3.2.1
    have n2 := kP.at3.2.2
    have HWV := Lib.hid hwv
    have HSN := Lib.hid hsn
    have KA := Lib.hid kA
    have KB := Lib.hid kB
    have KJ := Lib.hid kJ
    have KP := Lib.hid kP
    have HB := Lib.hid hB
    have HT := Lib.hid hb3
    have HNX := Lib.hid hnx
    clear hwv hsn kA kB kJ kP hB hs hv hb3 hbx hpl hnx
    gi_wp2
    refine region_round l rfl (by kernel_rfl) (by kernel_rfl) (by kernel_rfl) ?_
    repeat (gi_big_quiet_step (fail))
    refine wpQuietIn_nil ?_
    rintro _ ⟨nq, rfl⟩
    rw [HWV.out]
    have hbn : w4.heap.size + 1 + 1 + 1 ≤ b' := by omega
    obtain ⟨Wd, ed, kA, kB, kJ, kP, kT, hB, hU⟩ : ∃ V, W.drewN nq = V ∧ BlockI V w4.heap.size 2 [sm] ∧ Blk3 V (w4.heap.size + 1) 25 s0 s1 s2 ∧ Blk3 V (w.heap.size + 1 + 1) 25 0 0 0 ∧ Blk3 V (w.heap.size + 1) 25 x y z ∧ Blk3 V b' 25 ta tb tc ∧ Below w.heap.size w V ∧ KeepsUp (w4.heap.size + 1 + 1 + 1) W V := ⟨_, rfl, KA.out, KB.out, KJ.out, KP.out, HT.out, below_drewN HB.out _, KeepsUp.below (bdrewN (w := W) _)⟩
    rw [ed]
    clear ed c0 c1 c2 n0 n1 n2
    have d0 := kA.cell 0 (by simp)
    simp at d0
    have f0 := kA.frozen 0
    have g0 := kB.frozen 0
    have g1 := kB.frozen 1
    have g2 := kB.frozen 2
    have r3 := kB.at3.1
    have r4 := kB.at3.2.1
    have r5 := kB.at3.2.2
    have c0 := kT.at3.1
    have c1 := kT.at3.2.1
    have c2 := kT.at3.2.2
    have KAd := Lib.hid kA
    have KBd := Lib.hid kB
    have KJd := Lib.hid kJ
    have KPd := Lib.hid kP
    have HBd := Lib.hid hB
    have HUd := Lib.hid hU
    have HXs : Hid (KeepsUp (w4.heap.size + 1 + 1 + 1) W ((((Wd.setCell ⟨w4.heap.size, 0, none⟩ (.int .i64 v)).setCell ⟨w4.heap.size + 1, 0, none⟩ (.int .i8 ta)).setCell ⟨w4.heap.size + 1, 1, none⟩ (.int .i8 tb)).setCell ⟨w4.heap.size + 1, 2, none⟩ (.int .i8 tc)) ∧ (BlockI ((((Wd.setCell ⟨w4.heap.size, 0, none⟩ (.int .i64 v)).setCell ⟨w4.heap.size + 1, 0, none⟩ (.int .i8 ta)).setCell ⟨w4.heap.size + 1, 1, none⟩ (.int .i8 tb)).setCell ⟨w4.heap.size + 1, 2, none⟩ (.int .i8 tc)) w4.heap.size 2 [v] ∧ Blk3 ((((Wd.setCell ⟨w4.heap.size, 0, none⟩ (.int .i64 v)).setCell ⟨w4.heap.size + 1, 0, none⟩ (.int .i8 ta)).setCell ⟨w4.heap.size + 1, 1, none⟩ (.int .i8 tb)).setCell ⟨w4.heap.size + 1, 2, none⟩ (.int .i8 tc)) (w4.heap.size + 1) 25 ta tb tc ∧ Blk3 ((((Wd.setCell ⟨w4.heap.size, 0, none⟩ (.int .i64 v)).setCell ⟨w4.heap.size + 1, 0, none⟩ (.int .i8 ta)).setCell ⟨w4.heap.size + 1, 1, none⟩ (.int .i8 tb)).setCell ⟨w4.heap.size + 1, 2, none⟩ (.int .i8 tc)) (w.heap.size + 1 + 1) 25 0 0 0 ∧ Blk3 ((((Wd.setCell ⟨w4.heap.size, 0, none⟩ (.int .i64 v)).setCell ⟨w4.heap.size + 1, 0, none⟩ (.int .i8 ta)).setCell ⟨w4.heap.size + 1, 1, none⟩ (.int .i8 tb)).setCell ⟨w4.heap.size + 1, 2, none⟩ (.int .i8 tc)) (w.heap.size + 1) 25 x y z) ∧ Below w.heap.size w ((((Wd.setCell ⟨w4.heap.size, 0, none⟩ (.int .i64 v)).setCell ⟨w4.heap.size + 1, 0, none⟩ (.int .i8 ta)).setCell ⟨w4.heap.size + 1, 1, none⟩ (.int .i8 tb)).setCell ⟨w4.heap.size + 1, 2, none⟩ (.int .i8 tc))) := Lib.hid (by
      have u1 : ∀ (V : World) (p : Addr) (o : Value), p.block < (w4.heap.size + 1 + 1 + 1) → KeepsUp (w4.heap.size + 1 + 1 + 1) V (V.setCell p o) := fun V p o hp => KeepsUp.grown (grown_cell V p o) (fun r e => by cases e; exact hp)
      have nb : w4.heap.size ≠ w4.heap.size + 1 := by omega
      refine ⟨(((hU.trans (u1 _ _ _ (by show w4.heap.size < _; omega))).trans (u1 _ _ _ (by show w4.heap.size + 1 < _; omega))).trans (u1 _ _ _ (by show w4.heap.size + 1 < _; omega))).trans (u1 _ _ _ (by show w4.heap.size + 1 < _; omega)), ⟨?_, ?_, ?_, ?_⟩, ?_⟩
      · exact (((kA.set 0 v).other ⟨w4.heap.size + 1, 0, none⟩ (.int .i8 ta) nb).other ⟨w4.heap.size + 1, 1, none⟩ (.int .i8 tb) nb).other ⟨w4.heap.size + 1, 2, none⟩ (.int .i8 tc) nb
      · exact (kB.otherB ⟨w4.heap.size, 0, none⟩ (.int .i64 v) nb.symm).store
      · exact ((((kJ.otherB ⟨w4.heap.size, 0, none⟩ (.int .i64 v) (by show w.heap.size + 1 + 1 ≠ w4.heap.size; omega)).otherB ⟨w4.heap.size + 1, 0, none⟩ (.int .i8 ta) (by show w.heap.size + 1 + 1 ≠ w4.heap.size + 1; omega)).otherB ⟨w4.heap.size + 1, 1, none⟩ (.int .i8 tb) (by show w.heap.size + 1 + 1 ≠ w4.heap.size + 1; omega)).otherB ⟨w4.heap.size + 1, 2, none⟩ (.int .i8 tc) (by show w.heap.size + 1 + 1 ≠ w4.heap.size + 1; omega))
      · exact ((((kP.otherB ⟨w4.heap.size, 0, none⟩ (.int .i64 v) (by show w.heap.size + 1 ≠ w4.heap.size; omega)).otherB ⟨w4.heap.size + 1, 0, none⟩ (.int .i8 ta) (by show w.heap.size + 1 ≠ w4.heap.size + 1; omega)).otherB ⟨w4.heap.size + 1, 1, none⟩ (.int .i8 tb) (by show w.heap.size + 1 ≠ w4.heap.size + 1; omega)).otherB ⟨w4.heap.size + 1, 2, none⟩ (.int .i8 tc) (by show w.heap.size + 1 ≠ w4.heap.size + 1; omega))
      · exact (((hB.setCell (p := ⟨w4.heap.size, 0, none⟩) hs2 _).setCell (p := ⟨w4.heap.size + 1, 0, none⟩) (by show w.heap.size ≤ w4.heap.size + 1; omega) _).setCell (p := ⟨w4.heap.size + 1, 1, none⟩) (by show w.heap.size ≤ w4.heap.size + 1; omega) _).setCell (p := ⟨w4.heap.size + 1, 2, none⟩) (by show w.heap.size ≤ w4.heap.size + 1; omega) _)
    clear kA kB kJ kP kT hB hU
    by_cases h1 : sm < v
    · have t1 : decide (sm < v) = true := decide_eq_true h1
      have HS2 : Hid (nx = (v, ta, tb, tc)) := Lib.hid (by rw [HSN.out, if_pos h1])
      gi_wp2
      gi_region
      all_goals
        gi_wp2
        have e := HXs.out
        have ek := e.1.trans (KeepsUp.below ((Below.refl _ _).drew))
        exact ⟨by first | exact ek | (rw [s7]; exact ek), ⟨by rw [HNX.out, HS2.out]; exact e.2.1.1, by rw [HNX.out, HS2.out]; exact e.2.1.2.1, e.2.1.2.2.1, e.2.1.2.2.2⟩, e.2.2.drew⟩
    · have t1 : decide (sm < v) = false := decide_eq_false h1
      have HS2 : Hid (nx = (sm, s0, s1, s2)) := Lib.hid (by rw [HSN.out, if_neg h1])
      gi_wp2
      exact ⟨by first | exact HUd.out | (rw [s7]; exact HUd.out), ⟨by rw [HNX.out, HS2.out]; exact KAd.out, by rw [HNX.out, HS2.out]; exact KBd.out, KJd.out, KPd.out⟩, HBd.out⟩
  case done =>
    rintro D ys W hD hys ⟨⟨kA, kB, kJ, kP⟩, hB⟩ hK
    rw [hys] at kA kB
    obtain ⟨s, hs⟩ : ∃ s, manyOf (x, y, z) (turnsL (lo3 a b c) (mi3 a b c) (hi3 a b c)) = s := ⟨_, rfl⟩
    rw [hs] at kA kB
    obtain ⟨sm, s0, s1, s2⟩ := s
    simp only at kA kB
    have HS := Lib.hid hs
    have d0 := kA.cell 0 (by simp)
    simp at d0
    have r3 := kB.at3.1
    have r4 := kB.at3.2.1
    have r5 := kB.at3.2.2
    have j0 := kJ.at3.1
    have j1 := kJ.at3.2.1
    have j2 := kJ.at3.2.2
    have f0 := kJ.frozen 0
    have f1 := kJ.frozen 1
    have f2 := kJ.frozen 2
    have HB := Lib.hid hB
    have HK := Lib.hid hK
    have HJ := Lib.hid kJ
    clear hs hys kA kB kJ kP hB hK
    have hDj : D ≠ w.heap.size + 1 + 1 := by omega
    gi_wp2
    gi_region
    clear d0 r3 r4 r5 j0 j1 j2 f0 f1 f2
    obtain ⟨Wf, eW⟩ : ∃ V, (((W.setCell ⟨w.heap.size + 1 + 1, 0, none⟩ (.int .i8 s0)).setCell ⟨w.heap.size + 1 + 1, 1, none⟩ (.int .i8 s1)).setCell ⟨w.heap.size + 1 + 1, 2, none⟩ (.int .i8 s2)).drew = V := ⟨_, rfl⟩
    rw [eW]
    have jf : Blk3 Wf (w.heap.size + 1 + 1) 25 s0 s1 s2 := by rw [← eW]; exact HJ.out.store
    have bf : Below w.heap.size w Wf := by rw [← eW]; exact (((HB.out.setCell (by show w.heap.size ≤ w.heap.size + 1 + 1; omega) _).setCell (by show w.heap.size ≤ w.heap.size + 1 + 1; omega) _).setCell (by show w.heap.size ≤ w.heap.size + 1 + 1; omega) _).drew
    have kf : Wf.heap[D]? = some (.deferred (some [])) := by
      rw [← eW]
      show ((((W.setCell ⟨w.heap.size + 1 + 1, 0, none⟩ (.int .i8 s0)).setCell ⟨w.heap.size + 1 + 1, 1, none⟩ (.int .i8 s1)).setCell ⟨w.heap.size + 1 + 1, 2, none⟩ (.int .i8 s2)).heap[D]?) = _
      rw [heap_setCell_other _ ⟨w.heap.size + 1 + 1, 2, none⟩ D _ hDj, heap_setCell_other _ ⟨w.heap.size + 1 + 1, 1, none⟩ D _ hDj, heap_setCell_other _ ⟨w.heap.size + 1 + 1, 0, none⟩ D _ hDj]
      exact HK.out
    have r0 := jf.at3.1
    have r1 := jf.at3.2.1
    have r2 := jf.at3.2.2
    have hDf := (Array.getElem?_eq_some_iff.1 kf).1
    have BF := Lib.hid bf
    clear eW bf
    gi_wp2
    have b9 : Below w4.heap.size Wf (Wf.putObj D (.deferred none)) := belowK_b (w := w4) (Nat.le_refl _) _ D _ _ (by omega) kf rfl rfl
    have j9 := jf.below b9 hlt
    have z0 := j9.at3.1
    have z1 := j9.at3.2.1
    have z2 := j9.at3.2.2
    refine ⟨by simp, .inl ⟨_, _, rfl, run_takeDeferred kf, ?_⟩⟩
    refine ⟨.tuple #[.int .i64 sm, .agg #[.int .i8 s0, .int .i8 s1, .int .i8 s2], .int .i64 0], by simp [results, Try.results10, go_sem, z0, z1, z2], by rw [HS.out], ?_⟩
    exact Below.trans BF.out (belowK_b (w := w) (Nat.le_refl _) _ D _ _ (by omega) kf rfl rfl)
end Go.Proofs.Ytkhemijanhcibab
