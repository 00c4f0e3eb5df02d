/-
  The contract of impl.PaperFor.
-/
import Derived.Test.YtjniljndnnoegaaNeeds
import Derived.Test.YtjniljndnnoegaaUpA
import Derived.Test.YtjniljndnnoegaaTurnIt
import Derived.Test.YtjniljndnnoegaaBoxF
import Derived.Test.YtjniljndnnoegaaBlock
import Derived.Outline
import Derived.Sort.QuietTacIn
import Derived.Sort.BigQuietIn
import Derived.Test.YtjniljndnnoegaaRound
namespace Go.Proofs.Ytjniljndnnoegaa
open Go Go.RowKit Go.Shelf
set_option linter.unusedVariables false
attribute [local go_sem] Oper.semAt_some

theorem turn_up (n : Nat) (hn : 3 ≤ n) (Bs : Nat) (a b c : Int) (hok : okB a b c = true) (w : World) (hBs : At3 w Bs a b c) :
    SeqUp Fence.wide n Try.prog 68 #[.pointer (some ⟨Bs, 0, none⟩)] encT (fun xs => xs.map (fun t : Turn => t.1) = turnsL (lo3 a b c) (mi3 a b c) (hi3 a b c)) 6 w := fun l J W hW hJ hY h0 =>
  turn1_in n hn l Bs a b c hok J W hJ hY (by
    have hlt := World.block_lt_of_cell? w _ hBs.1
    exact ⟨(hW.cell (p := ⟨Bs, 0, none⟩) hlt).trans hBs.1, (hW.cell (p := ⟨Bs, 1, none⟩) hlt).trans hBs.2.1, (hW.cell (p := ⟨Bs, 2, none⟩) hlt).trans hBs.2.2⟩) h0

set_option maxHeartbeats 1000000 in
set_option maxRecDepth 100000 in
theorem ipaper_in (a b c : Int) (hok : okB a b c = true) (w : World) (ha : I8s a b c) :
    CallsIn Fence.wide 5 Try.prog 33 #[.agg #[.int .i8 a, .int .i8 b, .int .i8 c]] w fun e w' => e = .returned (.tuple #[.int .i64 (papOf (turnsL (lo3 a b c) (mi3 a b c) (hi3 a b c))).1, .int .i64 (papOf (turnsL (lo3 a b c) (mi3 a b c) (hi3 a b c))).2, .int .i64 0]) ∧ Below w.heap.size w w' := by
  have hro : Fence.wide.round = none := rfl
  have hFF : ∀ f, Fence.wide.fn f := fun _ => trivial
  obtain ⟨W1, e1⟩ : ∃ W, w.alloc (.cells #[.int .i8 a, .int .i8 b, .int .i8 c] 26) = W := ⟨_, rfl⟩
  have q1 : At3 W1 w.heap.size a b c := by rw [← e1]; exact At3.new _ _ _ _ _
  have b1 : Below w.heap.size w W1 := by rw [← e1]; exact (Below.refl _ _).alloc (Nat.le_refl _) _
  have hvb := (callsIn_wide (n := 4)).2 (ivbox_any a b c W1 ha)
  rw [hok] at hvb
  have HVB := Lib.hid hvb
  have E1 := Lib.hid e1
  have Q1 := Lib.hid q1
  have B1 := Lib.hid b1
  have HOK := Lib.hid hok
  clear e1 q1 b1 hvb hok ha
  refine callsIn_of_wp_marks Try.func33 rfl (hFF _) ?_ hro
  simp only [Try.ntmps33, List.size_toArray, List.length_cons, List.length_nil, Nat.reduceAdd, Nat.reduceSub, Array.replicate_succ, Array.replicate_zero, List.push_toArray, List.append_toArray, List.nil_append, List.cons_append]
  gi_wp2
  rw [E1.out]
  refine HVB.out.mono ?_
  rintro e w2 ⟨rfl, b2⟩
  have q2 := Q1.out.below b2
  have g0 := q2.1
  have g1 := q2.2.1
  have g2 := q2.2.2
  have hlt : w.heap.size < w2.heap.size := World.block_lt_of_cell? w2 _ g0
  have HB2 := Lib.hid (blink B1.out b2)
  have Q2 := Lib.hid q2
  clear b2 q2
  gi_wp2
  obtain ⟨W3, e3⟩ : ∃ V, w2.alloc (.cells #[.int .i64 400] 2) = V := ⟨_, rfl⟩
  have s3 : W3.heap.size = w2.heap.size + 1 := by rw [← e3]; simp
  obtain ⟨W4, e4⟩ : ∃ V, W3.alloc (.cells #[.int .i64 400] 2) = V := ⟨_, rfl⟩
  have s4 : W4.heap.size = w2.heap.size + 1 + 1 := by rw [← e4]; simp [s3]
  have k3 : BlockI W3 w2.heap.size 2 [400] := by rw [← e3]; exact BlockI.new _ _ [400]
  have k4 : BlockI W4 w2.heap.size 2 [400] := by rw [← e4]; exact k3.alloc _
  have l4 : BlockI W4 (w2.heap.size + 1) 2 [400] := by rw [← e4, ← s3]; exact BlockI.new _ _ [400]
  have b4 : Below w.heap.size w W4 := by rw [← e4]; refine Below.alloc ?_ (by omega) _; rw [← e3]; exact HB2.out.alloc (by omega) _
  rw [e3, e4]
  refine ((callsIn_wide (n := 4)).2 (iturns_any a b c W4)).mono ?_
  rintro e w5 ⟨rfl, hw5⟩
  have q5 : At3 w5 W4.heap.size a b c := by rw [hw5]; exact At3.new _ _ _ _ _
  have s5 : w5.heap.size = w2.heap.size + 1 + 1 + 1 := by rw [hw5]; simp [s4]
  have k5 : BlockI w5 w2.heap.size 2 [400] := by rw [hw5]; exact k4.alloc _
  have l5 : BlockI w5 (w2.heap.size + 1) 2 [400] := by rw [hw5]; exact l4.alloc _
  have b5 : Below w.heap.size w w5 := by rw [hw5]; exact b4.alloc (by omega) _
  rw [s4] at q5
  have hs2 : w.heap.size ≤ w2.heap.size := by omega
  clear hw5 e3 e4 k3 k4 l4 b4 g0 g1 g2
  gi_wp2
  skip
  refine wpIn_range_upA (α := Turn) hro (by omega) (gf := 68) (lb := #[.pointer (some ⟨w2.heap.size + 1 + 1, 0, none⟩)]) rfl (hFF _) (enters_of Try.func68 (by kernel_rfl) rfl)
    (turn_up 4 (by omega) (w2.heap.size + 1 + 1) a b c HOK.out w5 q5) (Below.refl _ _) (fun _ => rfl)
    (fun pre W => (BlockI W w2.heap.size 2 [(papOf (pre.map (fun t : Turn => t.1))).1] ∧ BlockI W (w2.heap.size + 1) 2 [(papOf (pre.map (fun t : Turn => t.1))).2]) ∧ Below w.heap.size w W)
    (UpFrom.and (fun s A B row hs hg hr => ⟨(hg.block _ hs.1.lt (fun e => by have := hr _ e.symm; omega)).trans hs.1, (hg.block _ hs.2.lt (fun e => by have := hr _ e.symm; omega)).trans hs.2⟩) (upFrom_below (Nat.le_refl _) (by omega)))
    ⟨⟨k5, l5⟩, b5⟩
    (fun x b' => { tmps := #[.agg #[.int .i8 a, .int .i8 b, .int .i8 c], .pointer (some ⟨w.heap.size, 0, none⟩), .int .i64 0, .int .i64 0, .int .i64 0, .pointer (some ⟨w2.heap.size, 0, none⟩), .pointer (some ⟨w2.heap.size + 1, 0, none⟩), .pointer (some ⟨b', 0, none⟩), undef, undef, undef, undef,
      .agg #[.int .i8 a, .int .i8 b, .int .i8 c], .bool true, .bool false, .agg #[.int .i8 a, .int .i8 b, .int .i8 c], .func (.func 68) #[] #[.pointer (some ⟨w2.heap.size + 1 + 1, 0, none⟩)], .agg #[.int .i8 x.1.1, .int .i8 x.1.2.1, .int .i8 x.1.2.2],
      undef, undef, undef, undef, undef, undef, undef, undef, undef, undef, undef, undef, undef, undef, undef, undef, undef, undef, undef, undef, undef, undef, undef, undef, undef, undef, undef, undef], defers := [] })
    (fun x => .cells #[.int .i8 x.1.1, .int .i8 x.1.2.1, .int .i8 x.1.2.2] 26) ?assign ?body ?done
  case assign =>
    intro l x W K hK
    unfold encT
    gi_wp2
    exact hK
  case body =>
    rintro l pre x b' W ⟨⟨kA, kB⟩, hB⟩ hpl hbge hbx
    have hb3 : Blk3 W b' 26 x.1.1 x.1.2.1 x.1.2.2 := hbx
    have c0 := hb3.at3.1
    have c1 := hb3.at3.2.1
    have c2 := hb3.at3.2.2
    have har := CallsIn.inRound l ((callsIn_wide (n := 2)).2 (iaround_any x.1 x.2 W))
    have hbd := need_bd x.2
    have hab := area_bd x.2
    have hpb := papOf_bd pre
    have hsn : papOf ((pre ++ [x]).map (fun t : Turn => t.1)) = papStep (papOf (pre.map (fun t : Turn => t.1))) x.1 := by rw [List.map_append]; exact papOf_snoc _ _
    obtain ⟨s, hs⟩ : ∃ s, papOf (pre.map (fun t : Turn => t.1)) = s := ⟨_, rfl⟩
    rw [hs] at kA kB hpb hsn
    obtain ⟨sw, sl⟩ := s
    obtain ⟨nw, hnw⟩ : ∃ v, needW x.1 = v := ⟨_, rfl⟩
    obtain ⟨nl, hnl⟩ : ∃ v, needL x.1 = v := ⟨_, rfl⟩
    unfold papStep at hsn
    rw [hnw, hnl] at hbd hab har hsn
    obtain ⟨p1, p2, p3, p4⟩ := hpb
    simp only at p1 p2 p3 p4 kA kB hsn
    have hsb := mul_bd p1 p2 p3 p4
    obtain ⟨n1, n2, n3, n4⟩ := hbd
    obtain ⟨m1, m2⟩ := hab
    obtain ⟨m3, m4⟩ := hsb
    have HAR := Lib.hid har
    have HSN := Lib.hid hsn
    have KA := Lib.hid kA
    have KB := Lib.hid kB
    have HB := Lib.hid hB
    clear har hsn kA kB hB hs hnw hnl hb3 hbx hpl
    gi_wp2
    refine HAR.out.mono ?_
    rintro e W2 ⟨rfl, b2⟩
    have KA2 : Hid (BlockI W2 w2.heap.size 2 [sw]) := Lib.hid ((b2.block _ KA.out.lt).trans KA.out)
    have KB2 : Hid (BlockI W2 (w2.heap.size + 1) 2 [sl]) := Lib.hid ((b2.block _ KB.out.lt).trans KB.out)
    have HB2' := Lib.hid (blink HB.out b2)
    have HU : Hid (KeepsUp w5.heap.size W W2) := Lib.hid (KeepsUp.below b2)
    have d0 := KA2.out.cell 0 (by simp)
    have d1 := KB2.out.cell 0 (by simp)
    have f0 := KA2.out.frozen 0
    have f1 := KB2.out.frozen 0
    simp at d0 d1
    clear b2
    have HU0 : Hid (∀ m, KeepsUp w5.heap.size W (W2.drewN m)) := Lib.hid (fun m => HU.out.trans (KeepsUp.below (bdrewN (w := W2) m)))
    have HB0 : Hid (∀ m, Below w.heap.size w (W2.drewN m)) := Lib.hid (fun m => below_drewN HB2'.out m)
    have HU3 : Hid (∀ m, KeepsUp w5.heap.size W (((W2.drewN m).setCell ⟨w2.heap.size, 0, none⟩ (.int .i64 nw)).setCell ⟨w2.heap.size + 1, 0, none⟩ (.int .i64 nl))) := Lib.hid (fun m => by
      have h1 : KeepsUp w5.heap.size (W2.drewN m) ((W2.drewN m).setCell ⟨w2.heap.size, 0, none⟩ (.int .i64 nw)) := KeepsUp.grown (grown_cell (W2.drewN m) ⟨w2.heap.size, 0, none⟩ (.int .i64 nw)) (fun r e => by cases e; show w2.heap.size < w5.heap.size; omega)
      have h2 : KeepsUp w5.heap.size ((W2.drewN m).setCell ⟨w2.heap.size, 0, none⟩ (.int .i64 nw)) (((W2.drewN m).setCell ⟨w2.heap.size, 0, none⟩ (.int .i64 nw)).setCell ⟨w2.heap.size + 1, 0, none⟩ (.int .i64 nl)) := KeepsUp.grown (grown_cell ((W2.drewN m).setCell ⟨w2.heap.size, 0, none⟩ (.int .i64 nw)) ⟨w2.heap.size + 1, 0, none⟩ (.int .i64 nl)) (fun r e => by cases e; show w2.heap.size + 1 < w5.heap.size; omega)
      exact ((HU0.out m).trans h1).trans h2)
    have HB3 : Hid (∀ m, Below w.heap.size w (((W2.drewN m).setCell ⟨w2.heap.size, 0, none⟩ (.int .i64 nw)).setCell ⟨w2.heap.size + 1, 0, none⟩ (.int .i64 nl))) := Lib.hid (fun m => ((HB0.out m).setCell (p := ⟨w2.heap.size, 0, none⟩) hs2 (.int .i64 nw)).setCell (p := ⟨w2.heap.size + 1, 0, none⟩) (by show w.heap.size ≤ w2.heap.size + 1; omega) (.int .i64 nl))
    have KA3 : Hid (∀ m, BlockI (((W2.drewN m).setCell ⟨w2.heap.size, 0, none⟩ (.int .i64 nw)).setCell ⟨w2.heap.size + 1, 0, none⟩ (.int .i64 nl)) w2.heap.size 2 [nw]) := Lib.hid (fun m => (BlockI.set (W := W2.drewN m) KA2.out 0 nw).other ⟨w2.heap.size + 1, 0, none⟩ (.int .i64 nl) (by simp))
    have KB3 : Hid (∀ m, BlockI (((W2.drewN m).setCell ⟨w2.heap.size, 0, none⟩ (.int .i64 nw)).setCell ⟨w2.heap.size + 1, 0, none⟩ (.int .i64 nl)) (w2.heap.size + 1) 2 [nl]) := Lib.hid (fun m => (BlockI.other (W := W2.drewN m) KB2.out ⟨w2.heap.size, 0, none⟩ (.int .i64 nw) (by simp)).set 0 nl)
    by_cases h1 : nw * nl < sw * sl
    · have t1 : decide (nw * nl < sw * sl) = true := decide_eq_true h1
      have HS2 : Hid (papOf ((pre ++ [x]).map (fun t : Turn => t.1)) = (nw, nl)) := Lib.hid (by rw [HSN.out, if_pos (Or.inl h1)])
      gi_wp2
      refine region_round l rfl (by kernel_rfl) (by kernel_rfl) (by kernel_rfl) ?_
      repeat (gi_big_quiet_step (fail))
      refine wpQuietIn_nil ?_
      rintro _ ⟨nq, rfl⟩
      gi_wp2
      exact ⟨HU3.out nq, ⟨by rw [HS2.out]; exact KA3.out nq, by rw [HS2.out]; exact KB3.out nq⟩, HB3.out nq⟩
    · have t1 : decide (nw * nl < sw * sl) = false := decide_eq_false h1
      by_cases h2 : nw * nl = sw * sl
      · have t2 : (nw * nl == sw * sl) = true := by simp [h2]
        by_cases h3 : nw < sw
        · have t3 : decide (nw < sw) = true := decide_eq_true h3
          have H23 := Lib.hid (And.intro h2 h3)
          clear h2
          have HS2 : Hid (papOf ((pre ++ [x]).map (fun t : Turn => t.1)) = (nw, nl)) := Lib.hid (by rw [HSN.out, if_pos (Or.inr H23.out)])
          gi_wp2
          refine region_round l rfl (by kernel_rfl) (by kernel_rfl) (by kernel_rfl) ?_
          repeat (gi_big_quiet_step (fail))
          refine wpQuietIn_nil ?_
          rintro _ ⟨nq, rfl⟩
          gi_wp2
          exact ⟨HU3.out nq, ⟨by rw [HS2.out]; exact KA3.out nq, by rw [HS2.out]; exact KB3.out nq⟩, HB3.out nq⟩
        · have t3 : decide (nw < sw) = false := decide_eq_false h3
          have H13 : Hid (¬ (nw * nl < sw * sl ∨ nw * nl = sw * sl ∧ nw < sw)) := Lib.hid (fun h => h.elim h1 (fun g => h3 g.2))
          clear h2
          have HS2 : Hid (papOf ((pre ++ [x]).map (fun t : Turn => t.1)) = (sw, sl)) := Lib.hid (by rw [HSN.out, if_neg H13.out])
          gi_wp2
          refine region_round l rfl (by kernel_rfl) (by kernel_rfl) (by kernel_rfl) ?_
          repeat (gi_big_quiet_step (fail))
          refine wpQuietIn_nil ?_
          rintro _ ⟨nq, rfl⟩
          gi_wp2
          exact ⟨HU0.out nq, ⟨by rw [HS2.out]; exact KA2.out, by rw [HS2.out]; exact KB2.out⟩, HB0.out nq⟩
      · have t2 : (nw * nl == sw * sl) = false := by simp [h2]
        have H12 : Hid (¬ (nw * nl < sw * sl ∨ nw * nl = sw * sl ∧ nw < sw)) := Lib.hid (fun h => h.elim h1 (fun g => h2 g.1))
        have HS2 : Hid (papOf ((pre ++ [x]).map (fun t : Turn => t.1)) = (sw, sl)) := Lib.hid (by rw [HSN.out, if_neg H12.out])
        gi_wp2
        refine region_round l rfl (by kernel_rfl) (by kernel_rfl) (by kernel_rfl) ?_
        repeat (gi_big_quiet_step (fail))
        refine wpQuietIn_nil ?_
        rintro _ ⟨nq, rfl⟩
        gi_wp2
        exact ⟨HU0.out nq, ⟨by rw [HS2.out]; exact KA2.out, by rw [HS2.out]; exact KB2.out⟩, HB0.out nq⟩
  case done =>
    rintro D ys W hD hys ⟨⟨kA, kB⟩, hB⟩ hK
    rw [hys] at kA kB
    obtain ⟨s, hs⟩ : ∃ s, papOf (turnsL (lo3 a b c) (mi3 a b c) (hi3 a b c)) = s := ⟨_, rfl⟩
    rw [hs] at kA kB
    have HS := Lib.hid hs
    have d0 := kA.cell 0 (by simp)
    have d1 := kB.cell 0 (by simp)
    simp at d0 d1
    have HB := Lib.hid hB
    have HK := Lib.hid hK
    clear hs hys kA kB hB hK
    gi_wp2
    gi_quiet_th (fail)
    gi_wp2
    have hKf : (W.drewN nq).heap[D]? = some (.deferred (some [])) := HK.out
    refine ⟨by simp, .inl ⟨_, _, rfl, run_takeDeferred hKf, ?_⟩⟩
    refine ⟨.tuple #[.int .i64 s.1, .int .i64 s.2, .int .i64 0], by simp [results, Try.results33, go_sem], by rw [HS.out], ?_⟩
    exact Below.trans (below_drewN HB.out nq) (belowK_b (w := w) (Nat.le_refl _) _ D _ _ (by omega) hKf rfl rfl)
end Go.Proofs.Ytjniljndnnoegaa
