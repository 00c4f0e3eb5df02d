/-
  The contract of impl.leastCut.
-/
import Derived.Test.YtpefkdhmkamdaaaPaper
namespace Go.Proofs.Ytpefkdhmkamdaaa
open Go Go.RowKit Go.Shelf
set_option linter.unusedVariables false
attribute [local go_sem] Oper.semAt_some

theorem Boxed.alloc {W : World} {B : Nat} {t : TypeId} {v : Value} (h : Boxed W B t v) (o : Obj) : Boxed (W.alloc o) B t v := (heap_alloc_old _ _ (Array.getElem?_eq_some_iff.1 h).1).trans h
theorem BlockI.eq1 {W : World} {B : Nat} {T : TypeId} {v u : Int} (h : BlockI W B T [v]) (e : v = u) : BlockI W B T [u] := by subst e; exact h
def foundOf (b : Int) : Bool := decide (0 ≤ b)
/-- The program's two steps, on the least length so far and on whether there is one. -/
theorem cut_step {wide b : Int} {t : Tri} (hb : CutBd b) (ht : OkT t) :
    leastOf (cutStep wide b t) = (if needL t ≤ wide then (if needW t < (if needW t ≤ wide then (if needL t < leastOf b then needL t else leastOf b) else leastOf b) then needW t else (if needW t ≤ wide then (if needL t < leastOf b then needL t else leastOf b) else leastOf b)) else (if needW t ≤ wide then (if needL t < leastOf b then needL t else leastOf b) else leastOf b))
    ∧ foundOf (cutStep wide b t) = (foundOf b || decide (needW t ≤ wide) || decide (needL t ≤ wide)) := by
  have h := need_bd ht
  unfold CutBd at hb
  obtain ⟨nw, hnw⟩ : ∃ v, needW t = v := ⟨_, rfl⟩
  obtain ⟨nl, hnl⟩ : ∃ v, needL t = v := ⟨_, rfl⟩
  unfold cutStep
  dsimp only
  rw [hnw, hnl] at h ⊢
  unfold leastOf foundOf
  by_cases h1 : nw ≤ wide <;> by_cases h2 : nl ≤ wide <;> by_cases h3 : b < 0 <;> simp only [h1, h2, h3, true_and, false_and, true_or, false_or, if_true, if_false, decide_true, decide_false, Bool.or_true, Bool.or_false]
  all_goals
    refine ⟨?_, ?_⟩
    · (repeat' split) <;> omega
    · first | rfl | exact decide_eq_true (by (repeat' split) <;> omega) | exact decide_eq_false (by (repeat' split) <;> omega)

set_option maxHeartbeats 1000000 in
set_option maxRecDepth 100000 in
theorem ileast_in (a b c wide : Int) (hok : okB a b c = true) (w : World) :
    CallsIn Fence.wide 5 Try.prog 24 #[.agg #[.int .i8 a, .int .i8 b, .int .i8 c], .int .i64 wide] w fun e w' => e = .returned (.tuple #[.int .i64 (leastOf (cutOf wide (turnsL (lo3 a b c) (mi3 a b c) (hi3 a b c)))), .bool (foundOf (cutOf wide (turnsL (lo3 a b c) (mi3 a b c) (hi3 a b c))))]) ∧ Below w.heap.size w w' := by
  have hro : Fence.wide.round = none := rfl
  have hFF : ∀ f, Fence.wide.fn f := fun _ => trivial
  obtain ⟨V1, e1⟩ : ∃ W, w.alloc (.cells #[.int .i8 a, .int .i8 b, .int .i8 c] 27) = W := ⟨_, rfl⟩
  have s1 : V1.heap.size = w.heap.size + 1 := by rw [← e1]; simp
  have q1 : At3 V1 w.heap.size a b c := by rw [← e1]; exact At3.new _ _ _ _ _
  obtain ⟨w2, e2⟩ : ∃ W, V1.alloc (.cells #[.int .i64 wide] 2) = W := ⟨_, rfl⟩
  have s2 : w2.heap.size = w.heap.size + 1 + 1 := by rw [← e2]; simp [s1]
  have q2 : At3 w2 w.heap.size a b c := by rw [← e2]; exact q1.alloc _
  have k2 : BlockI w2 (w.heap.size + 1) 2 [wide] := by rw [← e2, ← s1]; exact BlockI.new _ _ [wide]
  have b2 : Below w.heap.size w w2 := by rw [← e2]; refine Below.alloc ?_ (by omega) _; rw [← e1]; exact (Below.refl _ _).alloc (Nat.le_refl _) _
  obtain ⟨W3, e3⟩ : ∃ V, w2.alloc (.cells #[.int .i64 400] 2) = V := ⟨_, rfl⟩
  have s3 : W3.heap.size = w.heap.size + 1 + 1 + 1 := by rw [← e3]; simp [s2]
  obtain ⟨W4, e4⟩ : ∃ V, W3.alloc (.cells #[.bool false] 4) = V := ⟨_, rfl⟩
  have s4 : W4.heap.size = w.heap.size + 1 + 1 + 1 + 1 := by rw [← e4]; simp [s3]
  have k3 : BlockI W3 (w.heap.size + 1 + 1) 2 [400] := by rw [← e3, ← s2]; exact BlockI.new _ _ [400]
  have k4 : BlockI W4 (w.heap.size + 1 + 1) 2 [400] := by rw [← e4]; exact k3.alloc _
  have m4 : BlockI W4 (w.heap.size + 1) 2 [wide] := by rw [← e4]; refine BlockI.alloc ?_ _; rw [← e3]; exact k2.alloc _
  have l4 : Boxed W4 (w.heap.size + 1 + 1 + 1) 4 (.bool false) := by rw [← e4, ← s3]; exact Boxed.new _ _ _
  have q4 : At3 W4 w.heap.size a b c := by rw [← e4]; refine At3.alloc ?_ _; rw [← e3]; exact q2.alloc _
  have b4 : Below w.heap.size w W4 := by rw [← e4]; refine Below.alloc ?_ (by omega) _; rw [← e3]; exact b2.alloc (by omega) _
  have hit := (callsIn_wide (n := 4)).2 (iturns_any a b c W4)
  rw [s4] at hit
  have HIT := Lib.hid hit
  have E := Lib.hid (And.intro e1 (And.intro e2 (And.intro e3 e4)))
  have S4 := Lib.hid s4
  have K4 := Lib.hid k4
  have M4 := Lib.hid m4
  have L4 := Lib.hid l4
  have Q4 := Lib.hid q4
  have B4 := Lib.hid b4
  have HOK := Lib.hid hok
  clear s1 q1 s2 q2 k2 b2 s3 k3 hit s4 k4 m4 l4 q4 b4 hok e1 e2 e3 e4
  refine callsIn_of_wp_marks Try.func24 rfl (hFF _) ?_ hro
  simp only [Try.ntmps24, List.size_toArray, List.length_cons, List.length_nil, Nat.reduceAdd, Nat.reduceSub, Array.replicate_succ, Array.replicate_zero, List.push_toArray, List.append_toArray, List.nil_append, List.cons_append]
  gi_wp2
  rw [E.out.1, E.out.2.1, E.out.2.2.1, E.out.2.2.2]
  refine HIT.out.mono ?_
  rintro e w5 ⟨rfl, hw5⟩
  have q5 : At3 w5 (w.heap.size + 1 + 1 + 1 + 1) a b c := by rw [hw5, ← S4.out]; exact At3.new _ _ _ _ _
  have s5 : w5.heap.size = w.heap.size + 1 + 1 + 1 + 1 + 1 := by rw [hw5]; simp [S4.out]
  have k5 : BlockI w5 (w.heap.size + 1 + 1) 2 [400] := by rw [hw5]; exact K4.out.alloc _
  have m5 : BlockI w5 (w.heap.size + 1) 2 [wide] := by rw [hw5]; exact M4.out.alloc _
  have l5 : Boxed w5 (w.heap.size + 1 + 1 + 1) 4 (.bool false) := by rw [hw5]; exact L4.out.alloc _
  have b5 : Below w.heap.size w w5 := by rw [hw5]; exact B4.out.alloc (by have := S4.out; omega) _
  clear hw5
  gi_wp2
  have hwb : True := trivial
  skip
  refine wpIn_range_upA (α := Turn) hro (by omega) (gf := 34) (lb := #[.pointer (some ⟨w.heap.size + 1 + 1 + 1 + 1, 0, none⟩)]) rfl (hFF _) (enters_of Try.func34 (by kernel_rfl) rfl)
    (turn_up 4 (by omega) (w.heap.size + 1 + 1 + 1 + 1) a b c HOK.out w5 q5) (Below.refl _ _) (fun _ => rfl)
    (fun pre W => (BlockI W (w.heap.size + 1 + 1) 2 [leastOf (cutOf wide (pre.map (fun t : Turn => t.1)))] ∧ Boxed W (w.heap.size + 1 + 1 + 1) 4 (.bool (foundOf (cutOf wide (pre.map (fun t : Turn => t.1))))) ∧ BlockI W (w.heap.size + 1) 2 [wide]) ∧ Below w.heap.size w W)
    (UpFrom.and (fun s A B row hs hg hr => ⟨(hg.block _ hs.1.lt (fun e => by have := hr _ e.symm; omega)).trans hs.1, (hg.block _ (Array.getElem?_eq_some_iff.1 hs.2.1).1 (fun e => by have := hr _ e.symm; omega)).trans hs.2.1, (hg.block _ hs.2.2.lt (fun e => by have := hr _ e.symm; omega)).trans hs.2.2⟩) (upFrom_below (Nat.le_refl _) (by omega)))
    ⟨⟨k5, l5, m5⟩, b5⟩
    (fun x b' => { tmps := #[.agg #[.int .i8 a, .int .i8 b, .int .i8 c], .int .i64 wide, .pointer (some ⟨w.heap.size, 0, none⟩), .pointer (some ⟨w.heap.size + 1, 0, none⟩), .int .i64 0, .bool false, .pointer (some ⟨w.heap.size + 1 + 1, 0, none⟩), .pointer (some ⟨w.heap.size + 1 + 1 + 1, 0, none⟩), .pointer (some ⟨b', 0, none⟩), undef, undef,
      .agg #[.int .i8 a, .int .i8 b, .int .i8 c], .func (.func 34) #[] #[.pointer (some ⟨w.heap.size + 1 + 1 + 1 + 1, 0, none⟩)], .agg #[.int .i8 x.1.1, .int .i8 x.1.2.1, .int .i8 x.1.2.2],
      undef, undef, undef, undef, undef, undef, undef, undef, undef, undef, undef, undef, undef, undef, undef, undef, undef, undef, undef], defers := [] })
    (fun x => .cells #[.int .i8 x.1.1, .int .i8 x.1.2.1, .int .i8 x.1.2.2] 27) ?assign ?body ?done
  case assign =>
    intro l x W K hK
    unfold encT
    gi_wp2
    exact hK
  case body =>
    rintro l pre x b' W ⟨⟨kA, kB, kM⟩, hB⟩ hpl hbge hbx
    have hb3 : Blk3 W b' 27 x.1.1 x.1.2.1 x.1.2.2 := hbx
    have c0 := hb3.at3.1
    have c1 := hb3.at3.2.1
    have c2 := hb3.at3.2.2
    have har := CallsIn.inRound l ((callsIn_wide (n := 2)).2 (iaround_any x.1 x.2 W))
    have hbd := need_bd x.2
    have hcb := cutOf_bd wide pre
    have hsn : cutOf wide ((pre ++ [x]).map (fun t : Turn => t.1)) = cutStep wide (cutOf wide (pre.map (fun t : Turn => t.1))) x.1 := by rw [List.map_append]; exact cutOf_snoc _ _ _
    have hst := cut_step (wide := wide) hcb x.2
    rw [← hsn] at hst
    obtain ⟨s, hs⟩ : ∃ s, cutOf wide (pre.map (fun t : Turn => t.1)) = s := ⟨_, rfl⟩
    rw [hs] at kA kB hcb hst
    obtain ⟨le, hle⟩ : ∃ v, leastOf s = v := ⟨_, rfl⟩
    obtain ⟨fo, hfo⟩ : ∃ v, foundOf s = v := ⟨_, rfl⟩
    have hleb : -1 ≤ le ∧ le ≤ 400 := by rw [← hle]; unfold leastOf; unfold CutBd at hcb; split <;> omega
    obtain ⟨nw, hnw⟩ : ∃ v, needW x.1 = v := ⟨_, rfl⟩
    obtain ⟨nl, hnl⟩ : ∃ v, needL x.1 = v := ⟨_, rfl⟩
    rw [hle] at kA hst
    rw [hfo] at kB hst
    rw [hnw, hnl] at hbd har hst
    obtain ⟨n1, n2, n3, n4⟩ := hbd
    obtain ⟨l1, l2⟩ := hleb
    have HAR := Lib.hid har
    have HST := Lib.hid hst
    have KA := Lib.hid kA
    have KB := Lib.hid kB
    have KM := Lib.hid kM
    have HB := Lib.hid hB
    clear har hst hsn kA kB kM hB hs hnw hnl hb3 hbx hpl hle hfo hcb
    gi_wp2
    refine HAR.out.mono ?_
    rintro e W2 ⟨rfl, b2⟩
    have KA2 : Hid (BlockI W2 (w.heap.size + 1 + 1) 2 [le]) := Lib.hid ((b2.block _ KA.out.lt).trans KA.out)
    have KB2 : Hid (Boxed W2 (w.heap.size + 1 + 1 + 1) 4 (.bool fo)) := Lib.hid ((b2.block _ (Array.getElem?_eq_some_iff.1 KB.out).1).trans KB.out)
    have KM2 : Hid (BlockI W2 (w.heap.size + 1) 2 [wide]) := Lib.hid ((b2.block _ KM.out.lt).trans KM.out)
    have HB2' := Lib.hid (blink HB.out b2)
    have HU : Hid (KeepsUp (w.heap.size + 1 + 1 + 1 + 1 + 1) W W2) := Lib.hid (KeepsUp.below b2)
    have d0 := KA2.out.cell 0 (by simp)
    have d1 := KB2.out.cell
    have d2 := KM2.out.cell 0 (by simp)
    have f0 := KA2.out.frozen 0
    have f1 := frozen_of_row W2 _ 0 _ _ KB2.out
    simp at d0 d2
    clear b2
    have hAB : w.heap.size + 1 + 1 ≠ w.heap.size + 1 + 1 + 1 := by omega
    have hMA : w.heap.size + 1 ≠ w.heap.size + 1 + 1 := by omega
    have hMB : w.heap.size + 1 ≠ w.heap.size + 1 + 1 + 1 := by omega
    have two : ∀ (V : World) (u : Int) (g : Bool), KeepsUp (w.heap.size + 1 + 1 + 1 + 1 + 1) W V → BlockI V (w.heap.size + 1 + 1) 2 [u] → Boxed V (w.heap.size + 1 + 1 + 1) 4 (.bool g) → BlockI V (w.heap.size + 1) 2 [wide] → Below w.heap.size w V → ∀ v1, KeepsUp (w.heap.size + 1 + 1 + 1 + 1 + 1) W ((V.setCell ⟨w.heap.size + 1 + 1, 0, none⟩ (.int .i64 v1)).setCell ⟨w.heap.size + 1 + 1 + 1, 0, none⟩ (.bool true)) ∧ BlockI ((V.setCell ⟨w.heap.size + 1 + 1, 0, none⟩ (.int .i64 v1)).setCell ⟨w.heap.size + 1 + 1 + 1, 0, none⟩ (.bool true)) (w.heap.size + 1 + 1) 2 [v1] ∧ Boxed ((V.setCell ⟨w.heap.size + 1 + 1, 0, none⟩ (.int .i64 v1)).setCell ⟨w.heap.size + 1 + 1 + 1, 0, none⟩ (.bool true)) (w.heap.size + 1 + 1 + 1) 4 (.bool true) ∧ BlockI ((V.setCell ⟨w.heap.size + 1 + 1, 0, none⟩ (.int .i64 v1)).setCell ⟨w.heap.size + 1 + 1 + 1, 0, none⟩ (.bool true)) (w.heap.size + 1) 2 [wide] ∧ Below w.heap.size w ((V.setCell ⟨w.heap.size + 1 + 1, 0, none⟩ (.int .i64 v1)).setCell ⟨w.heap.size + 1 + 1 + 1, 0, none⟩ (.bool true)) := by
      intro V u g hk ha hb hm hl v1
      have k1 : KeepsUp (w.heap.size + 1 + 1 + 1 + 1 + 1) V (V.setCell ⟨w.heap.size + 1 + 1, 0, none⟩ (.int .i64 v1)) := KeepsUp.grown (grown_cell V ⟨w.heap.size + 1 + 1, 0, none⟩ (.int .i64 v1)) (fun r e => by cases e; show w.heap.size + 1 + 1 < (w.heap.size + 1 + 1 + 1 + 1 + 1); omega)
      have k2 : KeepsUp (w.heap.size + 1 + 1 + 1 + 1 + 1) (V.setCell ⟨w.heap.size + 1 + 1, 0, none⟩ (.int .i64 v1)) ((V.setCell ⟨w.heap.size + 1 + 1, 0, none⟩ (.int .i64 v1)).setCell ⟨w.heap.size + 1 + 1 + 1, 0, none⟩ (.bool true)) := KeepsUp.grown (grown_cell (V.setCell ⟨w.heap.size + 1 + 1, 0, none⟩ (.int .i64 v1)) ⟨w.heap.size + 1 + 1 + 1, 0, none⟩ (.bool true)) (fun r e => by cases e; show w.heap.size + 1 + 1 + 1 < (w.heap.size + 1 + 1 + 1 + 1 + 1); omega)
      refine ⟨(hk.trans k1).trans k2, ?_, ?_, ?_, ?_⟩
      · exact (ha.set 0 v1).other ⟨w.heap.size + 1 + 1 + 1, 0, none⟩ (.bool true) hAB
      · exact Boxed.set (.bool true) (Boxed.other hb hAB.symm (.int .i64 v1))
      · exact (hm.other ⟨w.heap.size + 1 + 1, 0, none⟩ (.int .i64 v1) hMA).other ⟨w.heap.size + 1 + 1 + 1, 0, none⟩ (.bool true) hMB
      · exact (hl.setCell (p := ⟨w.heap.size + 1 + 1, 0, none⟩) (by show w.heap.size ≤ w.heap.size + 1 + 1; omega) (.int .i64 v1)).setCell (p := ⟨w.heap.size + 1 + 1 + 1, 0, none⟩) (by show w.heap.size ≤ w.heap.size + 1 + 1 + 1; omega) (.bool true)
    have H2 : Hid (∀ v1, KeepsUp (w.heap.size + 1 + 1 + 1 + 1 + 1) W ((W2.setCell ⟨w.heap.size + 1 + 1, 0, none⟩ (.int .i64 v1)).setCell ⟨w.heap.size + 1 + 1 + 1, 0, none⟩ (.bool true)) ∧ BlockI ((W2.setCell ⟨w.heap.size + 1 + 1, 0, none⟩ (.int .i64 v1)).setCell ⟨w.heap.size + 1 + 1 + 1, 0, none⟩ (.bool true)) (w.heap.size + 1 + 1) 2 [v1] ∧ Boxed ((W2.setCell ⟨w.heap.size + 1 + 1, 0, none⟩ (.int .i64 v1)).setCell ⟨w.heap.size + 1 + 1 + 1, 0, none⟩ (.bool true)) (w.heap.size + 1 + 1 + 1) 4 (.bool true) ∧ BlockI ((W2.setCell ⟨w.heap.size + 1 + 1, 0, none⟩ (.int .i64 v1)).setCell ⟨w.heap.size + 1 + 1 + 1, 0, none⟩ (.bool true)) (w.heap.size + 1) 2 [wide] ∧ Below w.heap.size w ((W2.setCell ⟨w.heap.size + 1 + 1, 0, none⟩ (.int .i64 v1)).setCell ⟨w.heap.size + 1 + 1 + 1, 0, none⟩ (.bool true))) := Lib.hid (two W2 le fo HU.out KA2.out KB2.out KM2.out HB2'.out)
    have H4 : Hid (∀ v1 v2, KeepsUp (w.heap.size + 1 + 1 + 1 + 1 + 1) W ((((W2.setCell ⟨w.heap.size + 1 + 1, 0, none⟩ (.int .i64 v1)).setCell ⟨w.heap.size + 1 + 1 + 1, 0, none⟩ (.bool true)).setCell ⟨w.heap.size + 1 + 1, 0, none⟩ (.int .i64 v2)).setCell ⟨w.heap.size + 1 + 1 + 1, 0, none⟩ (.bool true)) ∧ BlockI ((((W2.setCell ⟨w.heap.size + 1 + 1, 0, none⟩ (.int .i64 v1)).setCell ⟨w.heap.size + 1 + 1 + 1, 0, none⟩ (.bool true)).setCell ⟨w.heap.size + 1 + 1, 0, none⟩ (.int .i64 v2)).setCell ⟨w.heap.size + 1 + 1 + 1, 0, none⟩ (.bool true)) (w.heap.size + 1 + 1) 2 [v2] ∧ Boxed ((((W2.setCell ⟨w.heap.size + 1 + 1, 0, none⟩ (.int .i64 v1)).setCell ⟨w.heap.size + 1 + 1 + 1, 0, none⟩ (.bool true)).setCell ⟨w.heap.size + 1 + 1, 0, none⟩ (.int .i64 v2)).setCell ⟨w.heap.size + 1 + 1 + 1, 0, none⟩ (.bool true)) (w.heap.size + 1 + 1 + 1) 4 (.bool true) ∧ BlockI ((((W2.setCell ⟨w.heap.size + 1 + 1, 0, none⟩ (.int .i64 v1)).setCell ⟨w.heap.size + 1 + 1 + 1, 0, none⟩ (.bool true)).setCell ⟨w.heap.size + 1 + 1, 0, none⟩ (.int .i64 v2)).setCell ⟨w.heap.size + 1 + 1 + 1, 0, none⟩ (.bool true)) (w.heap.size + 1) 2 [wide] ∧ Below w.heap.size w ((((W2.setCell ⟨w.heap.size + 1 + 1, 0, none⟩ (.int .i64 v1)).setCell ⟨w.heap.size + 1 + 1 + 1, 0, none⟩ (.bool true)).setCell ⟨w.heap.size + 1 + 1, 0, none⟩ (.int .i64 v2)).setCell ⟨w.heap.size + 1 + 1 + 1, 0, none⟩ (.bool true))) := Lib.hid (fun v1 v2 => by
      have h := H2.out v1
      exact two _ v1 true h.1 h.2.1 h.2.2.1 h.2.2.2.1 h.2.2.2.2 v2)
    clear two hAB hMA hMB
    by_cases h1 : nw ≤ wide
    · have t1 : decide (nw ≤ wide) = true := decide_eq_true h1
      by_cases h2 : nl ≤ wide
      · have t2 : decide (nl ≤ wide) = true := decide_eq_true h2
        have HF : Hid (foundOf (cutOf wide ((pre ++ [x]).map (fun t : Turn => t.1))) = true) := Lib.hid (by rw [HST.out.2, t1, t2]; simp)
        gi_wp2
        all_goals
          refine ⟨(H4.out _ _).1, ⟨(H4.out _ _).2.1.eq1 ?_, by rw [HF.out]; exact (H4.out _ _).2.2.1, (H4.out _ _).2.2.2.1⟩, (H4.out _ _).2.2.2.2⟩
          rw [HST.out.1]
          (repeat' split) <;> omega
      · have t2 : decide (nl ≤ wide) = false := decide_eq_false h2
        have HF : Hid (foundOf (cutOf wide ((pre ++ [x]).map (fun t : Turn => t.1))) = true) := Lib.hid (by rw [HST.out.2, t1, t2]; simp)
        gi_wp2
        all_goals
          refine ⟨(H2.out _).1, ⟨(H2.out _).2.1.eq1 ?_, by rw [HF.out]; exact (H2.out _).2.2.1, (H2.out _).2.2.2.1⟩, (H2.out _).2.2.2.2⟩
          rw [HST.out.1]
          (repeat' split) <;> omega
    · have t1 : decide (nw ≤ wide) = false := decide_eq_false h1
      by_cases h2 : nl ≤ wide
      · have t2 : decide (nl ≤ wide) = true := decide_eq_true h2
        have HF : Hid (foundOf (cutOf wide ((pre ++ [x]).map (fun t : Turn => t.1))) = true) := Lib.hid (by rw [HST.out.2, t1, t2]; simp)
        gi_wp2
        all_goals
          refine ⟨(H2.out _).1, ⟨(H2.out _).2.1.eq1 ?_, by rw [HF.out]; exact (H2.out _).2.2.1, (H2.out _).2.2.2.1⟩, (H2.out _).2.2.2.2⟩
          rw [HST.out.1]
          (repeat' split) <;> omega
      · have t2 : decide (nl ≤ wide) = false := decide_eq_false h2
        have HF : Hid (foundOf (cutOf wide ((pre ++ [x]).map (fun t : Turn => t.1))) = fo) := Lib.hid (by rw [HST.out.2, t1, t2]; simp)
        gi_wp2
        refine ⟨by first | exact HU.out | (rw [s5]; exact HU.out), ⟨KA2.out.eq1 ?_, by rw [HF.out]; exact KB2.out, KM2.out⟩, HB2'.out⟩
        rw [HST.out.1]
        (repeat' split) <;> omega
  case done =>
    rintro D ys W hD hys ⟨⟨kA, kB, kM⟩, hB⟩ hK
    rw [hys] at kA kB
    obtain ⟨s, hs⟩ : ∃ s, leastOf (cutOf wide (turnsL (lo3 a b c) (mi3 a b c) (hi3 a b c))) = s := ⟨_, rfl⟩
    obtain ⟨f, hf⟩ : ∃ f, foundOf (cutOf wide (turnsL (lo3 a b c) (mi3 a b c) (hi3 a b c))) = f := ⟨_, rfl⟩
    rw [hs] at kA
    rw [hf] at kB
    have HS := Lib.hid (And.intro hs hf)
    have d0 := kA.cell 0 (by simp)
    have d1 := kB.cell
    simp at d0
    have HB := Lib.hid hB
    have HK := Lib.hid hK
    clear hs hf hys kA kB kM hB hK
    gi_wp2
    gi_quiet_th (fail)
    gi_wp2
    have hKf : (W.drewN nq).heap[D]? = some (.deferred (some [])) := HK.out
    refine ⟨by simp, .inl ⟨_, _, rfl, run_takeDeferred hKf, ?_⟩⟩
    refine ⟨.tuple #[.int .i64 s, .bool f], by simp [results, Try.results24, go_sem], by rw [HS.out.1, HS.out.2], ?_⟩
    exact Below.trans (below_drewN HB.out nq) (belowK_b (w := w) (Nat.le_refl _) _ D _ _ (by omega) hKf rfl rfl)
end Go.Proofs.Ytpefkdhmkamdaaa
