/-
  The implementation's HeaviestFor.
-/
import Derived.Test.YtkhemijanhcibaaDoorHvP
import Derived.Test.YtkhemijanhcibaaDoorBackH
import Derived.Test.YtkhemijanhcibaaDoorRound
import Derived.Test.YtkhemijanhcibaaDoorBlock
import Derived.Outline
namespace Go.Proofs.YtkhemijanhcibaaDoor
open Go Go.RowKit Go.Shelf
set_option linter.unusedVariables false
attribute [local go_sem] Oper.semAt_some

theorem Blk2.kept {W W' : World} {B : Nat} {T : TypeId} {x y : Value} {row : Option Nat} (h : Blk2 W B T x y) (hg : W.grownBy W' row) (hr : ∀ r, row = some r → ∃ o : Obj, W.heap[r]? = some o ∧ o.isCells = false) : Blk2 W' B T x y := by
  refine (hg.block B h.lt (fun e => ?_)).trans h
  obtain ⟨o, h1, h2⟩ := hr B e.symm
  unfold Blk2 at h
  rw [h] at h1
  simp at h1
  subst h1
  simp [Obj.isCells] at h2
theorem KeepsOthers.drewN (W : World) (n : Nat) : KeepsOthers W (W.drewN n) := ⟨Nat.le_refl _, fun _ _ h _ => h⟩

/-- What every round leaves of the function's own blocks. -/
def HvBox (w : World) (v1 v2 : Value) (z p x y : Int) (W : World) : Prop :=
  (Blk2 W w.heap.size 29 v1 v2 ∧ BlockI W (w.heap.size + 1) 2 [z] ∧ BlockI W (w.heap.size + 2) 2 [p]) ∧ BlockI W (w.heap.size + 3) 2 [x] ∧ BlockI W (w.heap.size + 4) 2 [y]
theorem HvBox.kept {w : World} {v1 v2 : Value} {z p x y : Int} {W W' : World} {row : Option Nat} (h : HvBox w v1 v2 z p x y W) (hg : W.grownBy W' row) (hr : ∀ r, row = some r → ∃ o : Obj, W.heap[r]? = some o ∧ o.isCells = false) : HvBox w v1 v2 z p x y W' :=
  ⟨⟨h.1.1.kept hg hr, h.1.2.1.kept hg hr, h.1.2.2.kept hg hr⟩, h.2.1.kept hg hr, h.2.2.kept hg hr⟩
theorem BlockI.below' {W W' : World} {B : Nat} {T : TypeId} {L : List Int} (h : BlockI W B T L) (hb : Below W.heap.size W W') : BlockI W' B T L := (hb.block _ h.lt).trans h
theorem HvBox.below {w : World} {v1 v2 : Value} {z p x y : Int} {W W' : World} (h : HvBox w v1 v2 z p x y W) (hb : Below W.heap.size W W') : HvBox w v1 v2 z p x y W' :=
  ⟨⟨h.1.1.below hb, h.1.2.1.below' hb, h.1.2.2.below' hb⟩, h.2.1.below' hb, h.2.2.below' hb⟩
theorem HvBox.new (w : World) (v1 v2 : Value) (z p : Int) : HvBox w v1 v2 z p 0 0 (((((w.alloc (.cells #[v1, v2] 29)).alloc (.cells #[.int .i64 z] 2)).alloc (.cells #[.int .i64 p] 2)).alloc (.cells #[.int .i64 0] 2)).alloc (.cells #[.int .i64 0] 2)) := by
  obtain ⟨W1, e1⟩ : ∃ V, w.alloc (.cells #[v1, v2] 29) = V := ⟨_, rfl⟩
  have s1 : W1.heap.size = w.heap.size + 1 := by rw [← e1]; simp
  have q1 : Blk2 W1 w.heap.size 29 v1 v2 := by rw [← e1]; exact Blk2.new rfl _ _ _
  rw [e1]
  obtain ⟨W2, e2⟩ : ∃ V, W1.alloc (.cells #[.int .i64 z] 2) = V := ⟨_, rfl⟩
  have s2 : W2.heap.size = w.heap.size + 2 := by rw [← e2]; simp [s1]
  have q2 : BlockI W2 (w.heap.size + 1) 2 [z] := by rw [← e2, ← s1]; exact BlockI.new W1 _ [z]
  have q1 : Blk2 W2 w.heap.size 29 v1 v2 := by rw [← e2]; exact q1.alloc _
  rw [e2]
  obtain ⟨W3, e3⟩ : ∃ V, W2.alloc (.cells #[.int .i64 p] 2) = V := ⟨_, rfl⟩
  have s3 : W3.heap.size = w.heap.size + 3 := by rw [← e3]; simp [s2]
  have q3 : BlockI W3 (w.heap.size + 2) 2 [p] := by rw [← e3, ← s2]; exact BlockI.new W2 _ [p]
  have q1 : Blk2 W3 w.heap.size 29 v1 v2 := by rw [← e3]; exact q1.alloc _
  have q2 : BlockI W3 (w.heap.size + 1) 2 [z] := by rw [← e3]; exact q2.alloc _
  rw [e3]
  obtain ⟨W4, e4⟩ : ∃ V, W3.alloc (.cells #[.int .i64 0] 2) = V := ⟨_, rfl⟩
  have s4 : W4.heap.size = w.heap.size + 4 := by rw [← e4]; simp [s3]
  have q4 : BlockI W4 (w.heap.size + 3) 2 [0] := by rw [← e4, ← s3]; exact BlockI.new W3 _ [0]
  have q1 : Blk2 W4 w.heap.size 29 v1 v2 := by rw [← e4]; exact q1.alloc _
  have q2 : BlockI W4 (w.heap.size + 1) 2 [z] := by rw [← e4]; exact q2.alloc _
  have q3 : BlockI W4 (w.heap.size + 2) 2 [p] := by rw [← e4]; exact q3.alloc _
  rw [e4]
  have q5 : BlockI (W4.alloc (.cells #[.int .i64 0] 2)) (w.heap.size + 4) 2 [0] := by rw [← s4]; exact BlockI.new W4 _ [0]
  exact ⟨⟨q1.alloc _, q2.alloc _, q3.alloc _⟩, q4.alloc _, q5⟩
theorem HvBox.lt {w : World} {v1 v2 : Value} {z p x y : Int} {W : World} (h : HvBox w v1 v2 z p x y W) : w.heap.size + 4 < W.heap.size := h.2.2.lt
/-- Both answers are written. -/
theorem HvBox.put {w : World} {v1 v2 : Value} {z p x y : Int} {W : World} (h : HvBox w v1 v2 z p x y W) (x' y' : Int) : HvBox w v1 v2 z p x' y' ((W.setCell ⟨w.heap.size + 3, 0, none⟩ (.int .i64 x')).setCell ⟨w.heap.size + 4, 0, none⟩ (.int .i64 y')) :=
  ⟨⟨(h.1.1.other _ _ (by simp)).other _ _ (by simp), (h.1.2.1.other _ _ (by simp)).other _ _ (by simp), (h.1.2.2.other _ _ (by simp)).other _ _ (by simp)⟩, (h.2.1.set 0 x').other _ _ (by simp), (h.2.2.other _ _ (by simp)).set 0 y'⟩

set_option maxHeartbeats 2000000 in
set_option maxRecDepth 100000 in
theorem iHv_in (v : Value) (S : List Int) (R : List (List Int)) (z p : Int) (w : World) (hv : ReadsT w v S R) (k : TabOk S R) (hc : chk S R z [] = 0) (hp : 0 ≤ p) (a0 a1 a2 : Addr) (E : Errs3 w a0 a1 a2) :
    CallsIn Fence.wide 5 Tryd.prog 23 #[v, .int .i64 z, .int .i64 p] w fun e w' => e = .returned (.tuple #[.int .i64 (hvK S R z p S.length), .int .i64 (hvE (hvK S R z p S.length))]) ∧ Below w.heap.size w w' := by
  have hro : Fence.wide.round = none := rfl
  have hFF : ∀ f, Fence.wide.fn f := fun _ => trivial
  obtain ⟨v1, v2, rfl, ⟨a, cap, rfl, ha⟩, ⟨b, c2, rfl, hb⟩⟩ := hv
  have H0 : Hid (ReadsT w (.agg #[.slice a S.length cap, .slice b R.length c2]) S R) := Lib.hid ⟨_, _, rfl, ⟨a, cap, rfl, ha⟩, ⟨b, c2, rfl, hb⟩⟩
  have HAT : Hid (AtT (w.alloc (.cells #[.slice a S.length cap, .slice b R.length c2] 29)) w.heap.size S R) := Lib.hid (AtT.box ⟨a, cap, rfl, ha⟩ ⟨b, c2, rfl, hb⟩)
  have HNEW := Lib.hid (HvBox.new w (.slice a S.length cap) (.slice b R.length c2) z p)
  have K := Lib.hid k
  have HE := Lib.hid E
  have HC := Lib.hid hc
  have HP := Lib.hid hp
  have B1 := Lib.hid (allocB w (.cells #[.slice a S.length cap, .slice b R.length c2] 29))
  have B5 : Hid (Below w.heap.size w (((((w.alloc (.cells #[.slice a S.length cap, .slice b R.length c2] 29)).alloc (.cells #[.int .i64 z] 2)).alloc (.cells #[.int .i64 p] 2)).alloc (.cells #[.int .i64 0] 2)).alloc (.cells #[.int .i64 0] 2))) := Lib.hid (((((Below.refl _ _).alloc (Nat.le_refl _) _).alloc (by simp) _).alloc (by first | (simp; done) | (simp; omega)) _).alloc (by first | (simp; done) | (simp; omega)) _ |>.alloc (by first | (simp; done) | (simp; omega)) _)
  have B15 : Hid (Below (w.alloc (.cells #[.slice a S.length cap, .slice b R.length c2] 29)).heap.size (w.alloc (.cells #[.slice a S.length cap, .slice b R.length c2] 29)) (((((w.alloc (.cells #[.slice a S.length cap, .slice b R.length c2] 29)).alloc (.cells #[.int .i64 z] 2)).alloc (.cells #[.int .i64 p] 2)).alloc (.cells #[.int .i64 0] 2)).alloc (.cells #[.int .i64 0] 2))) := Lib.hid ((((Below.refl _ _).alloc (Nat.le_refl _) _).alloc (by simp) _).alloc (by first | (simp; done) | (simp; omega)) _ |>.alloc (by first | (simp; done) | (simp; omega)) _)
  clear ha hb k E hc hp
  refine callsIn_of_wp_marks Tryd.func23 rfl (hFF _) ?_ hro
  simp only [Tryd.ntmps23, List.size_toArray, List.length_cons, List.length_nil, Nat.reduceAdd, Nat.reduceSub, Array.replicate_succ, Array.replicate_zero, List.push_toArray, List.append_toArray, List.nil_append, List.cons_append]
  gi_wp2
  obtain ⟨W5, e5⟩ : ∃ V, (((((w.alloc (.cells #[.slice a S.length cap, .slice b R.length c2] 29)).alloc (.cells #[.int .i64 z] 2)).alloc (.cells #[.int .i64 p] 2)).alloc (.cells #[.int .i64 0] 2)).alloc (.cells #[.int .i64 0] 2)) = V := ⟨_, rfl⟩
  rw [e5] at HNEW B5 B15 ⊢
  clear e5
  refine ((callsIn_wide (n := 4)).2 (check_any _ _ S R z [] a0 a1 a2 _ (H0.out.below B5.out) ⟨none, 0, rfl, fun h => absurd rfl h⟩ K.out (by simp) (HE.out.below B5.out))).mono ?_
  rintro e w6 ⟨rfl, b6⟩
  rw [HC.out, errOf_0]
  have C6 := Lib.hid (blink B5.out b6)
  have HAT6 := Lib.hid ((HAT.out.below B15.out).below b6)
  have HB6 := Lib.hid (HNEW.out.below b6)
  clear HNEW B5 B15 HAT b6 B1
  have h1 := HB6.out.1.1
  have g0 := h1.at0
  have g1 := h1.at1
  have g2 := HB6.out.1.2.2.cell 0 (by simp)
  simp at g2
  have hp := HP.out
  have t0 : decide (p < 0) = false := by simp; omega
  obtain ⟨hc1, hc2, hc3, hc4⟩ := chk_spec HC.out
  have hzb := inB_spec hc2
  obtain ⟨zn, rfl⟩ : ∃ zn : Nat, z = zn := ⟨z.toNat, by omega⟩
  have hzr : zn < R.length := by omega
  obtain ⟨sg1, sg2, sg3⟩ := vldS_spec (vldT_spec hc1).1
  obtain ⟨g, cap', gb, c2', gr, cr, c0, c1, hcs, d0, hq0⟩ := HAT6.out.row hc1 hzr
  rw [g0] at c0
  rw [g1] at c1
  injection c0 with c0
  injection c0 with e1 e2 e3
  injection c1 with c1
  injection c1 with e4 e5 e6
  subst e1 e3 e4 e6
  have hbt := (rowZ_betw hc1 hc2).2
  have HRS := Lib.hid sg3
  have HBT := Lib.hid hbt
  have HD0 := Lib.hid d0
  have HQ : Hid (∀ q, q < S.length → w6.cell? ⟨gr, q, none⟩ = some (.int .i16 ((rowZ R zn).getD q 0))) := Lib.hid hq0
  have HCS := Lib.hid hcs
  have hlt6 := HB6.out.lt
  clear hc1 hc2 hc3 hc4 hzb sg3 hbt d0 hq0 hcs h1 e2 e5
  gi_wp2
  refine (back_in Fence.wide 4 (hFF _) hro _ _ _ _).mono ?_
  rintro e w7 ⟨rfl, e7⟩
  have s7 : w7.heap.size = w6.heap.size + 1 := by rw [e7]; simp
  have b67 : Below w6.heap.size w6 w7 := by rw [e7]; exact allocB _ _
  have j7 : w7.cell? ⟨w6.heap.size, 0, none⟩ = some (.slice (some ⟨g, 0, none⟩) S.length cap) := by rw [e7]; exact (Boxed.new w6 _ _).cell
  have HB7 := HB6.out.below b67
  have C7 := blink C6.out b67
  have hcs7 := HCS.out.below b67
  have s5 : w.heap.size + 5 ≤ w6.heap.size := by omega
  clear e7 g0 g1 g2
  gi_wp2
  skip
  refine wpIn_rangeFunc_ownG hro (by omega) (gf := 66) (lb := #[.pointer (some ⟨w6.heap.size, 0, none⟩)]) rfl (hFF _) (enters_of Tryd.func66 (by kernel_rfl) rfl)
    (back_stops Fence.wide 4 (hFF _) hro (by omega) w6.heap.size g cap S (by omega) (by omega) w7 (by omega) j7 hcs7) Keeps2.trans (Keeps2.put (by omega) (by have := World.block_lt_of_cell? w7 _ (hcs7 0 (by omega)); exact this)) (Below.refl _ _) (fun _ => rfl)
    (fun pre W => (HvBox w (.slice (some ⟨g, 0, none⟩) S.length cap) (.slice (some ⟨gb, 0, none⟩) R.length c2) zn p 0 0 W ∧ ∀ y ∈ pre, p < (rowZ R zn).getD (S.length - 1 - y.1) 0) ∧ Below w.heap.size w W ∧ Below w6.heap.size w6 W)
    (fun c pre W => (c = .ret ∧ ∃ pre' x, pre = pre' ++ [x] ∧ (∀ y ∈ pre', p < (rowZ R zn).getD (S.length - 1 - y.1) 0) ∧ (rowZ R zn).getD (S.length - 1 - x.1) 0 ≤ p ∧ HvBox w (.slice (some ⟨g, 0, none⟩) S.length cap) (.slice (some ⟨gb, 0, none⟩) R.length c2) zn p (S.getD (S.length - 1 - x.1) 0) 0 W) ∧ Below w.heap.size w W)
    (OwnFrom.and (Own.from (fun s A B row hs hg hr => ⟨hs.1.kept hg hr, hs.2⟩) _) (OwnFrom.and (ownFrom_below (Nat.le_refl _) (by omega)) (ownFrom_below (Nat.le_refl _) (by omega))))
    (fun c => OwnFrom.and (Own.from (fun s A B row hs hg hr => by obtain ⟨h1, p', x, h2, h3, h4, h5⟩ := hs; exact ⟨h1, p', x, h2, h3, h4, h5.kept hg hr⟩) _) (ownFrom_below (Nat.le_refl _) (by omega)))
    ⟨⟨HB7, fun y hy => by simp at hy⟩, C7, b67⟩
    (fun x => { tmps := #[.agg #[.slice (some ⟨g, 0, none⟩) S.length cap, .slice (some ⟨gb, 0, none⟩) R.length c2], .int .i64 zn, .int .i64 p, .pointer (some ⟨w.heap.size, 0, none⟩), .pointer (some ⟨w.heap.size + 1, 0, none⟩), .pointer (some ⟨w.heap.size + 1 + 1, 0, none⟩), .pointer (some ⟨w.heap.size + 1 + 1 + 1, 0, none⟩), .pointer (some ⟨w.heap.size + 1 + 1 + 1 + 1, 0, none⟩), .nilIface,
        .int .i64 ((S.length - 1 - x.1 : Nat) : Int), .int .i16 (S.getD (S.length - 1 - x.1) 0), .agg #[.slice (some ⟨g, 0, none⟩) S.length cap, .slice (some ⟨gb, 0, none⟩) R.length c2], .int .i64 zn, .nilIface, .nilIface, .bool false, undef, undef, .int .i64 p, .bool false, .pointer (some ⟨w.heap.size, 0, none⟩), .slice (some ⟨g, 0, none⟩) S.length cap, .func (.func 66) #[] #[.pointer (some ⟨w6.heap.size, 0, none⟩)],
        .int .i64 ((S.length - 1 - x.1 : Nat) : Int), .int .i16 (S.getD (S.length - 1 - x.1) 0), undef, undef, undef, undef, undef, undef, undef, undef, undef, undef, undef, undef, undef], defers := [] }) ?assign ?body ?done ?stop
  case assign =>
    intro l x W K hK
    obtain ⟨j, hj⟩ : ∃ j : Nat, S.length - 1 - x.1 = j := ⟨_, rfl⟩
    rw [hj] at hK ⊢
    obtain ⟨v, hv⟩ : ∃ v, S.getD j 0 = v := ⟨_, rfl⟩
    rw [hv] at hK ⊢
    gi_wp2
    exact hK
  case body =>
    rintro l pre x W ⟨⟨hbx, hno⟩, hB, hB6⟩ hpl
    obtain ⟨j, hj⟩ : ∃ j : Nat, S.length - 1 - x.1 = j := ⟨_, rfl⟩
    have hjm : j < S.length := by omega
    have k1 := hbx.1.1.at1
    have k2 := hbx.1.2.1.cell 0 (by simp)
    have k3 := hbx.1.2.2.cell 0 (by simp)
    have f3 := hbx.2.1.frozen 0
    have f4 := hbx.2.2.frozen 0
    have k4 := hbx.2.1.cell 0 (by simp)
    have k5 := hbx.2.2.cell 0 (by simp)
    simp at k2 k3 k4 k5
    have d0 := cbelow hB6 HD0.out
    have x0 := cbelow hB6 (HQ.out j hjm)
    obtain ⟨xb1, xb2⟩ := HBT.out j hjm
    have so := HRS.out j hjm
    unfold okS at so
    obtain ⟨_, so1, so2⟩ := so
    have HJ := Lib.hid hj
    rw [hj]
    obtain ⟨y, hy⟩ : ∃ y, (rowZ R zn).getD j 0 = y := ⟨_, rfl⟩
    obtain ⟨s, hs⟩ : ∃ s, S.getD j 0 = s := ⟨_, rfl⟩
    rw [hy] at x0 xb1 xb2
    rw [hs] at so1 so2 ⊢
    have HY := Lib.hid hy
    have HSJ := Lib.hid hs
    have HNO := Lib.hid hno
    have HBX := Lib.hid hbx
    have HBB := Lib.hid hB
    have HBB6 := Lib.hid hB6
    obtain ⟨rl, hrl⟩ : ∃ r, R.length = r := ⟨_, rfl⟩
    obtain ⟨sl, hsl⟩ : ∃ r, S.length = r := ⟨_, rfl⟩
    have HRL := Lib.hid hrl
    have HSL := Lib.hid hsl
    rw [hrl] at k1
    rw [hsl] at d0
    have hzr2 : (zn : Int) < (rl : Int) := by omega
    have hjm2 : (j : Int) < (sl : Int) := by omega
    have hzr3 : zn < rl := by omega
    have hjm3 : j < sl := by omega
    clear hbx hno hB hB6 hj hy hs hrl hsl
    by_cases hle : y ≤ p
    · have t1 : decide (y ≤ p) = true := decide_eq_true hle
      have HLE := Lib.hid hle
      clear hle
      gi_wp2
      refine region_round l rfl (by kernel_rfl) (by kernel_rfl) (by kernel_rfl) ?_
      repeat (gi_big_quiet_step (fail))
      refine wpQuietIn_nil ?_
      rintro _ ⟨nq, rfl⟩
      gi_wp2
      have hput : HvBox w (.slice (some ⟨g, 0, none⟩) S.length cap) (.slice (some ⟨gb, 0, none⟩) R.length c2) zn p s 0 (((W.drewN nq).setCell ⟨w.heap.size + 3, 0, none⟩ (.int .i64 s)).setCell ⟨w.heap.size + 4, 0, none⟩ (.int .i64 0)) := HvBox.put (W := W.drewN nq) HBX.out s 0
      refine ⟨((((KeepsOthers.drewN W nq).trans (KeepsOthers.setCell _ _ _)).trans (KeepsOthers.setCell _ _ _)).from _), ⟨rfl, pre, x, rfl, HNO.out, by rw [HJ.out, HY.out]; exact HLE.out, by rw [HJ.out, HSJ.out]; exact hput⟩, ?_⟩
      exact ((below_drewN HBB.out nq).setCell (p := ⟨w.heap.size + 3, 0, none⟩) (by show w.heap.size ≤ w.heap.size + 3; omega) _).setCell (p := ⟨w.heap.size + 4, 0, none⟩) (by show w.heap.size ≤ w.heap.size + 4; omega) _
    · have t1 : decide (y ≤ p) = false := decide_eq_false hle
      have HLE := Lib.hid hle
      clear hle
      gi_wp2
      refine region_round l rfl (by kernel_rfl) (by kernel_rfl) (by kernel_rfl) ?_
      repeat (gi_big_quiet_step (fail))
      refine wpQuietIn_nil ?_
      rintro _ ⟨nq, rfl⟩
      gi_wp2
      refine ⟨(KeepsOthers.drewN W nq).from _, ⟨rfl, rfl⟩, ⟨HBX.out, fun y' hy' => ?_⟩, below_drewN HBB.out nq, below_drewN HBB6.out nq⟩
      rcases List.mem_append.1 hy' with h | h
      · exact HNO.out y' h
      · simp at h
        subst h
        rw [HJ.out, HY.out]
        exact HLE.out
  case done =>
    rintro D ys W hD rfl ⟨⟨hbx, hno⟩, hB, hB6⟩ hK
    have HN : Hid (hvK S R zn p S.length = 0) := Lib.hid (hv_none (fun j hj => by
      have h := hno (rnd (show 0 < S.length by omega) (S.length - 1 - j)) (List.mem_map.2 ⟨S.length - 1 - j, List.mem_range.2 (by omega), rfl⟩)
      rw [rnd_val _ (by omega), show S.length - 1 - (S.length - 1 - j) = j by omega] at h
      exact h))
    have k4 := hbx.2.1.cell 0 (by simp)
    have k5 := hbx.2.2.cell 0 (by simp)
    have f3 := hbx.2.1.frozen 0
    have f4 := hbx.2.2.frozen 0
    simp at k4 k5
    have HPUT := Lib.hid (hbx.put 0 6)
    have HBB := Lib.hid hB
    have HK := Lib.hid hK
    clear hbx hno hB hB6 hK
    gi_wp2
    obtain ⟨Wf, eW⟩ : ∃ V, (W.setCell ⟨w.heap.size + 3, 0, none⟩ (.int .i64 0)).setCell ⟨w.heap.size + 4, 0, none⟩ (.int .i64 6) = V := ⟨_, rfl⟩
    have bf : Below w.heap.size w Wf := by
      rw [← eW]
      exact (HBB.out.setCell (p := ⟨w.heap.size + 3, 0, none⟩) (by show w.heap.size ≤ w.heap.size + 3; omega) _).setCell (p := ⟨w.heap.size + 4, 0, none⟩) (by show w.heap.size ≤ w.heap.size + 4; omega) _
    have hKf : Wf.heap[D]? = some (.deferred (some [])) := by
      rw [← eW]
      exact ((KeepsOthers.setCell _ _ _).trans (KeepsOthers.setCell _ _ _)).same D _ HK.out rfl
    rw [eW] at HPUT ⊢
    refine ⟨by simp, .inl ⟨_, _, rfl, run_takeDeferred hKf, ?_⟩⟩
    have kp := HPUT.out.kept (grownBy_putObj' Wf D (.deferred none)) (fun r e => by cases e; exact ⟨_, hKf, rfl⟩)
    have r0 := kp.2.1.cell 0 (by simp)
    have r1 := kp.2.2.cell 0 (by simp)
    simp at r0 r1
    refine ⟨.tuple #[.int .i64 0, .int .i64 6], ?_, by rw [HN.out, hvE_0], bf.trans (belowK_b (w := w) (Nat.le_refl _) _ D _ _ (by omega) hKf rfl rfl)⟩
    simp [results, Tryd.results23, go_sem, r0, r1]
  case stop =>
    rintro D c pre W hD ⟨k, hk, rfl⟩ ⟨⟨rfl, pre', x, hpre, hno, hle, hbx⟩, hB⟩ hK
    have hk1 : 1 ≤ k := by
      have h := congrArg List.length hpre
      rw [came_length, List.length_append] at h
      simp at h
      omega
    have hsp : came (rnd (show 0 < S.length by omega)) (k - 1) = pre' ∧ rnd (show 0 < S.length by omega) (k - 1) = x := by
      have e : k = k - 1 + 1 := by omega
      rw [e, came_succ] at hpre
      have h := List.append_inj' hpre rfl
      exact ⟨h.1, by simpa using h.2⟩
    obtain ⟨hp1, hx1⟩ := hsp
    have hxv : x.1 = k - 1 := by rw [← hx1]; exact rnd_val _ (by omega)
    have HN : Hid (hvK S R zn p S.length = S.getD (S.length - 1 - x.1) 0) := Lib.hid (hv_hit (by omega) (fun j h1 h2 => by
      have h := hno (rnd (show 0 < S.length by omega) (S.length - 1 - j)) (by rw [← hp1]; exact List.mem_map.2 ⟨S.length - 1 - j, List.mem_range.2 (by omega), rfl⟩)
      rw [rnd_val _ (by omega), show S.length - 1 - (S.length - 1 - j) = j by omega] at h
      exact h) hle)
    have so := HRS.out (S.length - 1 - x.1) (by omega)
    unfold okS at so
    obtain ⟨_, so1, so2⟩ := so
    obtain ⟨s, hs⟩ : ∃ s, S.getD (S.length - 1 - x.1) 0 = s := ⟨_, rfl⟩
    rw [hs] at HN so1 so2 hbx
    have HPUT := Lib.hid hbx
    have HBB := Lib.hid hB
    have hKf := hK
    clear hbx hno hB hK hle hp1 hx1 hxv hs hpre
    gi_wp2
    refine ⟨by simp, .inl ⟨_, _, rfl, run_takeDeferred hKf, ?_⟩⟩
    have kp := HPUT.out.kept (grownBy_putObj' W D (.deferred none)) (fun r e => by cases e; exact ⟨_, hKf, rfl⟩)
    have r0 := kp.2.1.cell 0 (by simp)
    have r1 := kp.2.2.cell 0 (by simp)
    simp at r0 r1
    refine ⟨.tuple #[.int .i64 s, .int .i64 0], ?_, by rw [HN.out, hvE_ne (by omega)], HBB.out.trans (belowK_b (w := w) (Nat.le_refl _) _ D _ _ (by omega) hKf rfl rfl)⟩
    simp [results, Tryd.results23, go_sem, r0, r1]

set_option maxHeartbeats 2000000 in
set_option maxRecDepth 100000 in
theorem iHv_ok (v : Value) (S : List Int) (R : List (List Int)) (z p : Int) (w : World) (hv : ReadsT w v S R) (k : TabOk S R) (a0 a1 a2 : Addr) (E : Errs3 w a0 a1 a2) :
    Calls Tryd.prog 23 #[v, .int .i64 z, .int .i64 p] w fun e w' => e = .returned (.tuple #[.int .i64 (hvX S R z p), .int .i64 (hvC S R z p)]) ∧ Below w.heap.size w w' := by
  by_cases hk : askP S R z p = 0
  · obtain ⟨h1, h2⟩ := hv_0 hk
    rw [h1, h2]
    obtain ⟨hp, hc⟩ : 0 ≤ p ∧ chk S R z [] = 0 := askP_spec hk
    exact callsIn_wide.1 (iHv_in v S R z p w hv k hc hp a0 a1 a2 E)
  · have HX := Lib.hid (hv_c hk)
    have HKK := Lib.hid hk
    obtain ⟨v1, v2, rfl, ⟨a, cap, rfl, ha⟩, ⟨b, c2, rfl, hb⟩⟩ := hv
    have H0 : Hid (ReadsT w (.agg #[.slice a S.length cap, .slice b R.length c2]) S R) := Lib.hid ⟨_, _, rfl, ⟨a, cap, rfl, ha⟩, ⟨b, c2, rfl, hb⟩⟩
    have HNEW := Lib.hid (HvBox.new w (.slice a S.length cap) (.slice b R.length c2) z p)
    have K := Lib.hid k
    have HE := Lib.hid E
    have B5 : Hid (Below w.heap.size w (((((w.alloc (.cells #[.slice a S.length cap, .slice b R.length c2] 29)).alloc (.cells #[.int .i64 z] 2)).alloc (.cells #[.int .i64 p] 2)).alloc (.cells #[.int .i64 0] 2)).alloc (.cells #[.int .i64 0] 2))) := Lib.hid (((((Below.refl _ _).alloc (Nat.le_refl _) _).alloc (by simp) _).alloc (by first | (simp; done) | (simp; omega)) _).alloc (by first | (simp; done) | (simp; omega)) _ |>.alloc (by first | (simp; done) | (simp; omega)) _)
    clear ha hb k E hk
    go_enter Tryd.func23, Tryd.ntmps23
    go_wp2_with fail
    obtain ⟨W5, e5⟩ : ∃ V, (((((w.alloc (.cells #[.slice a S.length cap, .slice b R.length c2] 29)).alloc (.cells #[.int .i64 z] 2)).alloc (.cells #[.int .i64 p] 2)).alloc (.cells #[.int .i64 0] 2)).alloc (.cells #[.int .i64 0] 2)) = V := ⟨_, rfl⟩
    rw [e5] at HNEW B5 ⊢
    clear e5
    refine (check_any _ _ S R z [] a0 a1 a2 _ (H0.out.below B5.out) ⟨none, 0, rfl, fun h => absurd rfl h⟩ K.out (by simp) (HE.out.below B5.out)).mono ?_
    rintro e w6 ⟨rfl, b6⟩
    have C6 := Lib.hid (blink B5.out b6)
    have HB6 := Lib.hid (HNEW.out.below b6)
    clear HNEW B5 b6
    have k3 := HB6.out.1.2.2.cell 0 (by simp)
    have k4 := HB6.out.2.1.cell 0 (by simp)
    have k5 := HB6.out.2.2.cell 0 (by simp)
    have f3 := HB6.out.2.1.frozen 0
    have f4 := HB6.out.2.2.frozen 0
    simp at k3 k4 k5
    have HP3 : Hid (∀ (x : Int) (i : Nat), ((w6.setCell ⟨w.heap.size + 3, 0, none⟩ (.int .i64 0)).setCell ⟨w.heap.size + 4, 0, none⟩ (.int .i64 x)).cell? ⟨w.heap.size + 3, 0, none⟩ = some (.int .i64 0) ∧ ((w6.setCell ⟨w.heap.size + 3, 0, none⟩ (.int .i64 0)).setCell ⟨w.heap.size + 4, 0, none⟩ (.int .i64 x)).cell? ⟨w.heap.size + 4, 0, none⟩ = some (.int .i64 x)) := Lib.hid (fun x _ => by
      have h := HB6.out.put 0 x
      have h1 := h.2.1.cell 0 (by simp)
      have h2 := h.2.2.cell 0 (by simp)
      simp at h1 h2
      exact ⟨h1, h2⟩)
    have HBF : Hid (∀ x : Int, Below w.heap.size w ((w6.setCell ⟨w.heap.size + 3, 0, none⟩ (.int .i64 0)).setCell ⟨w.heap.size + 4, 0, none⟩ (.int .i64 x))) := Lib.hid (fun x => (C6.out.setCell (p := ⟨w.heap.size + 3, 0, none⟩) (by show w.heap.size ≤ w.heap.size + 3; omega) _).setCell (p := ⟨w.heap.size + 4, 0, none⟩) (by show w.heap.size ≤ w.heap.size + 4; omega) _)
    by_cases hc : chk S R z [] = 0
    · have hlt : p < 0 := by
        have h := HKK.out
        unfold askP at h
        rw [if_pos hc] at h
        by_cases h0 : 0 ≤ p
        · rw [if_pos h0] at h; exact absurd rfl h
        · omega
      have HAK : Hid (askP S R z p = 2) := Lib.hid (by unfold askP; rw [if_pos hc, if_neg (by omega)])
      rw [hc, errOf_0]
      clear hc
      go_wp2_with fail
      have hr := HP3.out 2 0
      exact bodyPost_ret (v := .tuple #[.int .i64 0, .int .i64 2]) (by simp [results, Tryd.results23, go_sem, hr.1, hr.2]) rfl ⟨ret_eq (by rw [HX.out.1, HX.out.2, HAK.out]), HBF.out 2⟩
    · rw [errOf_ptr hc]
      have HK : Hid (chk S R z [] = 1 ∨ chk S R z [] = 2 ∨ chk S R z [] = 3) := Lib.hid (by rcases chk_cases S R z [] with h | h | h | h; exact absurd h hc; exact .inl h; exact .inr (.inl h); exact .inr (.inr h))
      have HAK : Hid (askP S R z p = chk S R z []) := Lib.hid (by unfold askP; rw [if_neg hc])
      clear hc
      go_wp2_with fail
      refine (code_of a0 a1 a2 _ HK.out _ (HE.out.below C6.out)).mono ?_
      rintro e w7 ⟨rfl, rfl⟩
      obtain ⟨c, hcc⟩ : ∃ c, chk S R z [] = c := ⟨_, rfl⟩
      have HCC := Lib.hid hcc
      rw [hcc]
      clear hcc
      go_wp2_with fail
      have hr := HP3.out c 0
      exact bodyPost_ret (v := .tuple #[.int .i64 0, .int .i64 c]) (by simp [results, Tryd.results23, go_sem, hr.1, hr.2]) rfl ⟨ret_eq (by rw [HX.out.1, HX.out.2, HAK.out, HCC.out]), HBF.out c⟩
end Go.Proofs.YtkhemijanhcibaaDoor
