/-
  The contract of impl.payGreedily.
-/
import Derived.Test.YtgbckddojfajjaaBack
import Derived.Test.YtgbckddojfajjaaCan
import Derived.Outline
namespace Go.Proofs.Ytgbckddojfajjaa
open Go Go.RowKit Go.Shelf
set_option linter.unusedVariables false
attribute [local go_sem] Oper.semAt_some

/-- Block B holds the numbers L, and no other cell. -/
def BlockI (W : World) (B : Nat) (T : TypeId) (L : List Int) : Prop := W.heap[B]? = some (.cells (L.map (Value.int .i64)).toArray T (0, 0))
theorem BlockI.lt {W : World} {B : Nat} {T : TypeId} {L : List Int} (h : BlockI W B T L) : B < W.heap.size := (Array.getElem?_eq_some_iff.1 h).1
theorem BlockI.cell {W : World} {B : Nat} {T : TypeId} {L : List Int} (h : BlockI W B T L) (i : Nat) (hi : i < L.length) : W.cell? ⟨B, i, none⟩ = some (.int .i64 (L.getD i 0)) := by
  rw [cell_of_row W B i _ T (0, 0) h]
  simp [List.getD, hi]
theorem BlockI.frozen {W : World} {B : Nat} {T : TypeId} {L : List Int} (h : BlockI W B T L) (i : Nat) : W.frozen? ⟨B, i, none⟩ = false := frozen_of_row W B i _ T h
theorem BlockI.set {W : World} {B : Nat} {T : TypeId} {L : List Int} (h : BlockI W B T L) (i : Nat) (x : Int) : BlockI (W.setCell ⟨B, i, none⟩ (.int .i64 x)) B T (L.set i x) := by
  unfold BlockI
  rw [heap_setCell_same W B i _ T _ h]
  simp [List.map_set]
theorem BlockI.other {W : World} {B : Nat} {T : TypeId} {L : List Int} (h : BlockI W B T L) (p : Addr) (u : Value) (hp : B ≠ p.block) : BlockI (W.setCell p u) B T L := (heap_setCell_other W p B u hp).trans h
theorem BlockI.new (W : World) (T : TypeId) (L : List Int) : BlockI (W.alloc (.cells (L.map (Value.int .i64)).toArray T)) W.heap.size T L := heap_alloc_new W _
theorem BlockI.alloc {W : World} {B : Nat} {T : TypeId} {L : List Int} (h : BlockI W B T L) (o : Obj) : BlockI (W.alloc o) B T L := (heap_alloc_old W o B h.lt).trans h
theorem BlockI.kept {W W' : World} {B : Nat} {T : TypeId} {L : List Int} {row : Option Nat} (h : BlockI W B T L) (hg : W.grownBy W' row) (hr : ∀ r, row = some r → ∃ o : Obj, W.heap[r]? = some o ∧ o.isCells = false) : BlockI W' B T L := by
  refine (hg.block B h.lt (fun e => ?_)).trans h
  obtain ⟨o, h1, h2⟩ := hr B e.symm
  rw [h] at h1
  simp at h1
  subst h1
  simp [Obj.isCells] at h2

/-- One round of the greedy stamps, on the cells of the payment: eight counts, the stamps, the amount. -/
def gStep (m : Int) (xs L : List Int) (x : Nat) : List Int :=
  ((L.set (xs.length - 1 - x) ((m - L.getD 9 0) / xs.getD (xs.length - 1 - x) 0)).set 8 (L.getD 8 0 + (m - L.getD 9 0) / xs.getD (xs.length - 1 - x) 0)).set 9
    (L.getD 9 0 + (m - L.getD 9 0) / xs.getD (xs.length - 1 - x) 0 * xs.getD (xs.length - 1 - x) 0)
def gPre (m : Int) (xs : List Int) (pre : List (Fin xs.length)) : List Int := pre.foldl (fun L x => gStep m xs L x.1) [0, 0, 0, 0, 0, 0, 0, 0, 0, 0]
theorem gPre_snoc (m : Int) (xs : List Int) (pre : List (Fin xs.length)) (x : Fin xs.length) : gPre m xs (pre ++ [x]) = gStep m xs (gPre m xs pre) x.1 := by simp [gPre]
theorem gStep_length (m : Int) (xs L : List Int) (x : Nat) : (gStep m xs L x).length = L.length := by simp [gStep]
theorem gPre_length (m : Int) (xs : List Int) (pre : List (Fin xs.length)) : (gPre m xs pre).length = 10 := by
  unfold gPre
  have h : ∀ (l : List (Fin xs.length)) (L : List Int), (l.foldl (fun L x => gStep m xs L x.1) L).length = L.length := by
    intro l
    induction l with
    | nil => intro L; rfl
    | cons a l ih => intro L; rw [List.foldl_cons, ih, gStep_length]
  rw [h]; rfl
theorem gStep_9 (m : Int) (xs L : List Int) (x : Nat) (hl : L.length = 10) : (gStep m xs L x).getD 9 0 = L.getD 9 0 + (m - L.getD 9 0) / xs.getD (xs.length - 1 - x) 0 * xs.getD (xs.length - 1 - x) 0 := by
  unfold gStep
  rw [List.getD, List.getElem?_set_self (by simp [hl])]; rfl
theorem gStep_8 (m : Int) (xs L : List Int) (x : Nat) (hl : L.length = 10) : (gStep m xs L x).getD 8 0 = L.getD 8 0 + (m - L.getD 9 0) / xs.getD (xs.length - 1 - x) 0 := by
  unfold gStep
  rw [List.getD, List.getElem?_set_ne (by omega), List.getElem?_set_self (by simp [hl])]; rfl
theorem div_step {a v : Int} (ha : 0 ≤ a) (hv : 1 ≤ v) : 0 ≤ a / v ∧ a / v ≤ a ∧ 0 ≤ a / v * v ∧ a / v * v ≤ a := by
  have h1 := Int.ediv_nonneg ha (by omega : 0 ≤ v)
  have h2 := Int.ediv_mul_le a (by omega : v ≠ 0)
  have h3 := Int.mul_nonneg h1 (by omega : 0 ≤ v)
  have h4 := Int.ediv_le_self v ha
  exact ⟨h1, h4, h3, h2⟩
def GBd (m : Int) (k : Nat) (L : List Int) : Prop := L.length = 10 ∧ 0 ≤ L.getD 9 0 ∧ L.getD 9 0 ≤ m ∧ 0 ≤ L.getD 8 0 ∧ L.getD 8 0 ≤ 1000 * k
theorem GBd.step {m : Int} {k : Nat} {xs L : List Int} (h : GBd m k L) (hm2 : m ≤ 1000) (hr : Rise xs xs.length) (x : Nat) (hx : x < xs.length) : GBd m (k + 1) (gStep m xs L x) := by
  obtain ⟨hl, h1, h2, h3, h4⟩ := h
  have hv := rise_bounds hr (show xs.length - 1 - x < xs.length by omega)
  have hd := div_step (show 0 ≤ m - L.getD 9 0 by omega) hv.1
  refine ⟨by rw [gStep_length]; exact hl, ?_, ?_, ?_, ?_⟩
  · rw [gStep_9 _ _ _ _ hl]; omega
  · rw [gStep_9 _ _ _ _ hl]; omega
  · rw [gStep_8 _ _ _ _ hl]; omega
  · rw [gStep_8 _ _ _ _ hl]; omega
theorem gPre_bounds (m : Int) (hm : 0 ≤ m) (hm2 : m ≤ 1000) (xs : List Int) (hr : Rise xs xs.length) (pre : List (Fin xs.length)) : GBd m pre.length (gPre m xs pre) := by
  have h : ∀ (l : List (Fin xs.length)) (L : List Int) (k : Nat), GBd m k L → GBd m (k + l.length) (l.foldl (fun L x => gStep m xs L x.1) L) := by
    intro l
    induction l with
    | nil => intro L k hL; exact hL
    | cons a l ih =>
      intro L k hL
      have h1 := ih _ _ (hL.step hm2 hr a.1 a.2)
      rw [List.foldl_cons, List.length_cons]
      have e : k + (l.length + 1) = k + 1 + l.length := by omega
      rw [e]; exact h1
  have h0 := h pre [0, 0, 0, 0, 0, 0, 0, 0, 0, 0] 0 ⟨rfl, by simp, by simpa using hm, by simp, by simp⟩
  rw [Nat.zero_add] at h0
  exact h0

theorem Keeps2.set {c b : Nat} (W : World) (p : Addr) (u : Value) (hc : c ≠ p.block) (hb : b ≠ p.block) : Keeps2 c b W (W.setCell p u) := ⟨heap_setCell_other W p c u hc, heap_setCell_other W p b u hb⟩
def zero10 : List Int := [0, 0, 0, 0, 0, 0, 0, 0, 0, 0]
theorem list10 {L : List Int} (h : L.length = 10) : ∃ a0 a1 a2 a3 a4 a5 a6 a7 a8 a9, L = [a0, a1, a2, a3, a4, a5, a6, a7, a8, a9] := by
  match L, h with
  | [a0, a1, a2, a3, a4, a5, a6, a7, a8, a9], _ => exact ⟨a0, a1, a2, a3, a4, a5, a6, a7, a8, a9, rfl⟩

set_option maxRecDepth 100000 in
set_option maxHeartbeats 8000000 in
theorem greedy_in (F : Fence) (n : Nat) (hF : ∀ f, F.fn f) (hro : F.round = none) (hn : 3 ≤ n) (b cap : Nat) (xs : List Int) (m : Int) (hm : 0 ≤ m) (hm2 : m ≤ 1000) (hr : Rise xs xs.length) (hpos : 0 < xs.length) (h8 : xs.length ≤ 8) (w : World) (hc : Cells w b xs) :
    CallsIn F n Try.prog 67 #[.slice (some ⟨b, 0, none⟩) xs.length cap, .int .i64 m] w fun e w' => ∃ a0 a1 a2 a3 a4 a5 a6 a7 a8 a9, gPre m xs (came (rnd hpos) xs.length) = [a0, a1, a2, a3, a4, a5, a6, a7, a8, a9] ∧
      e = .returned (.agg #[.int .i64 a0, .int .i64 a1, .int .i64 a2, .int .i64 a3, .int .i64 a4, .int .i64 a5, .int .i64 a6, .int .i64 a7, .int .i64 a8, .int .i64 a9]) ∧ Below w.heap.size w w' := by
  have h1 : 1 ≤ n := by omega
  have hbw : b < w.heap.size := World.block_lt_of_cell? w _ (hc 0 hpos)
  refine callsIn_of_wp_marks Try.func67 rfl (hF _) ?_ hro
  simp only [Try.ntmps67, List.size_toArray, List.length_cons, List.length_nil, Nat.reduceAdd, Nat.reduceSub, Array.replicate_succ, Array.replicate_zero, List.push_toArray, List.append_toArray, List.nil_append, List.cons_append]
  gi_wp2_with (gi_at_call 87; refine (back_in F (n - 1) (hF _) hro _ _ _ _).mono ?_; rintro e w' ⟨rfl, rfl⟩)
  obtain ⟨w1, e1⟩ : ∃ w1, w.alloc (.cells #[.int .i64 m] 2) = w1 := ⟨_, rfl⟩
  have s1 : w1.heap.size = w.heap.size + 1 := by rw [← e1]; simp
  obtain ⟨w2, e2⟩ : ∃ w2, w1.alloc (.cells #[.int .i64 0, .int .i64 0, .int .i64 0, .int .i64 0, .int .i64 0, .int .i64 0, .int .i64 0, .int .i64 0, .int .i64 0, .int .i64 0] 60) = w2 := ⟨_, rfl⟩
  have s2 : w2.heap.size = w.heap.size + 1 + 1 := by rw [← e2]; simp [s1]
  obtain ⟨w3, e3⟩ : ∃ w3, w2.alloc (.cells #[.int .i64 0, .int .i64 0, .int .i64 0, .int .i64 0, .int .i64 0, .int .i64 0, .int .i64 0, .int .i64 0, .int .i64 0, .int .i64 0] 60) = w3 := ⟨_, rfl⟩
  have s3 : w3.heap.size = w.heap.size + 1 + 1 + 1 := by rw [← e3]; simp [s2]
  obtain ⟨w4, e4⟩ : ∃ w4, w3.alloc (.cells #[.slice (some ⟨b, 0, none⟩) xs.length cap] 24) = w4 := ⟨_, rfl⟩
  have s4 : w4.heap.size = w.heap.size + 1 + 1 + 1 + 1 := by rw [← e4]; simp [s3]
  have i3 : BlockI w1 w.heap.size 2 [m] := by rw [← e1]; exact BlockI.new w _ [m]
  have i4 : BlockI w2 (w.heap.size + 1) 60 zero10 := by rw [← e2, ← s1]; exact BlockI.new w1 _ zero10
  have i5 : BlockI w3 (w.heap.size + 1 + 1) 60 zero10 := by rw [← e3, ← s2]; exact BlockI.new w2 _ zero10
  have j3 : BlockI w4 w.heap.size 2 [m] := by rw [← e4]; refine BlockI.alloc ?_ _; rw [← e3]; refine BlockI.alloc ?_ _; rw [← e2]; exact i3.alloc _
  have j4 : BlockI w4 (w.heap.size + 1) 60 zero10 := by rw [← e4]; refine BlockI.alloc ?_ _; rw [← e3]; exact i4.alloc _
  have j5 : BlockI w4 (w.heap.size + 1 + 1) 60 zero10 := by rw [← e4]; exact i5.alloc _
  have j6 : w4.cell? ⟨w.heap.size + 1 + 1 + 1, 0, none⟩ = some (.slice (some ⟨b, 0, none⟩) xs.length cap) := by rw [← e4, ← s3]; exact (Boxed.new w3 _ _).cell
  have hB0 : Below w.heap.size w w4 := by
    rw [← e4]; refine Below.alloc ?_ (by omega) _; rw [← e3]; refine Below.alloc ?_ (by omega) _; rw [← e2]; refine Below.alloc ?_ (by omega) _; rw [← e1]; exact (Below.refl _ _).alloc (Nat.le_refl _) _
  rw [e1, e2, e3, e4]
  clear e1 e2 e3 e4 i3 i4 i5 s1 s2 s3
  refine wpIn_rangeFunc_ownG hro h1 (gf := 95) (lb := #[.pointer (some ⟨w.heap.size + 1 + 1 + 1, 0, none⟩)]) rfl (hF _) (enters_of Try.func95 (by kernel_rfl) rfl)
    (back_stops F (n - 1) (hF _) hro (by omega) (w.heap.size + 1 + 1 + 1) b cap xs (by omega) hpos w4 (by omega) j6 (hc.below hB0)) Keeps2.trans (Keeps2.put (by omega) (by omega)) (Below.refl _ _) (fun _ => rfl)
    (fun pre W => (BlockI W w.heap.size 2 [m] ∧ BlockI W (w.heap.size + 1) 60 zero10 ∧ BlockI W (w.heap.size + 1 + 1) 60 (gPre m xs pre)) ∧ Below w.heap.size w W)
    (fun _ _ _ => False)
    (OwnFrom.and (Own.from (fun s A B row hs hg hr => ⟨hs.1.kept hg hr, hs.2.1.kept hg hr, hs.2.2.kept hg hr⟩) _) (ownFrom_below (Nat.le_refl _) (by omega)))
    (fun _ _ _ _ _ hs _ _ => hs)
    ⟨⟨j3, j4, j5⟩, hB0⟩
    (fun x => { tmps := #[.slice (some ⟨b, 0, none⟩) xs.length cap, .int .i64 m, undef, .pointer (some ⟨w.heap.size, 0, none⟩), .pointer (some ⟨w.heap.size + 1, 0, none⟩), .pointer (some ⟨w.heap.size + 1 + 1, 0, none⟩),
        .int .i64 ((xs.length - 1 - x.1 : Nat) : Int), .int .i64 (xs.getD (xs.length - 1 - x.1) 0), undef, .slice (some ⟨b, 0, none⟩) xs.length cap, .func (.func 95) #[] #[.pointer (some ⟨w.heap.size + 1 + 1 + 1, 0, none⟩)],
        .int .i64 ((xs.length - 1 - x.1 : Nat) : Int), .int .i64 (xs.getD (xs.length - 1 - x.1) 0), undef, undef, undef, undef, undef, undef, undef, undef, undef, undef, undef, undef, undef, undef, undef, undef, undef, undef, undef, undef, undef, undef, undef], defers := [] }) ?assign ?body ?done ?stop
  case assign =>
    intro l x W K hK
    obtain ⟨j, hj⟩ : ∃ j : Nat, xs.length - 1 - x.1 = j := ⟨_, rfl⟩
    rw [hj] at hK ⊢
    obtain ⟨v, hv⟩ : ∃ v, xs.getD j 0 = v := ⟨_, rfl⟩
    rw [hv] at hK ⊢
    gi_wp2
    exact hK
  case body =>
    rintro l pre x W ⟨⟨k3, k4, k5⟩, hB⟩ hpl
    obtain ⟨j, hj⟩ : ∃ j : Nat, xs.length - 1 - x.1 = j := ⟨_, rfl⟩
    have hj8 : j < 8 := by omega
    have hv := rise_bounds hr (show xs.length - 1 - x.1 < xs.length by have := x.2; omega)
    have hbd := gPre_bounds m hm hm2 xs hr pre
    have hsn := gPre_snoc m xs pre x
    obtain ⟨v, hv'⟩ : ∃ v, xs.getD j 0 = v := ⟨_, rfl⟩
    rw [hj] at hv ⊢
    rw [hv'] at hv ⊢
    obtain ⟨L, hL⟩ : ∃ L, gPre m xs pre = L := ⟨_, rfl⟩
    rw [hL] at k5 hbd hsn
    obtain ⟨hl, b1, b2, b3, b4⟩ := hbd
    have c3 := k3.cell 0 (by simp)
    have c9 := k5.cell 9 (by omega)
    have c8 := k5.cell 8 (by omega)
    have cj := k5.cell j (by omega)
    have f9 := k5.frozen 9
    have f8 := k5.frozen 8
    have fj := k5.frozen j
    unfold gStep at hsn
    rw [hj, hv'] at hsn
    obtain ⟨am, h9⟩ : ∃ am, L.getD 9 0 = am := ⟨_, rfl⟩
    obtain ⟨st, h8'⟩ : ∃ st, L.getD 8 0 = st := ⟨_, rfl⟩
    obtain ⟨cn, hcn⟩ : ∃ cn, L.getD j 0 = cn := ⟨_, rfl⟩
    rw [h9] at c9 b1 b2 hsn
    rw [h8'] at c8 b3 b4 hsn
    rw [hcn] at cj
    have hd := div_step (show 0 ≤ m - am by omega) hv.1
    have hst : st ≤ 8000 := by omega
    have K5 := Lib.hid (((k5.set j ((m - am) / v)).set 8 (st + (m - am) / v)).set 9 (am + (m - am) / v * v))
    have hv1 := hv.1
    have hv2 := hv.2
    have hd1 := hd.1
    have hd2 := hd.2.1
    have hd3 := hd.2.2.1
    have hd4 := hd.2.2.2
    have ne1 : j ≠ 8 := by omega
    have ne2 : j ≠ 9 := by omega
    have HSN := Lib.hid hsn
    have K3 := Lib.hid k3
    have K4 := Lib.hid k4
    have HB := Lib.hid hB
    clear hsn k3 k4 k5 hB hL h9 h8' hcn hj hv' hd hv
    gi_wp2
    have q1 : w.heap.size + 1 + 1 + 1 ≠ w.heap.size + 1 + 1 := by omega
    have q2 : b ≠ w.heap.size + 1 + 1 := by omega
    have q3 : w.heap.size ≠ w.heap.size + 1 + 1 := by omega
    have q4 : w.heap.size + 1 ≠ w.heap.size + 1 + 1 := by omega
    have q5 : w.heap.size ≤ w.heap.size + 1 + 1 := by omega
    refine ⟨(((KeepsOthers.setCell _ _ _).trans (KeepsOthers.setCell _ _ _)).trans (KeepsOthers.setCell _ _ _)).from _, ((Keeps2.set _ _ _ q1 q2).trans (Keeps2.set _ _ _ q1 q2)).trans (Keeps2.set _ _ _ q1 q2), ⟨?_, ?_, ?_⟩, ?_⟩
    · exact ((K3.out.other _ _ q3).other _ _ q3).other _ _ q3
    · exact ((K4.out.other _ _ q4).other _ _ q4).other _ _ q4
    · rw [HSN.out]; exact K5.out
    · exact ((HB.out.setCell q5 _).setCell q5 _).setCell q5 _
  case done =>
    rintro D ys W hD rfl ⟨⟨k3, k4, k5⟩, hB⟩ hK
    obtain ⟨a0, a1, a2, a3, a4, a5, a6, a7, a8, a9, hL⟩ := list10 (gPre_length m xs (came (rnd hpos) xs.length))
    rw [hL] at k5
    have c0 := k5.cell 0 (by simp)
    have c1 := k5.cell 1 (by simp)
    have c2 := k5.cell 2 (by simp)
    have c3 := k5.cell 3 (by simp)
    have c4 := k5.cell 4 (by simp)
    have c5 := k5.cell 5 (by simp)
    have c6 := k5.cell 6 (by simp)
    have c7 := k5.cell 7 (by simp)
    have c8 := k5.cell 8 (by simp)
    have c9 := k5.cell 9 (by simp)
    have d := fun i (h : i < 10) => k4.cell i (by simpa [zero10] using h)
    have f := fun i => k4.frozen i
    have d0 := d 0 (by omega)
    have d1 := d 1 (by omega)
    have d2 := d 2 (by omega)
    have d3 := d 3 (by omega)
    have d4 := d 4 (by omega)
    have d5 := d 5 (by omega)
    have d6 := d 6 (by omega)
    have d7 := d 7 (by omega)
    have d8 := d 8 (by omega)
    have d9 := d 9 (by omega)
    have f0 := f 0
    have f1 := f 1
    have f2 := f 2
    have f3 := f 3
    have f4 := f 4
    have f5 := f 5
    have f6 := f 6
    have f7 := f 7
    have f8 := f 8
    have f9 := f 9
    have HL := Lib.hid hL
    have K4 := Lib.hid k4
    have HB := Lib.hid hB
    have HK := Lib.hid hK
    clear d f hL k3 k4 k5 hB hK
    gi_wp2
    obtain ⟨Wf, eW⟩ : ∃ Wf, ((((((((((W.setCell ⟨w.heap.size + 1, 0, none⟩ (.int .i64 a0)).setCell ⟨w.heap.size + 1, 1, none⟩ (.int .i64 a1)).setCell ⟨w.heap.size + 1, 2, none⟩ (.int .i64 a2)).setCell ⟨w.heap.size + 1, 3, none⟩ (.int .i64 a3)).setCell ⟨w.heap.size + 1, 4, none⟩ (.int .i64 a4)).setCell ⟨w.heap.size + 1, 5, none⟩ (.int .i64 a5)).setCell ⟨w.heap.size + 1, 6, none⟩ (.int .i64 a6)).setCell ⟨w.heap.size + 1, 7, none⟩ (.int .i64 a7)).setCell ⟨w.heap.size + 1, 8, none⟩ (.int .i64 a8)).setCell ⟨w.heap.size + 1, 9, none⟩ (.int .i64 a9)) = Wf := ⟨_, rfl⟩
    rw [eW]
    have q5 : w.heap.size ≤ w.heap.size + 1 := by omega
    have kf : BlockI Wf (w.heap.size + 1) 60 [a0, a1, a2, a3, a4, a5, a6, a7, a8, a9] := by
      rw [← eW]
      exact (((((((((K4.out.set 0 a0).set 1 a1).set 2 a2).set 3 a3).set 4 a4).set 5 a5).set 6 a6).set 7 a7).set 8 a8).set 9 a9
    have bf : Below w.heap.size w Wf := by
      rw [← eW]
      exact (((((((((HB.out.setCell q5 _).setCell q5 _).setCell q5 _).setCell q5 _).setCell q5 _).setCell q5 _).setCell q5 _).setCell q5 _).setCell q5 _).setCell q5 _
    have hKf : Wf.heap[D]? = some (.deferred (some [])) := by
      rw [← eW]
      exact ((((((((((KeepsOthers.setCell _ _ _).trans (KeepsOthers.setCell _ _ _)).trans (KeepsOthers.setCell _ _ _)).trans (KeepsOthers.setCell _ _ _)).trans (KeepsOthers.setCell _ _ _)).trans (KeepsOthers.setCell _ _ _)).trans (KeepsOthers.setCell _ _ _)).trans (KeepsOthers.setCell _ _ _)).trans (KeepsOthers.setCell _ _ _)).trans (KeepsOthers.setCell _ _ _)).same D _ HK.out rfl
    refine ⟨by simp, .inl ⟨_, _, rfl, run_takeDeferred hKf, ?_⟩⟩
    have kp := kf.kept (grownBy_putObj' Wf D (.deferred none)) (fun r e => by cases e; exact ⟨_, hKf, rfl⟩)
    have r0 := kp.cell 0 (by simp)
    have r1 := kp.cell 1 (by simp)
    have r2 := kp.cell 2 (by simp)
    have r3 := kp.cell 3 (by simp)
    have r4 := kp.cell 4 (by simp)
    have r5 := kp.cell 5 (by simp)
    have r6 := kp.cell 6 (by simp)
    have r7 := kp.cell 7 (by simp)
    have r8 := kp.cell 8 (by simp)
    have r9 := kp.cell 9 (by simp)
    refine ⟨.agg #[.int .i64 a0, .int .i64 a1, .int .i64 a2, .int .i64 a3, .int .i64 a4, .int .i64 a5, .int .i64 a6, .int .i64 a7, .int .i64 a8, .int .i64 a9], ?_, a0, a1, a2, a3, a4, a5, a6, a7, a8, a9, HL.out, rfl, bf.trans (belowK_b (w := w) (Nat.le_refl _) _ D _ _ (by omega) hKf rfl rfl)⟩
    simp [results, Try.results67, go_sem, r0, r1, r2, r3, r4, r5, r6, r7, r8, r9]
  case stop =>
    rintro D c pre W _ _ h _
    exact h.elim
end Go.Proofs.Ytgbckddojfajjaa
