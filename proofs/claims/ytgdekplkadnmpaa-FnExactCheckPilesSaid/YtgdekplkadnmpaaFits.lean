/-
  Contracts of fitsInside and l02Inside, and of both FitsInside.
-/
import Derived.Test.YtgdekplkadnmpaaVol
import Derived.Deep.RegionHeld3
import Derived.Laws.NewBlocks
import Derived.Laws.Alloc2
namespace Go.Proofs.Ytgdekplkadnmpaa
open Go Go.RowKit
set_option linter.unusedVariables false

/-- What lay below reads as it read. -/
theorem bcell {W w1 : World} (hb : Below W.heap.size W w1) : (∀ b o, b < W.heap.size → w1.cell? ⟨b, o, none⟩ = W.cell? ⟨b, o, none⟩) ∧ (∀ b o, b < W.heap.size → w1.frozen? ⟨b, o, none⟩ = W.frozen? ⟨b, o, none⟩) ∧ W.heap.size ≤ w1.heap.size :=
  ⟨fun b o h => hb.cell (p := ⟨b, o, none⟩) h, fun b o h => hb.frozen (p := ⟨b, o, none⟩) h, hb.size⟩

theorem keep2' {w' z : World} {B0 B1 : Nat} {x00 x01 x02 x10 x11 x12 : Int} (b : Below w'.heap.size w' z) (h : w'.cell? ⟨B0, 0, none⟩ = some (.int .i8 x00) ∧ w'.cell? ⟨B0, 1, none⟩ = some (.int .i8 x01) ∧ w'.cell? ⟨B0, 2, none⟩ = some (.int .i8 x02) ∧ w'.cell? ⟨B1, 0, none⟩ = some (.int .i8 x10) ∧ w'.cell? ⟨B1, 1, none⟩ = some (.int .i8 x11) ∧ w'.cell? ⟨B1, 2, none⟩ = some (.int .i8 x12)) :
    z.cell? ⟨B0, 0, none⟩ = some (.int .i8 x00) ∧ z.cell? ⟨B0, 1, none⟩ = some (.int .i8 x01) ∧ z.cell? ⟨B0, 2, none⟩ = some (.int .i8 x02) ∧ z.cell? ⟨B1, 0, none⟩ = some (.int .i8 x10) ∧ z.cell? ⟨B1, 1, none⟩ = some (.int .i8 x11) ∧ z.cell? ⟨B1, 2, none⟩ = some (.int .i8 x12) := by
  obtain ⟨h00, h01, h02, h10, h11, h12⟩ := h
  have p : At3 z B0 x00 x01 x02 := At3.below ⟨h00, h01, h02⟩ b
  have q : At3 z B1 x10 x11 x12 := At3.below ⟨h10, h11, h12⟩ b
  exact ⟨p.1, p.2.1, p.2.2, q.1, q.2.1, q.2.2⟩

theorem keepAA {w' : World} {B0 B1 : Nat} {x00 x01 x02 x10 x11 x12 : Int} {o o' : Obj} (h : w'.cell? ⟨B0, 0, none⟩ = some (.int .i8 x00) ∧ w'.cell? ⟨B0, 1, none⟩ = some (.int .i8 x01) ∧ w'.cell? ⟨B0, 2, none⟩ = some (.int .i8 x02) ∧ w'.cell? ⟨B1, 0, none⟩ = some (.int .i8 x10) ∧ w'.cell? ⟨B1, 1, none⟩ = some (.int .i8 x11) ∧ w'.cell? ⟨B1, 2, none⟩ = some (.int .i8 x12)) :
    ((w'.alloc o).alloc o').cell? ⟨B0, 0, none⟩ = some (.int .i8 x00) ∧ ((w'.alloc o).alloc o').cell? ⟨B0, 1, none⟩ = some (.int .i8 x01) ∧ ((w'.alloc o).alloc o').cell? ⟨B0, 2, none⟩ = some (.int .i8 x02) ∧ ((w'.alloc o).alloc o').cell? ⟨B1, 0, none⟩ = some (.int .i8 x10) ∧ ((w'.alloc o).alloc o').cell? ⟨B1, 1, none⟩ = some (.int .i8 x11) ∧ ((w'.alloc o).alloc o').cell? ⟨B1, 2, none⟩ = some (.int .i8 x12) := by
  obtain ⟨h00, h01, h02, h10, h11, h12⟩ := h
  have p : At3 ((w'.alloc o).alloc o') B0 x00 x01 x02 := (At3.alloc ⟨h00, h01, h02⟩ o).alloc o'
  have q : At3 ((w'.alloc o).alloc o') B1 x10 x11 x12 := (At3.alloc ⟨h10, h11, h12⟩ o).alloc o'
  exact ⟨p.1, p.2.1, p.2.2, q.1, q.2.1, q.2.2⟩

theorem keepA1 {w' : World} {B0 B1 : Nat} {x00 x01 x02 x10 x11 x12 : Int} {o : Obj} (h : w'.cell? ⟨B0, 0, none⟩ = some (.int .i8 x00) ∧ w'.cell? ⟨B0, 1, none⟩ = some (.int .i8 x01) ∧ w'.cell? ⟨B0, 2, none⟩ = some (.int .i8 x02) ∧ w'.cell? ⟨B1, 0, none⟩ = some (.int .i8 x10) ∧ w'.cell? ⟨B1, 1, none⟩ = some (.int .i8 x11) ∧ w'.cell? ⟨B1, 2, none⟩ = some (.int .i8 x12)) :
    (w'.alloc o).cell? ⟨B0, 0, none⟩ = some (.int .i8 x00) ∧ (w'.alloc o).cell? ⟨B0, 1, none⟩ = some (.int .i8 x01) ∧ (w'.alloc o).cell? ⟨B0, 2, none⟩ = some (.int .i8 x02) ∧ (w'.alloc o).cell? ⟨B1, 0, none⟩ = some (.int .i8 x10) ∧ (w'.alloc o).cell? ⟨B1, 1, none⟩ = some (.int .i8 x11) ∧ (w'.alloc o).cell? ⟨B1, 2, none⟩ = some (.int .i8 x12) := by
  obtain ⟨h00, h01, h02, h10, h11, h12⟩ := h
  have p : At3 (w'.alloc o) B0 x00 x01 x02 := At3.alloc ⟨h00, h01, h02⟩ o
  have q : At3 (w'.alloc o) B1 x10 x11 x12 := At3.alloc ⟨h10, h11, h12⟩ o
  exact ⟨p.1, p.2.1, p.2.2, q.1, q.2.1, q.2.2⟩

theorem keepW {n : Nat} {z W : World} {B0 B1 : Nat} {x00 x01 x02 x10 x11 x12 : Int} (hb : Below n z W) (h0 : B0 < n) (h1 : B1 < n) (h : z.cell? ⟨B0, 0, none⟩ = some (.int .i8 x00) ∧ z.cell? ⟨B0, 1, none⟩ = some (.int .i8 x01) ∧ z.cell? ⟨B0, 2, none⟩ = some (.int .i8 x02) ∧ z.cell? ⟨B1, 0, none⟩ = some (.int .i8 x10) ∧ z.cell? ⟨B1, 1, none⟩ = some (.int .i8 x11) ∧ z.cell? ⟨B1, 2, none⟩ = some (.int .i8 x12)) :
    W.cell? ⟨B0, 0, none⟩ = some (.int .i8 x00) ∧ W.cell? ⟨B0, 1, none⟩ = some (.int .i8 x01) ∧ W.cell? ⟨B0, 2, none⟩ = some (.int .i8 x02) ∧ W.cell? ⟨B1, 0, none⟩ = some (.int .i8 x10) ∧ W.cell? ⟨B1, 1, none⟩ = some (.int .i8 x11) ∧ W.cell? ⟨B1, 2, none⟩ = some (.int .i8 x12) := by
  obtain ⟨h00, h01, h02, h10, h11, h12⟩ := h
  exact ⟨(hb.cell (p := ⟨B0, 0, none⟩) h0).trans h00, (hb.cell (p := ⟨B0, 1, none⟩) h0).trans h01, (hb.cell (p := ⟨B0, 2, none⟩) h0).trans h02, (hb.cell (p := ⟨B1, 0, none⟩) h1).trans h10, (hb.cell (p := ⟨B1, 1, none⟩) h1).trans h11, (hb.cell (p := ⟨B1, 2, none⟩) h1).trans h12⟩

/-- Whether the sides in order are less, side by side. -/
def fitB (a b c x y z : Int) : Bool := decide (lo3 a b c < lo3 x y z ∧ mi3 a b c < mi3 x y z ∧ hi3 a b c < hi3 x y z)

set_option maxHeartbeats 4000000 in
theorem ifit_any (a b c x y z : Int) (w : World) :
    Calls Try.prog 23 #[.agg #[.int .i8 a, .int .i8 b, .int .i8 c], .agg #[.int .i8 x, .int .i8 y, .int .i8 z]] w fun e w' => e = .returned (.bool (fitB a b c x y z)) ∧ Below w.heap.size w w' := by
  obtain ⟨l, hl⟩ : ∃ l, lo3 a b c = l := ⟨_, rfl⟩
  obtain ⟨m, hm⟩ : ∃ m, mi3 a b c = m := ⟨_, rfl⟩
  obtain ⟨h, hh⟩ : ∃ h, hi3 a b c = h := ⟨_, rfl⟩
  obtain ⟨l', hl'⟩ : ∃ l, lo3 x y z = l := ⟨_, rfl⟩
  obtain ⟨m', hm'⟩ : ∃ m, mi3 x y z = m := ⟨_, rfl⟩
  obtain ⟨h', hh'⟩ : ∃ h, hi3 x y z = h := ⟨_, rfl⟩
  have HF : Hid (fitB a b c x y z = decide (l < l' ∧ m < m' ∧ h < h')) := Lib.hid (by unfold fitB; rw [hl, hm, hh, hl', hm', hh'])
  have HA := Lib.hid (And.intro hl (And.intro hm hh))
  have HB := Lib.hid (And.intro hl' (And.intro hm' hh'))
  clear hl hm hh hl' hm' hh'
  rw [HF.out]
  go_enter Try.func23, Try.ntmps23
  go_wp2_with fail
  obtain ⟨v0, e0⟩ : ∃ v, w.alloc (.cells #[.int .i8 a, .int .i8 b, .int .i8 c] 38) = v := ⟨_, rfl⟩
  have s0 : v0.heap.size = w.heap.size + 1 := by rw [← e0]; simp
  have q0 : At3 v0 (w.heap.size) a b c := by rw [← e0]; exact At3.new _ _ _ _ _
  have c0 : Below w.heap.size w v0 := by rw [← e0]; exact (Below.refl _ _).alloc (Nat.le_refl _) _
  obtain ⟨v1, e1⟩ : ∃ v, v0.alloc (.cells #[.int .i8 x, .int .i8 y, .int .i8 z] 38) = v := ⟨_, rfl⟩
  have s1 : v1.heap.size = w.heap.size + 1 + 1 := by rw [← e1]; simp [s0]
  have q1 : At3 v1 (w.heap.size + 1) x y z := by rw [← e1, ← s0]; exact At3.new _ _ _ _ _
  have c1 : Below w.heap.size w v1 := by rw [← e1]; exact c0.alloc (by omega) _
  have q0 : At3 v1 (w.heap.size) a b c := by rw [← e1]; exact q0.alloc _
  rw [e0, e1]
  have hs1 : w.heap.size + 1 < v1.heap.size := by omega
  have hs0 : w.heap.size < v1.heap.size := by omega
  have Q0 := Lib.hid q0
  have Q1 := Lib.hid q1
  have C1 := Lib.hid c1
  have g00 := q0.1
  have g01 := q0.2.1
  have g02 := q0.2.2
  have g10 := q1.1
  have g11 := q1.2.1
  have g12 := q1.2.2
  clear e0 e1 s0 s1 q0 c0 q1 c1
  rename_i Q0 K hK
  have rest : ∀ (X Y : Nat) (W : World), At3 W X (lo3 a b c) (mi3 a b c) (hi3 a b c) → At3 W Y (lo3 x y z) (mi3 x y z) (hi3 x y z) → Below w.heap.size w W →
      K { tmps := #[.agg #[.int .i8 a, .int .i8 b, .int .i8 c], .agg #[.int .i8 x, .int .i8 y, .int .i8 z], .pointer (some ⟨w.heap.size, 0, none⟩), .pointer (some ⟨w.heap.size + 1, 0, none⟩), .bool false, .pointer (some ⟨X, 0, none⟩), .pointer (some ⟨Y, 0, none⟩), undef,
        .agg #[.int .i8 a, .int .i8 b, .int .i8 c], .agg #[.int .i8 (lo3 a b c), .int .i8 (mi3 a b c), .int .i8 (hi3 a b c)], .agg #[.int .i8 x, .int .i8 y, .int .i8 z], .agg #[.int .i8 (lo3 x y z), .int .i8 (mi3 x y z), .int .i8 (hi3 x y z)],
        undef, undef, undef, undef, undef, undef, undef, undef, undef, undef, undef], defers := [] } W := by
    intro X Y W kx ky kb
    rw [HA.out.1, HA.out.2.1, HA.out.2.2] at kx ⊢
    rw [HB.out.1, HB.out.2.1, HB.out.2.2] at ky ⊢
    have KB := Lib.hid kb
    obtain ⟨c0, c1, c2⟩ := kx
    obtain ⟨d0, d1, d2⟩ := ky
    clear kb g00 g01 g02 g10 g11 g12
    by_cases h1 : l < l'
    · have t1 : decide (l' ≤ l) = false := decide_eq_false (by omega)
      by_cases h2 : m < m'
      · have t2 : decide (m' ≤ m) = false := decide_eq_false (by omega)
        by_cases h3 : h < h'
        · have t3 : decide (h' ≤ h) = false := decide_eq_false (by omega)
          refine hK _ _ ?_
          clear hK
          go_wp2_with fail
          refine wp_loop_rounds 4 ?_
          rw [rounds_succ]
          go_wp2_with fail
          go_quiet (fail)
          obtain ⟨V0, eV0, c0V0, d0V0, kbV0⟩ : ∃ V, W.drewN nq = V ∧ At3 V X l m h ∧ At3 V Y l' m' h' ∧ Below w.heap.size w V := ⟨_, rfl, ⟨c0, c1, c2⟩, ⟨d0, d1, d2⟩, below_drewN KB.out _⟩
          rw [eV0]
          have KB := Lib.hid kbV0
          clear eV0 kbV0 c0 c1 c2 d0 d1 d2
          obtain ⟨c0, c1, c2⟩ := c0V0
          obtain ⟨d0, d1, d2⟩ := d0V0
          go_wp2_with fail
          rw [rounds_succ]
          go_wp2_with fail
          go_quiet (fail)
          obtain ⟨V1, eV1, c0V1, d0V1, kbV1⟩ : ∃ V, V0.drewN nq = V ∧ At3 V X l m h ∧ At3 V Y l' m' h' ∧ Below w.heap.size w V := ⟨_, rfl, ⟨c0, c1, c2⟩, ⟨d0, d1, d2⟩, below_drewN KB.out _⟩
          rw [eV1]
          have KB := Lib.hid kbV1
          clear eV1 kbV1 c0 c1 c2 d0 d1 d2
          obtain ⟨c0, c1, c2⟩ := c0V1
          obtain ⟨d0, d1, d2⟩ := d0V1
          go_wp2_with fail
          rw [rounds_succ]
          go_wp2_with fail
          go_quiet (fail)
          obtain ⟨V2, eV2, c0V2, d0V2, kbV2⟩ : ∃ V, V1.drewN nq = V ∧ At3 V X l m h ∧ At3 V Y l' m' h' ∧ Below w.heap.size w V := ⟨_, rfl, ⟨c0, c1, c2⟩, ⟨d0, d1, d2⟩, below_drewN KB.out _⟩
          rw [eV2]
          have KB := Lib.hid kbV2
          clear eV2 kbV2 c0 c1 c2 d0 d1 d2
          obtain ⟨c0, c1, c2⟩ := c0V2
          obtain ⟨d0, d1, d2⟩ := d0V2
          go_wp2_with fail
          rw [rounds_succ]
          go_wp2_with fail
          go_ret
          exact ⟨ret_bool (decide_eq_true ⟨h1, h2, h3⟩).symm, KB.out⟩
        · have t3 : decide (h' ≤ h) = true := decide_eq_true (by omega)
          refine hK _ _ ?_
          clear hK
          go_wp2_with fail
          refine wp_loop_rounds 4 ?_
          rw [rounds_succ]
          go_wp2_with fail
          go_quiet (fail)
          obtain ⟨V0, eV0, c0V0, d0V0, kbV0⟩ : ∃ V, W.drewN nq = V ∧ At3 V X l m h ∧ At3 V Y l' m' h' ∧ Below w.heap.size w V := ⟨_, rfl, ⟨c0, c1, c2⟩, ⟨d0, d1, d2⟩, below_drewN KB.out _⟩
          rw [eV0]
          have KB := Lib.hid kbV0
          clear eV0 kbV0 c0 c1 c2 d0 d1 d2
          obtain ⟨c0, c1, c2⟩ := c0V0
          obtain ⟨d0, d1, d2⟩ := d0V0
          go_wp2_with fail
          rw [rounds_succ]
          go_wp2_with fail
          go_quiet (fail)
          obtain ⟨V1, eV1, c0V1, d0V1, kbV1⟩ : ∃ V, V0.drewN nq = V ∧ At3 V X l m h ∧ At3 V Y l' m' h' ∧ Below w.heap.size w V := ⟨_, rfl, ⟨c0, c1, c2⟩, ⟨d0, d1, d2⟩, below_drewN KB.out _⟩
          rw [eV1]
          have KB := Lib.hid kbV1
          clear eV1 kbV1 c0 c1 c2 d0 d1 d2
          obtain ⟨c0, c1, c2⟩ := c0V1
          obtain ⟨d0, d1, d2⟩ := d0V1
          go_wp2_with fail
          rw [rounds_succ]
          go_wp2_with fail
          go_quiet (fail)
          obtain ⟨V2, eV2, c0V2, d0V2, kbV2⟩ : ∃ V, V1.drewN nq = V ∧ At3 V X l m h ∧ At3 V Y l' m' h' ∧ Below w.heap.size w V := ⟨_, rfl, ⟨c0, c1, c2⟩, ⟨d0, d1, d2⟩, below_drewN KB.out _⟩
          rw [eV2]
          have KB := Lib.hid kbV2
          clear eV2 kbV2 c0 c1 c2 d0 d1 d2
          obtain ⟨c0, c1, c2⟩ := c0V2
          obtain ⟨d0, d1, d2⟩ := d0V2
          go_wp2_with fail
          go_ret
          exact ⟨ret_bool (decide_eq_false (by omega)).symm, KB.out⟩
      · have t2 : decide (m' ≤ m) = true := decide_eq_true (by omega)
        refine hK _ _ ?_
        clear hK
        go_wp2_with fail
        refine wp_loop_rounds 4 ?_
        rw [rounds_succ]
        go_wp2_with fail
        go_quiet (fail)
        obtain ⟨V0, eV0, c0V0, d0V0, kbV0⟩ : ∃ V, W.drewN nq = V ∧ At3 V X l m h ∧ At3 V Y l' m' h' ∧ Below w.heap.size w V := ⟨_, rfl, ⟨c0, c1, c2⟩, ⟨d0, d1, d2⟩, below_drewN KB.out _⟩
        rw [eV0]
        have KB := Lib.hid kbV0
        clear eV0 kbV0 c0 c1 c2 d0 d1 d2
        obtain ⟨c0, c1, c2⟩ := c0V0
        obtain ⟨d0, d1, d2⟩ := d0V0
        go_wp2_with fail
        rw [rounds_succ]
        go_wp2_with fail
        go_quiet (fail)
        obtain ⟨V1, eV1, c0V1, d0V1, kbV1⟩ : ∃ V, V0.drewN nq = V ∧ At3 V X l m h ∧ At3 V Y l' m' h' ∧ Below w.heap.size w V := ⟨_, rfl, ⟨c0, c1, c2⟩, ⟨d0, d1, d2⟩, below_drewN KB.out _⟩
        rw [eV1]
        have KB := Lib.hid kbV1
        clear eV1 kbV1 c0 c1 c2 d0 d1 d2
        obtain ⟨c0, c1, c2⟩ := c0V1
        obtain ⟨d0, d1, d2⟩ := d0V1
        go_wp2_with fail
        go_ret
        exact ⟨ret_bool (decide_eq_false (by omega)).symm, KB.out⟩
    · have t1 : decide (l' ≤ l) = true := decide_eq_true (by omega)
      refine hK _ _ ?_
      clear hK
      go_wp2_with fail
      refine wp_loop_rounds 4 ?_
      rw [rounds_succ]
      go_wp2_with fail
      go_quiet (fail)
      obtain ⟨V0, eV0, c0V0, d0V0, kbV0⟩ : ∃ V, W.drewN nq = V ∧ At3 V X l m h ∧ At3 V Y l' m' h' ∧ Below w.heap.size w V := ⟨_, rfl, ⟨c0, c1, c2⟩, ⟨d0, d1, d2⟩, below_drewN KB.out _⟩
      rw [eV0]
      have KB := Lib.hid kbV0
      clear eV0 kbV0 c0 c1 c2 d0 d1 d2
      obtain ⟨c0, c1, c2⟩ := c0V0
      obtain ⟨d0, d1, d2⟩ := d0V0
      go_wp2_with fail
      go_ret
      exact ⟨ret_bool (decide_eq_false (by omega)).symm, KB.out⟩
  have SD : v1.drew.cell? ⟨w.heap.size, 0, none⟩ = some (.int .i8 a) ∧ v1.drew.cell? ⟨w.heap.size, 1, none⟩ = some (.int .i8 b) ∧ v1.drew.cell? ⟨w.heap.size, 2, none⟩ = some (.int .i8 c) ∧ v1.drew.cell? ⟨w.heap.size + 1, 0, none⟩ = some (.int .i8 x) ∧ v1.drew.cell? ⟨w.heap.size + 1, 1, none⟩ = some (.int .i8 y) ∧ v1.drew.cell? ⟨w.heap.size + 1, 2, none⟩ = some (.int .i8 z) := ⟨g00, g01, g02, g10, g11, g12⟩
  have SD0 : v1.cell? ⟨w.heap.size, 0, none⟩ = some (.int .i8 a) ∧ v1.cell? ⟨w.heap.size, 1, none⟩ = some (.int .i8 b) ∧ v1.cell? ⟨w.heap.size, 2, none⟩ = some (.int .i8 c) ∧ v1.cell? ⟨w.heap.size + 1, 0, none⟩ = some (.int .i8 x) ∧ v1.cell? ⟨w.heap.size + 1, 1, none⟩ = some (.int .i8 y) ∧ v1.cell? ⟨w.heap.size + 1, 2, none⟩ = some (.int .i8 z) := ⟨g00, g01, g02, g10, g11, g12⟩
  go_region_held3 (fun v => v.cell? ⟨w.heap.size, 0, none⟩ = some (.int .i8 a) ∧ v.cell? ⟨w.heap.size, 1, none⟩ = some (.int .i8 b) ∧ v.cell? ⟨w.heap.size, 2, none⟩ = some (.int .i8 c) ∧ v.cell? ⟨w.heap.size + 1, 0, none⟩ = some (.int .i8 x) ∧ v.cell? ⟨w.heap.size + 1, 1, none⟩ = some (.int .i8 y) ∧ v.cell? ⟨w.heap.size + 1, 2, none⟩ = some (.int .i8 z)) (first | (with_reducible exact SD) | (with_reducible exact P1) | (with_reducible exact P2) | exact keepW (n := w.heap.size + 1 + 1) (by repeat (first | ((with_reducible refine Below.setCell ?_ ?_ _); rotate_left; (first | omega | (simp; omega))) | ((with_reducible refine Below.alloc ?_ ?_ _); rotate_left; (first | omega | (simp; omega))) | (with_reducible refine Below.drew ?_) | (with_reducible exact Below.refl _ _))) (by omega) (by omega) P2 | exact keepW (n := w.heap.size + 1 + 1) (by repeat (first | ((with_reducible refine Below.setCell ?_ ?_ _); rotate_left; (first | omega | (simp; omega))) | ((with_reducible refine Below.alloc ?_ ?_ _); rotate_left; (first | omega | (simp; omega))) | (with_reducible refine Below.drew ?_) | (with_reducible exact Below.refl _ _))) (by omega) (by omega) P1 | exact keepW (n := w.heap.size + 1 + 1) (by repeat (first | ((with_reducible refine Below.setCell ?_ ?_ _); rotate_left; (first | omega | (simp; omega))) | ((with_reducible refine Below.alloc ?_ ?_ _); rotate_left; (first | omega | (simp; omega))) | (with_reducible refine Below.drew ?_) | (with_reducible exact Below.refl _ _))) (by omega) (by omega) SD0) (first | (go_at_call 26; (with_reducible refine (asc_any a b c _).mono ?_); rintro e z1 ⟨rfl, b1⟩; have P1 : z1.cell? ⟨w.heap.size, 0, none⟩ = some (.int .i8 a) ∧ z1.cell? ⟨w.heap.size, 1, none⟩ = some (.int .i8 b) ∧ z1.cell? ⟨w.heap.size, 2, none⟩ = some (.int .i8 c) ∧ z1.cell? ⟨w.heap.size + 1, 0, none⟩ = some (.int .i8 x) ∧ z1.cell? ⟨w.heap.size + 1, 1, none⟩ = some (.int .i8 y) ∧ z1.cell? ⟨w.heap.size + 1, 2, none⟩ = some (.int .i8 z) := keep2' b1 (by assumption); have hz1 : w.heap.size + 1 < z1.heap.size := World.block_lt_of_cell? z1 _ P1.2.2.2.1; have hy1 : w.heap.size < z1.heap.size := World.block_lt_of_cell? z1 _ P1.1; have C2 : Hid (Below w.heap.size w z1) := Lib.hid (Below.trans (by repeat (first | ((with_reducible refine Below.setCell ?_ ?_ _); rotate_left; (first | omega | (simp; omega))) | ((with_reducible refine Below.alloc ?_ ?_ _); rotate_left; (first | omega | (simp; omega))) | (with_reducible refine Below.drew ?_) | (with_reducible exact C1.out))) (b1.mono (by first | omega | (simp; omega)))); (try (have ya : Blk3 z1 v1.heap.size 49 0 0 0 := (by first | exact Blk3.below (w := (v1.alloc (Obj.cells #[.int .i8 0, .int .i8 0, .int .i8 0] 49)).drew) (Blk3.new v1 _ 0 0 0) b1 (by first | (simp; done) | (simp; omega)) | exact Blk3.below (w := ((v1.alloc (Obj.cells #[.int .i8 0, .int .i8 0, .int .i8 0] 49)).alloc (Obj.cells #[.int .i8 0, .int .i8 0, .int .i8 0] 49)).drew) (Blk3.alloc (Blk3.new v1 _ 0 0 0) _) b1 (by first | (simp; done) | (simp; omega))); have ya0 := ya.at3.1; have ya1 := ya.at3.2.1; have ya2 := ya.at3.2.2; have yaf0 := ya.frozen 0; have yaf1 := ya.frozen 1; have yaf2 := ya.frozen 2; have yal := ya.lt)); (try (have yb : Blk3 z1 (v1.heap.size + 1) 49 0 0 0 := (by have h := Blk3.new (v1.alloc (Obj.cells #[.int .i8 0, .int .i8 0, .int .i8 0] 49)) 49 0 0 0; simp only [World.size_alloc] at h; exact Blk3.below (w := ((v1.alloc (Obj.cells #[.int .i8 0, .int .i8 0, .int .i8 0] 49)).alloc (Obj.cells #[.int .i8 0, .int .i8 0, .int .i8 0] 49)).drew) h b1 (by first | (simp; done) | (simp; omega))); have yb0 := yb.at3.1; have yb1 := yb.at3.2.1; have yb2 := yb.at3.2.2; have ybf0 := yb.frozen 0; have ybf1 := yb.frozen 1; have ybf2 := yb.frozen 2; have ybl := yb.lt))) | (go_at_call 26; (with_reducible refine (asc_any x y z _).mono ?_); rintro e z2 ⟨rfl, b2⟩; have P2 : z2.cell? ⟨w.heap.size, 0, none⟩ = some (.int .i8 a) ∧ z2.cell? ⟨w.heap.size, 1, none⟩ = some (.int .i8 b) ∧ z2.cell? ⟨w.heap.size, 2, none⟩ = some (.int .i8 c) ∧ z2.cell? ⟨w.heap.size + 1, 0, none⟩ = some (.int .i8 x) ∧ z2.cell? ⟨w.heap.size + 1, 1, none⟩ = some (.int .i8 y) ∧ z2.cell? ⟨w.heap.size + 1, 2, none⟩ = some (.int .i8 z) := keep2' b2 (by assumption); have hz2 : w.heap.size + 1 < z2.heap.size := World.block_lt_of_cell? z2 _ P2.2.2.2.1; have hy2 : w.heap.size < z2.heap.size := World.block_lt_of_cell? z2 _ P2.1; have C3 : Hid (Below w.heap.size w z2) := Lib.hid (Below.trans (by repeat (first | ((with_reducible refine Below.setCell ?_ ?_ _); rotate_left; (first | omega | (simp; omega))) | ((with_reducible refine Below.alloc ?_ ?_ _); rotate_left; (first | omega | (simp; omega))) | (with_reducible refine Below.drew ?_) | (with_reducible exact C2.out))) (b2.mono (by first | omega | (simp; omega)))); (try (have u : Blk3 z2 _ 49 0 0 0 := (by first | exact Blk3.below ya b2 (by first | exact ya.lt | (simp; omega)) | exact Blk3.below (Blk3.alloc ya _) b2 (by first | exact (Blk3.alloc ya _).lt | (simp; omega))); have u0 := u.at3.1; have u1 := u.at3.2.1; have u2 := u.at3.2.2; have uf0 := u.frozen 0; have uf1 := u.frozen 1; have uf2 := u.frozen 2; have ul := u.lt)); (try (have v : Blk3 z2 _ 49 0 0 0 := (by first | exact Blk3.below yb b2 (by first | exact yb.lt | (simp; omega)) | exact Blk3.below (Blk3.alloc yb _) b2 (by first | exact (Blk3.alloc yb _).lt | (simp; omega))); have v0 := v.at3.1; have v1 := v.at3.2.1; have v2 := v.at3.2.2; have vf0 := v.frozen 0; have vf1 := v.frozen 1; have vf2 := v.frozen 2; have vl := v.lt)); (try (have ta : Blk3 z2 z1.heap.size 49 0 0 0 := (by first | exact Blk3.below (Blk3.new z1 _ 0 0 0) b2 (by simp) | exact Blk3.below (Blk3.alloc (Blk3.new z1 _ 0 0 0) _) b2 (by simp; omega)); have ta0 := ta.at3.1; have ta1 := ta.at3.2.1; have ta2 := ta.at3.2.2; have taf0 := ta.frozen 0; have taf1 := ta.frozen 1; have taf2 := ta.frozen 2; have tal := ta.lt)); (try (have tb : Blk3 z2 (z1.heap.size + 1) 49 0 0 0 := (by have h := Blk3.new (z1.alloc (Obj.cells #[.int .i8 0, .int .i8 0, .int .i8 0] 49)) 49 0 0 0; simp only [World.size_alloc] at h; exact Blk3.below h b2 (by simp)); have tb0 := tb.at3.1; have tb1 := tb.at3.2.1; have tb2 := tb.at3.2.2; have tbf0 := tb.frozen 0; have tbf1 := tb.frozen 1; have tbf2 := tb.frozen 2; have tbl := tb.lt))))
  all_goals
    change K _ _
    refine rest _ _ _ ?_ ?_ ?_
    · refine ⟨?_, ?_, ?_⟩ <;> go_simp
    · refine ⟨?_, ?_, ?_⟩ <;> go_simp
    · exact (by repeat (first | ((with_reducible refine Below.setCell ?_ ?_ _); rotate_left; (first | omega | (simp; omega))) | ((with_reducible refine Below.alloc ?_ ?_ _); rotate_left; (first | omega | (simp; omega))) | (with_reducible refine Below.drew ?_) | (with_reducible exact C3.out)))
end Go.Proofs.Ytgdekplkadnmpaa
