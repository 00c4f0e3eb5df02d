/-
  The walk of FnExactTurnsOf: program and model answer the same at every box, and the answer is new memory at each call.
-/
import Derived.Test.YtkhemijanhcibabColl
namespace Go.Proofs.Ytkhemijanhcibab.fnExactTurnsOf
open Go Go.RowKit
set_option linter.unusedVariables false

theorem apartB {v : Value} {k : Nat} {row : Option Nat} {T : TypeId} {B : Nat} {w : World} {ps : List Tri} (h : OwnB T B w v ps) (hr : ∀ r, row = some r → r < B ∨ w.heap.size ≤ r) : v.ownBlock = none ∨ v.ownBlock ≠ row := by
  cases hv : v.ownBlock with
  | none => exact .inl rfl
  | some k =>
    refine .inr fun e => ?_
    have h1 := h.block k hv
    have h2 := hr k e.symm
    omega

theorem cell_grown {W W' : World} {row : Option Nat} {p : Addr} {x : Value} (hg : W.grownBy W' row) (h : W.cell? p = some x) (hne : some p.block ≠ row) : W'.cell? p = some x :=
  (World.cell?_of_block (w := W) (a := p) (hg.block _ (World.block_lt_of_cell? W _ h) hne)).trans h

set_option maxHeartbeats 4000000 in
set_option maxRecDepth 100000 in
theorem walk (x00 x01 x02 : Int) (w : World) (w0 : I8s x00 x01 x02) :
    Calls Try.prog 4 #[.agg #[.int .i8 x00, .int .i8 x01, .int .i8 x02]] w fun e w' => e = .returned (.bool true) ∧ Below w.heap.size w w' := by
  have HA := Lib.hid w0
  have hlen := tn_len x00 x01 x02
  obtain ⟨ps, hps⟩ : ∃ ps, tnRes x00 x01 x02 = ps := ⟨_, rfl⟩
  obtain ⟨kk, hkk⟩ : ∃ c, tnCode x00 x01 x02 = c := ⟨_, rfl⟩
  rw [hps] at hlen
  have HSC : Hid (∀ W, Calls Try.prog 12 #[.agg #[.int .i8 x00, .int .i8 x01, .int .i8 x02]] W fun e w' => ∃ v, e = .returned (.tuple #[v, .int .i64 kk]) ∧ OwnB 25 W.heap.size w' v ps ∧ Below W.heap.size W w') := Lib.hid (fun W => by
    have h := stn_any x00 x01 x02 W w0
    unfold RetTn at h
    rw [hps, hkk] at h
    exact h)
  have HIC : Hid (∀ W, Calls Try.prog 13 #[.agg #[.int .i8 x00, .int .i8 x01, .int .i8 x02]] W fun e w' => ∃ v, e = .returned (.tuple #[v, .int .i64 kk]) ∧ OwnB 25 W.heap.size w' v ps ∧ Below W.heap.size W w') := Lib.hid (fun W => by
    have h := itn_any x00 x01 x02 W w0
    unfold RetTn at h
    rw [hps, hkk] at h
    exact h)
  have tk : (kk != kk) = false := by simp
  have HLEN := Lib.hid hlen
  obtain ⟨n, hn⟩ : ∃ n, ps.length = n := ⟨_, rfl⟩
  have hn6 : n ≤ 6 := by omega
  have HN := Lib.hid hn
  clear w0 hps hkk hlen hn
  go_enter Try.func4, Try.ntmps4
  go_wp2_with fail
  obtain ⟨v0, e0⟩ : ∃ v, w.alloc (.cells #[.int .i8 x00, .int .i8 x01, .int .i8 x02] 24) = v := ⟨_, rfl⟩
  have q : At3 v0 (w.heap.size) x00 x01 x02 := by rw [← e0]; exact At3.new _ _ _ _ _
  have C : Hid (Below w.heap.size w v0) := Lib.hid (by rw [← e0]; exact (Below.refl _ _).alloc (Nat.le_refl _) _)
  rw [e0]
  clear e0
  have g0 := q.1
  have g1 := q.2.1
  have g2 := q.2.2
  refine (toBox_any x00 x01 x02 _).mono ?_
  rintro e z1 ⟨rfl, b1⟩
  have q := q.below b1
  have C := Lib.hid (blink C.out b1)
  have g0 := q.1
  have g1 := q.2.1
  have g2 := q.2.2
  clear b1
  go_wp2_with fail
  refine (HSC.out _).mono ?_
  rintro e z2 ⟨u0, rfl, o1, b1⟩
  have q := q.below b1
  have C := Lib.hid (blink C.out b1)
  have g0 := q.1
  have g1 := q.2.1
  have g2 := q.2.2
  have R0 := Lib.hid o1
  have hz0 : z1.heap.size ≤ z2.heap.size := b1.size
  clear b1 o1
  go_wp2_with fail
  refine (toBox_any x00 x01 x02 _).mono ?_
  rintro e z3 ⟨rfl, b1⟩
  have q := q.below b1
  have C := Lib.hid (blink C.out b1)
  have R0 := Lib.hid (R0.out.below b1)
  have g0 := q.1
  have g1 := q.2.1
  have g2 := q.2.2
  clear b1
  go_wp2_with fail
  have hlow : ∀ k, u0.ownBlock = some k → k < z3.heap.size := fun k hk => (R0.out.block k hk).2
  have HLOW := Lib.hid hlow
  have HQ : Hid (w.heap.size < z3.heap.size) := Lib.hid (World.block_lt_of_cell? _ _ g0)
  clear hlow
  refine (HIC.out _).mono ?_
  rintro e z4 ⟨u1, rfl, o1, b1⟩
  have q := q.below b1
  have C := Lib.hid (blink C.out b1)
  have R0 := Lib.hid (R0.out.below b1)
  have g0 := q.1
  have g1 := q.2.1
  have g2 := q.2.2
  have R1 := Lib.hid o1
  have hzs : z3.heap.size ≤ z4.heap.size := b1.size
  clear b1 o1
  go_wp2_with fail
  refine (eqBoxS_any _ _ ps _ R1.out.reads R0.out.reads (by have := HN.out; omega)).mono ?_
  rintro e z5 ⟨rfl, b1⟩
  have q := q.below b1
  have C := Lib.hid (blink C.out b1)
  have R0 := Lib.hid (R0.out.below b1)
  have R1 := Lib.hid (R1.out.below b1)
  have g0 := q.1
  have g1 := q.2.1
  have g2 := q.2.2
  clear b1
  go_wp2_with fail
  refine (markB_any _ _ _ ps 1 _ R1.out (by omega) (by omega) (by have := HN.out; omega)).mono ?_
  rintro e z6 ⟨rfl, o1, k1⟩
  rw [HN.out]
  have hrow : ∀ k, u1.ownBlock = some k → z3.heap.size ≤ k := fun k hk => (R1.out.block k hk).1
  have R0 := Lib.hid (R0.out.kept k1 (by
    cases hv : u0.ownBlock with
    | none => exact .inl rfl
    | some k =>
      refine .inr fun e => ?_
      have h1 := HLOW.out k hv
      have h2 := hrow k e.symm
      omega))
  have C := Lib.hid (C.out.grown k1 C.out.size (fun k hk => by have := hrow k hk; have := HQ.out; omega))
  have q := (show At3 z6 w.heap.size x00 x01 x02 from ⟨(cell_grown k1 g0 (fun e => by have := hrow w.heap.size e.symm; have := HQ.out; omega)), (cell_grown k1 g1 (fun e => by have := hrow w.heap.size e.symm; have := HQ.out; omega)), (cell_grown k1 g2 (fun e => by have := hrow w.heap.size e.symm; have := HQ.out; omega))⟩)
  have R1 := Lib.hid o1
  clear k1 o1 hrow
  have g0 := q.1
  have g1 := q.2.1
  have g2 := q.2.2
  go_wp2_with fail
  refine (heldB_any _ ps.length 1 _ R1.out.reads (by omega) (by omega) (by have := HN.out; omega)).mono ?_
  rintro e z7 ⟨rfl, b1⟩
  rw [HN.out]
  have q := q.below b1
  have C := Lib.hid (blink C.out b1)
  have R0 := Lib.hid (R0.out.below b1)
  have R1 := Lib.hid (R1.out.below b1)
  have g0 := q.1
  have g1 := q.2.1
  have g2 := q.2.2
  clear b1
  go_wp2_with fail
  refine (toBox_any x00 x01 x02 _).mono ?_
  rintro e z8 ⟨rfl, b1⟩
  have q := q.below b1
  have C := Lib.hid (blink C.out b1)
  have R0 := Lib.hid (R0.out.below b1)
  have R1 := Lib.hid (R1.out.below b1)
  have g0 := q.1
  have g1 := q.2.1
  have g2 := q.2.2
  clear b1
  go_wp2_with fail
  refine (HIC.out _).mono ?_
  rintro e z9 ⟨u2, rfl, o1, b1⟩
  have q := q.below b1
  have C := Lib.hid (blink C.out b1)
  have R0 := Lib.hid (R0.out.below b1)
  have R1 := Lib.hid (R1.out.below b1)
  have g0 := q.1
  have g1 := q.2.1
  have g2 := q.2.2
  have R2 := Lib.hid o1
  clear b1 o1
  go_wp2_with fail
  refine (eqBoxS_any _ _ ps _ R2.out.reads R0.out.reads (by have := HN.out; omega)).mono ?_
  rintro e z10 ⟨rfl, b1⟩
  have q := q.below b1
  have C := Lib.hid (blink C.out b1)
  have R0 := Lib.hid (R0.out.below b1)
  have R1 := Lib.hid (R1.out.below b1)
  have R2 := Lib.hid (R2.out.below b1)
  have g0 := q.1
  have g1 := q.2.1
  have g2 := q.2.2
  clear b1
  go_wp2_with fail
  refine (heldB_any _ ps.length 1 _ R1.out.reads (by omega) (by omega) (by have := HN.out; omega)).mono ?_
  rintro e z11 ⟨rfl, b1⟩
  rw [HN.out]
  have q := q.below b1
  have C := Lib.hid (blink C.out b1)
  have R0 := Lib.hid (R0.out.below b1)
  have R1 := Lib.hid (R1.out.below b1)
  have R2 := Lib.hid (R2.out.below b1)
  have g0 := q.1
  have g1 := q.2.1
  have g2 := q.2.2
  clear b1
  go_wp2_with fail
  go_ret
  exact ⟨rfl, C.out⟩
end Go.Proofs.Ytkhemijanhcibab.fnExactTurnsOf
