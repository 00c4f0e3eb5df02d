/-
  The contract of impl.HowMany at every argument.
-/
import Derived.Test.YtkhemijanhcibabHI
namespace Go.Proofs.Ytkhemijanhcibab
open Go Go.RowKit
set_option linter.unusedVariables false

set_option maxHeartbeats 1600000 in
set_option maxRecDepth 100000 in
theorem ihm_any (a b c x y z : Int) (w : World) (ha : I8s a b c) (hx : I8s x y z) :
    Calls Try.prog 10 #[.agg #[.int .i8 a, .int .i8 b, .int .i8 c], .agg #[.int .i8 x, .int .i8 y, .int .i8 z]] w (RetHM w.heap.size w (hmRes a b c x y z) (hmCode a b c x y z)) := by
  have HA := Lib.hid ha
  have HB := Lib.hid hx
  clear ha hx
  obtain ⟨v0, e0⟩ : ∃ v, w.alloc (.cells #[.int .i8 a, .int .i8 b, .int .i8 c] 25) = v := ⟨_, rfl⟩
  have s0 : v0.heap.size = w.heap.size + 1 := by rw [← e0]; simp
  have q0 : At3 v0 (w.heap.size) a b c := by rw [← e0]; exact At3.new _ _ _ _ _
  have c0 : Below w.heap.size w v0 := by rw [← e0]; exact (Below.refl _ _).alloc (Nat.le_refl _) _
  obtain ⟨v1, e1⟩ : ∃ v, v0.alloc (.cells #[.int .i8 x, .int .i8 y, .int .i8 z] 25) = v := ⟨_, rfl⟩
  have s1 : v1.heap.size = w.heap.size + 1 + 1 := by rw [← e1]; simp [s0]
  have q1 : At3 v1 (w.heap.size + 1) x y z := by rw [← e1, ← s0]; exact At3.new _ _ _ _ _
  have c1 : Below w.heap.size w v1 := by rw [← e1]; exact c0.alloc (by omega) _
  have q0 : At3 v1 (w.heap.size) a b c := by rw [← e1]; exact q0.alloc _
  obtain ⟨v2, e2⟩ : ∃ v, v1.alloc (.cells #[.int .i8 0, .int .i8 0, .int .i8 0] 25) = v := ⟨_, rfl⟩
  have s2 : v2.heap.size = w.heap.size + 1 + 1 + 1 := by rw [← e2]; simp [s1]
  have k2 : Blk3 v2 (w.heap.size + 1 + 1) 25 0 0 0 := by rw [← e2, ← s1]; exact Blk3.new _ _ _ _ _
  have c2 : Below w.heap.size w v2 := by rw [← e2]; exact c1.alloc (by omega) _
  have q0 : At3 v2 (w.heap.size) a b c := by rw [← e2]; exact q0.alloc _
  have q1 : At3 v2 (w.heap.size + 1) x y z := by rw [← e2]; exact q1.alloc _
  have E := Lib.hid (And.intro e0 (And.intro e1 e2))
  have S2 := Lib.hid s2
  have C2 := Lib.hid c2
  have Q0 := Lib.hid q0
  have Q1 := Lib.hid q1
  have K2 := Lib.hid k2
  clear e0 e1 e2 s0 s1 s2 q0 q1 c0 c1 c2 k2
  obtain ⟨o, ho⟩ : ∃ o, okB a b c = o := ⟨_, rfl⟩
  obtain ⟨p, hp⟩ : ∃ p, okB x y z = p := ⟨_, rfl⟩
  have HO := Lib.hid ho
  have HP := Lib.hid hp
  clear ho hp
  cases o
  · have HR := Lib.hid (hm_no (a := a) (b := b) (c := c) (x := x) (y := y) (z := z) (.inl HO.out))
    go_enter Try.func10, Try.ntmps10
    go_wp2_with fail
    rw [E.out.1, E.out.2.1, E.out.2.2]
    refine (ivbox_any a b c _ HA.out).mono ?_
    rintro e w3 ⟨rfl, b2⟩
    rw [HO.out]
    have R0 := Q0.out.below b2
    have R1 := Q1.out.below b2
    have KK := Lib.hid (K2.out.below b2 K2.out.lt)
    have B := Lib.hid (blink C2.out b2)
    clear b2
    have m0 := R0.1
    have m1 := R0.2.1
    have m2 := R0.2.2
    have n0 := R1.1
    have n1 := R1.2.1
    have n2 := R1.2.2
    have r0 := KK.out.at3.1
    have r1 := KK.out.at3.2.1
    have r2 := KK.out.at3.2.2
    have f0 := KK.out.frozen 0
    have f1 := KK.out.frozen 1
    have f2 := KK.out.frozen 2
    go_wp2_with fail
    clear r0 r1 r2
    obtain ⟨Wf, eW⟩ : ∃ Wf, ((w3.setCell ⟨w.heap.size + 1 + 1, 0, none⟩ (.int .i8 0)).setCell ⟨w.heap.size + 1 + 1, 1, none⟩ (.int .i8 0)).setCell ⟨w.heap.size + 1 + 1, 2, none⟩ (.int .i8 0) = Wf := ⟨_, rfl⟩
    rw [eW]
    have kf : Blk3 Wf (w.heap.size + 1 + 1) 25 0 0 0 := by rw [← eW]; exact KK.out.store
    have bf : Below w.heap.size w Wf := by rw [← eW]; exact ((B.out.setCell (by show w.heap.size ≤ w.heap.size + 1 + 1; omega) _).setCell (by show w.heap.size ≤ w.heap.size + 1 + 1; omega) _).setCell (by show w.heap.size ≤ w.heap.size + 1 + 1; omega) _
    have r0 := kf.at3.1
    have r1 := kf.at3.2.1
    have r2 := kf.at3.2.2
    exact bodyPost_ret (v := .tuple #[.int .i64 0, .agg #[.int .i8 0, .int .i8 0, .int .i8 0], .int .i64 1]) (by simp [results, Try.results10, go_sem, r0, r1, r2]) rfl (ret_hm HR.out bf)
  · cases p
    · have HR := Lib.hid (hm_no (a := a) (b := b) (c := c) (x := x) (y := y) (z := z) (.inr HP.out))
      go_enter Try.func10, Try.ntmps10
      go_wp2_with fail
      rw [E.out.1, E.out.2.1, E.out.2.2]
      refine (ivbox_any a b c _ HA.out).mono ?_
      rintro e w3 ⟨rfl, b2⟩
      rw [HO.out]
      have R0 := Q0.out.below b2
      have R1 := Q1.out.below b2
      have KK := Lib.hid (K2.out.below b2 K2.out.lt)
      have B := Lib.hid (blink C2.out b2)
      clear b2
      have m0 := R0.1
      have m1 := R0.2.1
      have m2 := R0.2.2
      have n0 := R1.1
      have n1 := R1.2.1
      have n2 := R1.2.2
      have r0 := KK.out.at3.1
      have r1 := KK.out.at3.2.1
      have r2 := KK.out.at3.2.2
      have f0 := KK.out.frozen 0
      have f1 := KK.out.frozen 1
      have f2 := KK.out.frozen 2
      go_wp2_with fail
      refine (ivbox_any x y z _ HB.out).mono ?_
      rintro e w4 ⟨rfl, b2⟩
      rw [HP.out]
      have R0 := R0.below b2
      have R1 := R1.below b2
      have KK := Lib.hid (KK.out.below b2 KK.out.lt)
      have B := Lib.hid (blink B.out b2)
      clear b2 m0 m1 m2 n0 n1 n2 r0 r1 r2 f0 f1 f2
      have m0 := R0.1
      have m1 := R0.2.1
      have m2 := R0.2.2
      have n0 := R1.1
      have n1 := R1.2.1
      have n2 := R1.2.2
      have r0 := KK.out.at3.1
      have r1 := KK.out.at3.2.1
      have r2 := KK.out.at3.2.2
      have f0 := KK.out.frozen 0
      have f1 := KK.out.frozen 1
      have f2 := KK.out.frozen 2
      go_wp2_with fail
      clear r0 r1 r2
      obtain ⟨Wf, eW⟩ : ∃ Wf, ((w4.setCell ⟨w.heap.size + 1 + 1, 0, none⟩ (.int .i8 0)).setCell ⟨w.heap.size + 1 + 1, 1, none⟩ (.int .i8 0)).setCell ⟨w.heap.size + 1 + 1, 2, none⟩ (.int .i8 0) = Wf := ⟨_, rfl⟩
      rw [eW]
      have kf : Blk3 Wf (w.heap.size + 1 + 1) 25 0 0 0 := by rw [← eW]; exact KK.out.store
      have bf : Below w.heap.size w Wf := by rw [← eW]; exact ((B.out.setCell (by show w.heap.size ≤ w.heap.size + 1 + 1; omega) _).setCell (by show w.heap.size ≤ w.heap.size + 1 + 1; omega) _).setCell (by show w.heap.size ≤ w.heap.size + 1 + 1; omega) _
      have r0 := kf.at3.1
      have r1 := kf.at3.2.1
      have r2 := kf.at3.2.2
      exact bodyPost_ret (v := .tuple #[.int .i64 0, .agg #[.int .i8 0, .int .i8 0, .int .i8 0], .int .i64 1]) (by simp [results, Try.results10, go_sem, r0, r1, r2]) rfl (ret_hm HR.out bf)
    · have h := hm_ok HO.out HP.out
      rw [h.1, h.2]
      exact callsIn_wide.1 (ihm_in a b c x y z HO.out HP.out w HA.out HB.out)
end Go.Proofs.Ytkhemijanhcibab
