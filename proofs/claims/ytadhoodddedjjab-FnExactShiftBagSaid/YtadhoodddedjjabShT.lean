/-
  The model's shift where it is refused: spec.l04Shift's errors.
-/
import Derived.Test.YtadhoodddedjjabShS
namespace Go.Proofs.Ytadhoodddedjjab
open Go Go.RowKit
set_option linter.unusedVariables false

theorem below2 (w : World) (o o' : Obj) : Below w.heap.size w ((w.alloc o).alloc o') := ((Below.refl _ _).alloc (Nat.le_refl _) _).alloc (by simp) _
set_option maxHeartbeats 4000000 in
set_option maxRecDepth 100000 in
theorem sshift_bad (v : Value) (R : List (List Int)) (f t : Int) (w : World) (hv : ReadsS w v R) (hvl : vldM R = true) (hf1 : -128 ≤ f) (hf2 : f ≤ 127) (ht1 : -128 ≤ t) (ht2 : t ≤ 127) (hb : shC R f t ≠ 0) :
    Calls Try.prog 42 #[v, .agg #[.int .i8 f, .int .i8 t]] w (RetMX1 w [] (shC R f t)) := by
  obtain ⟨q1, q4, hok⟩ := vldM_spec hvl
  obtain ⟨b, cap, rfl, g1, g2, g3, hc⟩ := hv
  obtain ⟨n, hn⟩ : ∃ n, R.length = n := ⟨_, rfl⟩
  have HN := Lib.hid hn
  have HC := Lib.hid hc
  have HOK := Lib.hid hok
  have HBAD := Lib.hid hb
  rw [hn] at q1 q4 g1 ⊢
  clear hc hok hvl hn hb
  have MADE : ∀ (o : Obj), OwnMX w.heap.size ((w.alloc o).alloc (.cells #[] 52)).heap.size ((w.alloc o).alloc (.cells #[] 52)) (.slice (some ⟨w.heap.size + 1, 0, none⟩) 0 0) [] := fun o => by
    have h := ownMX_made w.heap.size ((w.alloc o).alloc (.cells #[] 52)).heap.size (w.alloc o) (by simp) (by simp)
    have e : (w.alloc o).heap.size = w.heap.size + 1 := by simp
    rw [e] at h
    exact h
  have DONE : ∀ (c : Int), RetMX1 w [] c (.returned (.tuple #[.slice (some ⟨w.heap.size + 1, 0, none⟩) 0 0, .int .i64 c])) ((w.alloc (.cells #[.int .i8 f, .int .i8 t] 34)).alloc (.cells #[] 52)) := fun c =>
    ⟨_, rfl, MADE _, below2 w _ _⟩
  have HD := Lib.hid DONE
  clear DONE MADE
  by_cases a1 : 0 ≤ f ∧ f ≤ (n : Int) - 1
  · by_cases a2 : 0 ≤ t ∧ t ≤ (n : Int) - 1
    · have s1 := inB_true a1
      have s2 := inB_true a2
      by_cases a3 : f = t
      · have s3 : (f == t) = true := by simp [a3]
        have HE : Hid (shC R f t = 2) := Lib.hid (shC_2 (.inr (.inr a3)))
        rw [HE.out]
        clear a3
        go_enter Try.func42, Try.ntmps42
        go_wp2_with (go_at_call 50; refine (in_any _ _ _ _).mono ?_; rintro e w2 ⟨rfl, hw2⟩; subst hw2)
        go_ret2
        exact HD.out 2
      · have s3 : (f == t) = false := by simpa using a3
        obtain ⟨f, rfl⟩ : ∃ f' : Nat, f = f' := ⟨f.toNat, by omega⟩
        obtain ⟨t, rfl⟩ : ∃ t' : Nat, t = t' := ⟨t.toNat, by omega⟩
        have hft : f ≠ t := by omega
        have hfR : f < R.length := by have := HN.out; omega
        have htR : t < R.length := by have := HN.out; omega
        obtain ⟨uf, c0, r0⟩ := HC.out f hfR
        obtain ⟨ut, c1, r1⟩ := HC.out t htR
        obtain ⟨fa, fc, rfl, _⟩ := r0.is
        obtain ⟨ta, tc, rfl, _⟩ := r1.is
        have f6 := (HOK.out f hfR).1
        have t6 := (HOK.out t htR).1
        have hfn : (f : Int) < (n : Int) := by omega
        have htn : (t : Int) < (n : Int) := by omega
        by_cases a4 : (R.getD f []).length = 0
        · have HE : Hid (shC R f t = 6) := Lib.hid (shC_6 hfR htR hft a4)
          obtain ⟨lx, hlx⟩ : ∃ l, (R.getD f []).length = l := ⟨_, rfl⟩
          rw [hlx] at c0 a4 f6
          have s5 : decide ((lx : Int) - 1 < 0) = true := decide_eq_true (by omega)
          rw [HE.out]
          clear r0 r1 hlx t6 hfR htR c1
          go_enter Try.func42, Try.ntmps42
          go_wp2_with (go_at_call 50; refine (in_any _ _ _ _).mono ?_; rintro e w2 ⟨rfl, hw2⟩; subst hw2)
          go_ret2
          exact HD.out 6
        · have a5 : (R.getD t []).length = 6 := Classical.byContradiction (fun h => HBAD.out (by
            rw [shC, if_neg (by omega), if_neg (by simpa using a4), if_neg (by simpa using h)]))
          have HE : Hid (shC R f t = 3) := Lib.hid (by
            rw [shC, if_neg (by omega), if_neg (by simpa using a4), if_pos (by simpa using a5)])
          obtain ⟨lx, hlx⟩ : ∃ l, (R.getD f []).length = l := ⟨_, rfl⟩
          rw [hlx] at c0 a4 f6
          obtain ⟨ly, hly⟩ : ∃ l, (R.getD t []).length = l := ⟨_, rfl⟩
          rw [hly] at c1 a5 t6
          have s5 : decide ((lx : Int) - 1 < 0) = false := decide_eq_false (by omega)
          have s4 : ((ly : Int) == 6) = true := by simp; omega
          rw [HE.out]
          clear r0 r1 hlx hly hfR htR
          go_enter Try.func42, Try.ntmps42
          go_wp2_with (go_at_call 50; refine (in_any _ _ _ _).mono ?_; rintro e w2 ⟨rfl, hw2⟩; subst hw2)
          go_ret2
          exact HD.out 3
    · have s1 := inB_true a1
      have s2 := inB_false a2
      have HE : Hid (shC R f t = 2) := Lib.hid (shC_2 (.inr (.inl (by rw [HN.out]; omega))))
      rw [HE.out]
      clear a2
      go_enter Try.func42, Try.ntmps42
      go_wp2_with (go_at_call 50; refine (in_any _ _ _ _).mono ?_; rintro e w2 ⟨rfl, hw2⟩; subst hw2)
      go_ret2
      exact HD.out 2
  · have s1 := inB_false a1
    have HE : Hid (shC R f t = 2) := Lib.hid (shC_2 (.inl (by rw [HN.out]; omega)))
    rw [HE.out]
    clear a1
    go_enter Try.func42, Try.ntmps42
    go_wp2_with (go_at_call 50; refine (in_any _ _ _ _).mono ?_; rintro e w2 ⟨rfl, hw2⟩; subst hw2)
    go_ret2
    exact HD.out 2
end Go.Proofs.Ytadhoodddedjjab
