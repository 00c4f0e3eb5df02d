/-
  Contract of the model's SplitRound, as the law calls it.
-/
import Derived.Test.YtadhoodddedjjaaPkJ
namespace Go.Proofs.Ytadhoodddedjjaa
open Go Go.RowKit
set_option linter.unusedVariables false

set_option maxHeartbeats 4000000 in
set_option maxRecDepth 100000 in
theorem ssplit_any (v : Value) (ps : List (Int × Int)) (most : Int) (w : World) (hv : ReadsQ w v ps) (hfit : FitsQ ps) (hx : ps.length ≤ 1048576) (hwf : (Lit.int .i64 most).wf = true) :
    Calls Try.prog 35 #[v, .int .i64 most] w (RetI2 w.heap.size w (splitR ps most) (splitN ps most) (splitC ps most)) := by
  have HV := Lib.hid hv
  have hmx := (i64_bounds hwf).2
  clear hwf
  cases hvl : vldQ ps
  · have HR := Lib.hid (splitC_1 (most := most) hvl)
    rw [HR.out.1, HR.out.2.1, HR.out.2.2]
    go_enter Try.func35, Try.ntmps35
    go_wp2_with fail
    refine (sokQ_any _ ps _ hv hfit hx).mono ?_
    rintro e w2 ⟨rfl, b2⟩
    rw [hvl]
    go_wp2_with fail
    go_ret3
    exact ⟨_, rfl, World.ownsRow_made w2 #[] 0 b2.size (Nat.zero_le _) rfl, b2.alloc b2.size _⟩
  · have HVL := Lib.hid hvl
    by_cases hm : most < 1
    · have HR := Lib.hid (splitC_2 hvl hm)
      rw [HR.out.1, HR.out.2.1, HR.out.2.2]
      have t1 : decide (most < 1) = true := decide_eq_true hm
      go_enter Try.func35, Try.ntmps35
      go_wp2_with fail
      refine (sokQ_any _ ps _ hv hfit hx).mono ?_
      rintro e w2 ⟨rfl, b2⟩
      rw [hvl]
      clear hvl
      go_wp2_with fail
      go_ret3
      exact ⟨_, rfl, World.ownsRow_made w2 #[] 0 b2.size (Nat.zero_le _) rfl, b2.alloc b2.size _⟩
    · have t1 : decide (most < 1) = false := decide_eq_false hm
      have hm1 : 1 ≤ most := by omega
      go_enter Try.func35, Try.ntmps35
      go_wp2_with fail
      refine (sokQ_any _ ps _ hv hfit hx).mono ?_
      rintro e w2 ⟨rfl, b2⟩
      rw [hvl]
      clear hvl
      have hs2 : w.heap.size ≤ w2.heap.size := b2.size
      go_wp2_with fail
      refine (ssplitL_any _ ps _ _ (HV.out.below b2) HVL.out hm1 hmx).mono ?_
      intro e w3 hret
      rcases hret with ⟨hft, u, rfl, o3, b3⟩ | ⟨hno, u, rfl, o3, b3⟩
      · have HR := Lib.hid (splitC_0 HVL.out hm1 hft)
        obtain ⟨h10, hok⟩ := vldQ_spec HVL.out
        have hfb := fill_bd hok h10 most (by omega) 9 hft
        have HB3 := Lib.hid (blink b2 b3)
        have HO3 := Lib.hid (o3.mono hs2)
        obtain ⟨c, hc⟩ : ∃ c, (fill ps most 9).1 = c := ⟨_, rfl⟩
        rw [hc] at hfb HR ⊢
        have hc1 := hfb.1
        have t2 : decide (c < 0) = false := decide_eq_false (by omega)
        clear hc hfb hft h10 hok o3 b3 b2
        go_wp2_with fail
        go_ret3
        rw [HR.out.1, HR.out.2.1, HR.out.2.2]
        exact ⟨_, rfl, HO3.out, HB3.out⟩
      · have HR := Lib.hid (splitC_6 HVL.out hm1 hno)
        have HB3 := Lib.hid (blink b2 b3)
        clear hno o3 b3 b2
        go_wp2_with fail
        go_ret3
        rw [HR.out.1, HR.out.2.1, HR.out.2.2]
        exact ⟨_, rfl, World.ownsRow_made w3 #[] 0 HB3.out.size (Nat.zero_le _) rfl, HB3.out.alloc HB3.out.size _⟩
end Go.Proofs.Ytadhoodddedjjaa
