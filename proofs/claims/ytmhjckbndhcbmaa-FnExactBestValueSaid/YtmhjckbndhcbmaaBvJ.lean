/-
  The contract of impl.BestValue, whatever the code.
-/
import Derived.Test.YtmhjckbndhcbmaaBvI
namespace Go.Proofs.Ytmhjckbndhcbmaa
open Go Go.RowKit
set_option linter.unusedVariables false

set_option maxHeartbeats 2000000 in
set_option maxRecDepth 100000 in
theorem ibest_any (v : Value) (xs : List Int) (n : Int) (w : World) (hv : ReadsI w v xs) (hx : xs.length ≤ 1048576) :
    Calls Try.prog 8 #[v, .int .i64 n] w fun e w' => e = .returned (.tuple #[.int .i64 (bestRes xs n).1, .int .i64 (bestRes xs n).2, .int .i64 (bestCode xs n)]) ∧ Below w.heap.size w w' := by
  by_cases h : codeOf xs (inB n 0 12) = 0 ∧ xs.length ≠ 8
  · obtain ⟨h0, h8⟩ := h
    obtain ⟨f1, f8, fr, g0, g1⟩ := code_stamps h0
    obtain ⟨m, rfl⟩ : ∃ m : Nat, n = (m : Int) := ⟨n.toNat, by omega⟩
    obtain ⟨b, cap, rfl, hc⟩ := reads_row hv f1
    have hcd := bestCode_ok h0 h8
    have hrs := bestRes_ok hcd
    refine (callsIn_wide.1 (ibest_in xs.length b cap m xs rfl f1 (by omega) (by omega) (Lib.hid (vals_of_rise fr)) (Lib.hid h0) w hv hc)).mono ?_
    rintro e w2 ⟨rfl, b2⟩
    rw [hcd, hrs]
    exact ⟨rfl, b2⟩
  · obtain ⟨a, cap, rfl, ha⟩ := id hv
    obtain ⟨len, hlen⟩ : ∃ len, xs.length = len := ⟨_, rfl⟩
    have HL := Lib.hid hlen
    have hb1 : Below w.heap.size w ((w.alloc (.cells #[.slice a len cap] 22)).alloc (.cells #[.int .i64 n] 2)) := ((Below.refl _ _).alloc (Nat.le_refl _) _).alloc (by simp) _
    have BS : BlkA ((w.alloc (.cells #[.slice a len cap] 22)).alloc (.cells #[.int .i64 n] 2)) w.heap.size 22 #[.slice a len cap] := (BlkA.new rfl _ _).alloc _
    obtain ⟨w1, e1⟩ : ∃ w1, (w.alloc (.cells #[.slice a len cap] 22)).alloc (.cells #[.int .i64 n] 2) = w1 := ⟨_, rfl⟩
    rw [e1] at hb1 BS
    rw [hlen] at hv ⊢
    have HCK := Lib.hid (checkst_any _ xs n w1 (hv.below hb1) hx)
    have HE1 := Lib.hid e1
    have HB1 := Lib.hid hb1
    have c0 : w1.cell? ⟨w.heap.size, 0, none⟩ = some (.slice a len cap) := BS.at 0
    obtain ⟨c, hc⟩ : ∃ c, codeOf xs (inB n 0 12) = c := ⟨_, rfl⟩
    have HC := Lib.hid hc
    rw [hc] at h HCK
    clear e1 hb1 BS hv ha hlen hc hx
    by_cases h0 : c = 0
    · have h8 : len = 8 := by rw [← HL.out]; exact Decidable.byContradiction fun h2 => h ⟨h0, h2⟩
      subst h0
      subst h8
      have HCD := Lib.hid (bestCode_full HC.out HL.out)
      have HR := Lib.hid (bestRes_not HCD.out (by omega))
      clear h
      go_enter Try.func8, Try.ntmps8
      go_wp2_with fail
      rw [HE1.out]
      refine HCK.out.mono ?_
      rintro e w2 ⟨rfl, rfl⟩
      go_wp2_with fail
      go_ret3
      exact ⟨ret_best HR.out HCD.out, HB1.out⟩
    · have HCD := Lib.hid (bestCode_err HC.out h0)
      have HR := Lib.hid (bestRes_not HCD.out h0)
      have t1 : (c != 0) = true := by simp [h0]
      have t0 : (c == 0) = false := by simp [h0]
      clear h h0
      go_enter Try.func8, Try.ntmps8
      go_wp2_with fail
      rw [HE1.out]
      refine HCK.out.mono ?_
      rintro e w2 ⟨rfl, rfl⟩
      go_wp2_with fail
      go_ret3
      exact ⟨ret_best HR.out HCD.out, HB1.out⟩
end Go.Proofs.Ytmhjckbndhcbmaa
