/-
  The least hour of a set; the stations of a net, one after the other.
-/
import Derived.Test.YtlempmahkeilpaaAsI
import Derived.Test.YtlempmahkeilpaaArW
namespace Go.Proofs.Ytlempmahkeilpaa
open Go Go.RowKit Go.Shelf
set_option linter.unusedVariables false
attribute [local go_sem] Oper.semAt_some

/-- The least hour, or -1. -/
def frst (p : Nat → Bool) : Int := (hourTo p 301).headD (-1)

set_option maxHeartbeats 1000000 in
theorem istats_any (st sy : Int) (v : Value) (w : World) :
    Calls Try.prog 44 #[.agg #[.int .i8 st, .int .i16 sy, v]] w fun e w' => e = .returned (.func (.func 81) #[] #[.pointer (some ⟨w.heap.size, 0, none⟩)]) ∧ w' = w.alloc (.cells #[.int .i8 st, .int .i16 sy, v] 35) := by
  go_enter Try.func44, Try.ntmps44
  go_wp2_with fail
  go_ret
  exact ⟨rfl, rfl⟩

set_option maxRecDepth 100000 in
set_option maxHeartbeats 1000000 in
theorem stat1_in (n : Nat) (hn : 2 ≤ n) (l Bn : Nat) (sn : Nat) (hs8 : sn ≤ 8) (J : List Nat → World → Prop) (W : World) (hJ : UpFrom W.heap.size J)
    (hY : ∀ pre x W1, J pre W1 → pre.length < 8 → YieldAt Fence.wide (n - 1) Try.prog l #[.int .i64 ((x : Nat) : Int)] W1 fun e W' => e = .returned (.bool true) ∧ J (pre ++ [x]) W' ∧ KeepsUp W.heap.size W1 W')
    (hBn : W.cell? ⟨Bn, 0, none⟩ = some (.int .i8 (sn : Int))) (h0 : J [] W) :
    CallsIn Fence.wide n Try.prog 81 #[.func (.yield l) #[] #[], .pointer (some ⟨Bn, 0, none⟩)] W fun e W' => (∃ v, e = .returned v) ∧ ∃ xs, xs = List.range sn ∧ J xs W' := by
  have hro : Fence.wide.round = none := rfl
  have hFF : ∀ f, Fence.wide.fn f := fun _ => trivial
  have HY := Lib.hid hY
  have hn1 : 1 ≤ n := by omega
  clear hY hJ
  refine callsIn_of_wp Try.func81 rfl (hFF _) ?_ hro
  simp only [Try.ntmps81, List.size_toArray, List.length_cons, List.length_nil, Nat.reduceAdd, Nat.reduceSub, Array.replicate_succ, Array.replicate_zero, List.push_toArray, List.append_toArray, List.nil_append, List.cons_append]
  gi_wp2
  gi_loopw [7] (fun i wr => ∃ k : Nat, k ≤ sn ∧ i = .int .i64 k ∧ J (List.range k) wr) (fun i _ => sn - (intOf i).toNat)
  case atStart => exact ⟨0, Nat.zero_le _, rfl, h0⟩
  case round =>
    obtain ⟨k, hk, rfl, hJk⟩ := hrel
    by_cases hlt : k < sn
    · have hlti : (k : Int) < (sn : Int) := by omega
      obtain ⟨fn, tmps, assign, body, hyl, hR⟩ := HY.out (List.range k) k wr hJk (by simp; omega)
      rw [← List.range_succ] at hR
      gi_wp2
      refine hR.mono ?_
      rintro e W3 ⟨rfl, hJ3, hk3⟩
      have HJ3 := Lib.hid hJ3
      clear hJ3 hk3 hyl hR hJk
      gi_wp2
      go_roundw
      case rel => exact ⟨k + 1, by omega, by go_num, HJ3.out⟩
      case measure => simp [intOf]; omega
    · have hk' : k = sn := by omega
      have hlti : ¬ (k : Int) < (sn : Int) := by omega
      have HJK : Hid (J (List.range sn) wr) := Lib.hid (by rw [← hk']; exact hJk)
      clear hk' hJk
      gi_wp2
      go_end0
      first | exact ⟨⟨_, rfl⟩, _, rfl, HJK.out⟩ | exact ⟨⟨_, rfl⟩, HJK.out⟩
end Go.Proofs.Ytlempmahkeilpaa
