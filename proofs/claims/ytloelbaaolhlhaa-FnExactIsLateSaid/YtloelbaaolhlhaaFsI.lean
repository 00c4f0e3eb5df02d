/-
  The least hour of a set; the stations of a net, one after the other.
-/
import Derived.Test.YtloelbaaolhlhaaAsI
import Derived.Test.YtloelbaaolhlhaaArW
namespace Go.Proofs.Ytloelbaaolhlhaa
open Go Go.RowKit Go.Shelf
set_option linter.unusedVariables false
attribute [local go_sem] Oper.semAt_some

/-- The least hour, or -1. -/
def frst (p : Nat → Bool) : Int := (hourTo p 301).headD (-1)

set_option maxHeartbeats 2000000 in
set_option maxRecDepth 100000 in
theorem ifirst_any (N : Nat) (w : World) :
    Calls Try.prog 64 #[hv N] w fun e w' => e = .returned (.int .i64 (frst fun h => N.testBit h)) ∧ Below w.heap.size w w' := by
  have hb0 : Below w.heap.size w (w.alloc (.cells (hw N) 85)) := (Below.refl _ _).alloc (Nat.le_refl _) _
  have HF : Hid ((hourTo (fun h => N.testBit h) 301).headD (-1) = frst fun h => N.testBit h) := Lib.hid rfl
  have HL := Lib.hid (hourTo_len (fun h => N.testBit h) 301)
  have HC : Hid (∀ W, Calls Try.prog 110 #[hv N] W fun e w' => ∃ v, e = .returned v ∧ OwnI W.heap.size w' v (hourTo (fun h => N.testBit h) 301) ∧ Below W.heap.size W w') := Lib.hid (fun W => iasc_any N W)
  obtain ⟨ls, hls⟩ : ∃ ls, hourTo (fun h => N.testBit h) 301 = ls := ⟨_, rfl⟩
  rw [hls] at HF HL HC
  clear hls
  go_enter Try.func64, Try.ntmps64
  go_wp2_with fail
  obtain ⟨W1, hW⟩ : ∃ W, w.alloc (.cells (hw N) 85) = W := ⟨_, rfl⟩
  rw [hW] at hb0
  have hW' : w.alloc (.cells #[.int .u64 (wd N 0 : Nat), .int .u64 (wd N 1 : Nat), .int .u64 (wd N 2 : Nat), .int .u64 (wd N 3 : Nat), .int .u64 (wd N 4 : Nat)] 85) = W1 := hW
  rw [hW']
  have HB0 := Lib.hid hb0
  clear hW hW' hb0
  refine (HC.out W1).mono ?_
  rintro e w2 ⟨v, rfl, o2, b2⟩
  have HB := Lib.hid (blink HB0.out b2)
  obtain ⟨a, cap, rfl, hr⟩ := o2.reads
  clear b2 o2
  by_cases h0 : ls = []
  · subst h0
    go_wp2_with fail
    go_ret
    exact ⟨by rw [← HF.out]; rfl, HB.out⟩
  · obtain ⟨b, rfl, hc⟩ := hr h0
    obtain ⟨x, xs, rfl⟩ := List.exists_cons_of_ne_nil h0
    have g0 := hc 0 (by simp)
    have hpos : (0 : Int) < ((x :: xs).length : Int) := by simp only [List.length_cons]; omega
    have HFX : Hid (x = frst fun h => N.testBit h) := Lib.hid HF.out
    simp only [List.getD_cons_zero] at g0
    obtain ⟨m, hm⟩ : ∃ m, (x :: xs).length = m := ⟨_, rfl⟩
    rw [hm] at hpos ⊢
    have hposn : 0 < m := by omega
    have t0 : decide ((0 : Int) < (m : Int)) = true := decide_eq_true hpos
    clear hc hm h0 hr
    go_wp2_with fail
    go_ret
    exact ⟨by rw [← HFX.out]; rfl, HB.out⟩

set_option maxHeartbeats 1000000 in
theorem istats_any (st sy : Int) (v : Value) (w : World) :
    Calls Try.prog 63 #[.agg #[.int .i8 st, .int .i16 sy, v]] w fun e w' => e = .returned (.func (.func 109) #[] #[.pointer (some ⟨w.heap.size, 0, none⟩)]) ∧ w' = w.alloc (.cells #[.int .i8 st, .int .i16 sy, v] 35) := by
  go_enter Try.func63, Try.ntmps63
  go_wp2_with fail
  go_ret
  exact ⟨rfl, rfl⟩

set_option maxRecDepth 100000 in
set_option maxHeartbeats 1000000 in
theorem stat1_in (n : Nat) (hn : 2 ≤ n) (l Bn : Nat) (sn : Nat) (hs8 : sn ≤ 8) (J : List Nat → World → Prop) (W : World) (hJ : UpFrom W.heap.size J)
    (hY : ∀ pre x W1, J pre W1 → pre.length < 8 → YieldAt Fence.wide (n - 1) Try.prog l #[.int .i64 ((x : Nat) : Int)] W1 fun e W' => e = .returned (.bool true) ∧ J (pre ++ [x]) W' ∧ KeepsUp W.heap.size W1 W')
    (hBn : W.cell? ⟨Bn, 0, none⟩ = some (.int .i8 (sn : Int))) (h0 : J [] W) :
    CallsIn Fence.wide n Try.prog 109 #[.func (.yield l) #[] #[], .pointer (some ⟨Bn, 0, none⟩)] W fun e W' => (∃ v, e = .returned v) ∧ ∃ xs, xs = List.range sn ∧ J xs W' := by
  have hro : Fence.wide.round = none := rfl
  have hFF : ∀ f, Fence.wide.fn f := fun _ => trivial
  have HY := Lib.hid hY
  have hn1 : 1 ≤ n := by omega
  clear hY hJ
  refine callsIn_of_wp Try.func109 rfl (hFF _) ?_ hro
  simp only [Try.ntmps109, List.size_toArray, List.length_cons, List.length_nil, Nat.reduceAdd, Nat.reduceSub, Array.replicate_succ, Array.replicate_zero, List.push_toArray, List.append_toArray, List.nil_append, List.cons_append]
  gi_wp2
  gi_loopw [7] (fun i wr => ∃ k : Nat, k ≤ sn ∧ i = .int .i64 k ∧ J (List.range k) wr) (fun i _ => sn - (intOf i).toNat)
  case atStart => exact ⟨0, Nat.zero_le _, rfl, h0⟩
  case round =>
    obtain ⟨k, hk, rfl, hJk⟩ := hrel
    by_cases hlt : k < sn
    · have hlti : (k : Int) < (sn : Int) := by omega
      obtain ⟨fn, tmps, assign, body, hyl, hR⟩ := HY.out (List.range k) k wr hJk (by simp; omega)
      rw [← List.range_succ] at hR
      gi_wp2
      refine hR.mono ?_
      rintro e W3 ⟨rfl, hJ3, hk3⟩
      have HJ3 := Lib.hid hJ3
      clear hJ3 hk3 hyl hR hJk
      gi_wp2
      go_roundw
      case rel => exact ⟨k + 1, by omega, by go_num, HJ3.out⟩
      case measure => simp [intOf]; omega
    · have hk' : k = sn := by omega
      have hlti : ¬ (k : Int) < (sn : Int) := by omega
      have HJK : Hid (J (List.range sn) wr) := Lib.hid (by rw [← hk']; exact hJk)
      clear hk' hJk
      gi_wp2
      go_end0
      first | exact ⟨⟨_, rfl⟩, _, rfl, HJK.out⟩ | exact ⟨⟨_, rfl⟩, HJK.out⟩
end Go.Proofs.Ytloelbaaolhlhaa
