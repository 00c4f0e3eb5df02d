/-
  The stations of a net, one after the other; a round may leave.
-/
import Derived.Test.YtlempmahkeilpaaFsI
import Derived.Test.YtlempmahkeilpaaOwF
namespace Go.Proofs.Ytlempmahkeilpaa
open Go Go.RowKit Go.Shelf
set_option linter.unusedVariables false
attribute [local go_sem] Oper.semAt_some

set_option maxRecDepth 100000 in
set_option maxHeartbeats 1000000 in
theorem stat_stops (n : Nat) (hn : 2 ≤ n) (Bn sn : Nat) (hs8 : sn ≤ 8) (w : World) (hBn : w.cell? ⟨Bn, 0, none⟩ = some (.int .i8 (sn : Int))) (hlt : Bn < w.heap.size) :
    SeqStopsK Fence.wide n Try.prog 81 #[.pointer (some ⟨Bn, 0, none⟩)] (fun x : Fin 8 => #[.int .i64 ((x.val : Nat) : Int)]) (fun _ _ => True) (fun xs => xs.map (·.val) = List.range sn) (fun pre => ∃ k, k < sn ∧ pre.map (·.val) = List.range (k + 1)) 8 w := by
  intro l J Jx W hW _ _ hY h0
  have hro : Fence.wide.round = none := rfl
  have hFF : ∀ f, Fence.wide.fn f := fun _ => trivial
  have HY := Lib.hid hY
  have hB : W.cell? ⟨Bn, 0, none⟩ = some (.int .i8 (sn : Int)) := (hW.cell (p := ⟨Bn, 0, none⟩) hlt).trans hBn
  have hn1 : 1 ≤ n := by omega
  clear hY hW hBn
  refine callsIn_of_wp Try.func81 rfl (hFF _) ?_ hro
  simp only [Try.ntmps81, List.size_toArray, List.length_cons, List.length_nil, Nat.reduceAdd, Nat.reduceSub, Array.replicate_succ, Array.replicate_zero, List.push_toArray, List.append_toArray, List.nil_append, List.cons_append]
  gi_wp2
  gi_loopw [7] (fun i wr => ∃ (k : Nat) (pre : List (Fin 8)), pre.map (·.val) = List.range k ∧ k ≤ sn ∧ i = .int .i64 k ∧ J pre wr) (fun i _ => sn - (intOf i).toNat)
  case atStart => exact ⟨0, [], rfl, Nat.zero_le _, rfl, h0⟩
  case round =>
    obtain ⟨k, pre, hpre, hk, rfl, hJk⟩ := hrel
    have hpl : pre.length = k := by have h := congrArg List.length hpre; simpa using h
    have HPRE := Lib.hid hpre
    have HPL := Lib.hid hpl
    clear hpre hpl
    by_cases hlt2 : k < sn
    · have hlti : (k : Int) < (sn : Int) := by omega
      obtain ⟨fn, tmps, assign, body, hyl, hR⟩ := HY.out pre ⟨k, by omega⟩ wr hJk (by have := HPL.out; omega)
      have HP2 : Hid ((pre ++ [(⟨k, by omega⟩ : Fin 8)]).map (·.val) = List.range (k + 1)) := Lib.hid (by rw [List.map_append, HPRE.out, List.range_succ]; rfl)
      gi_wp2
      refine hR.mono ?_
      rintro e W3 (⟨rfl, hJ3, _⟩ | ⟨rfl, hJx3⟩)
      · have HJ3 := Lib.hid hJ3
        clear hJ3 hyl hR hJk
        gi_wp2
        go_roundw
        case rel => exact ⟨k + 1, _, HP2.out, by omega, by go_num, HJ3.out⟩
        case measure => simp [intOf]; omega
      · have HJ3 := Lib.hid hJx3
        clear hJx3 hyl hR hJk
        gi_wp2
        refine bodyPost_ret (results_none rfl _ _ _) rfl ?_
        exact ⟨⟨_, rfl⟩, .inr ⟨_, ⟨k, hlt2, HP2.out⟩, HJ3.out⟩⟩
    · have hk' : k = sn := by omega
      have hlti : ¬ (k : Int) < (sn : Int) := by omega
      have HJK := Lib.hid hJk
      have HP3 : Hid (pre.map (·.val) = List.range sn) := Lib.hid (by rw [HPRE.out, hk'])
      clear hk' hJk
      gi_wp2
      go_end0
      exact ⟨⟨_, rfl⟩, .inl ⟨_, HP3.out, HJK.out⟩⟩
end Go.Proofs.Ytlempmahkeilpaa
