/-
  Contracts of slices.Index and slices.Contains at []int64, inside a fence (for the iterator of otherValues).
-/
import Derived.Test.YtmhjckbndhcbmaaBack
import Derived.Test.YtmhjckbndhcbmaaBest
namespace Go.Proofs.Ytmhjckbndhcbmaa
open Go Go.RowKit
set_option linter.unusedVariables false

set_option maxRecDepth 100000 in
set_option maxHeartbeats 2000000 in
theorem index_in (F : Fence) (n : Nat) (hF : F.fn 80) (hro : F.round = none) (b len cap : Nat) (xs : List Int) (x : Int) (hl : xs.length = len) (hm : len ≤ 1048576) (W : World) (hc : Cells W b xs) :
    CallsIn F n Try.prog 80 #[.slice (some ⟨b, 0, none⟩) len cap, .int .i64 x] W fun e W' => (∃ r : Int, e = .returned (.int .i64 r) ∧ decide (0 ≤ r) = hasB xs x) ∧ W = W' := by
  have HL := Lib.hid hl
  refine callsIn_of_wp Try.func80 rfl hF ?_ hro
  simp only [Try.ntmps80, List.size_toArray, List.length_cons, List.length_nil, Nat.reduceAdd, Nat.reduceSub, Array.replicate_succ, Array.replicate_zero, List.push_toArray, List.append_toArray, List.nil_append, List.cons_append]
  clear hl
  gi_wp2
  gi_loopw [8] (fun i wr => ∃ k : Nat, k ≤ len ∧ i = .int .i64 k ∧ (∀ j, j < k → xs.getD j 0 ≠ x) ∧ W = wr) (fun i _ => len - (intOf i).toNat)
  case atStart => exact ⟨0, Nat.zero_le _, rfl, fun j hj => by omega, rfl⟩
  case round =>
    obtain ⟨k, hk, rfl, hall, rfl⟩ := hrel
    have HALL := Lib.hid hall
    clear hall
    by_cases hlt : k < len
    · have hkl : k < xs.length := by have := HL.out; omega
      have d := hc k hkl
      obtain ⟨y, hy⟩ : ∃ y, xs.getD k 0 = y := ⟨_, rfl⟩
      rw [hy] at d
      have HY := Lib.hid hy
      clear hy
      by_cases he : x = y
      · have HH := Lib.hid (hasB_hit k hkl (HY.out.trans he.symm))
        subst he
        gi_wp2
        go_ret
        exact ⟨⟨_, rfl, by rw [HH.out]; simp⟩, rfl⟩
      · have t1 : (x == y) = false := by simpa using he
        gi_wp2
        go_roundw
        case rel => exact ⟨k + 1, by omega, by go_num, fun j hj => by
          by_cases e : j = k
          · subst e; rw [HY.out]; exact fun h => he h.symm
          · exact HALL.out j (by omega), trivial⟩
        case measure => simp [intOf]; omega
    · have HH := Lib.hid (hasB_miss (xs := xs) (x := x) (fun j hj => HALL.out j (by have := HL.out; omega)))
      gi_wp2
      go_ret
      exact ⟨⟨_, rfl, by rw [HH.out]; rfl⟩, rfl⟩

set_option maxRecDepth 100000 in
set_option maxHeartbeats 2000000 in
theorem contains_in (F : Fence) (n : Nat) (hF : F.fn 66) (hG : F.fn 80) (hn : 1 ≤ n) (hro : F.round = none) (b len cap : Nat) (xs : List Int) (x : Int) (hl : xs.length = len) (hm : len ≤ 1048576) (W : World) (hc : Cells W b xs) :
    CallsIn F n Try.prog 66 #[.slice (some ⟨b, 0, none⟩) len cap, .int .i64 x] W fun e W' => e = .returned (.bool (hasB xs x)) ∧ W = W' := by
  refine callsIn_of_wp Try.func66 rfl hF ?_ hro
  simp only [Try.ntmps66, List.size_toArray, List.length_cons, List.length_nil, Nat.reduceAdd, Nat.reduceSub, Array.replicate_succ, Array.replicate_zero, List.push_toArray, List.append_toArray, List.nil_append, List.cons_append]
  gi_wp2
  refine (index_in F _ hG hro b len cap xs x hl hm W hc).mono ?_
  rintro e w ⟨⟨r, rfl, hr⟩, rfl⟩
  have HR := Lib.hid hr
  obtain ⟨q, hq⟩ : ∃ q, decide (0 ≤ r) = q := ⟨_, rfl⟩
  have HQ := Lib.hid hq
  clear hr
  gi_wp2
  go_ret
  exact ⟨ret_bool (HQ.out.symm.trans HR.out), rfl⟩
end Go.Proofs.Ytmhjckbndhcbmaa
