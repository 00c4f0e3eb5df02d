/-
  Whether a list has a number (spec.l00Has).
-/
import Derived.Test.YtocogipejchneaaDoorBase
import Derived.Test.YtocogipejchneaaDoorProg
namespace Go.Proofs.YtocogipejchneaaDoor
open Go Go.RowKit
set_option linter.unusedVariables false

def hasB (xs : List Int) (x : Int) : Bool := decide (x ∈ xs)
theorem hasB_hit {xs : List Int} {x : Int} (k : Nat) (hk : k < xs.length) (h : xs.getD k 0 = x) : hasB xs x = true := by
  refine decide_eq_true ?_
  rw [← h, List.getD, List.getElem?_eq_getElem hk]
  exact List.getElem_mem hk
theorem hasB_miss {xs : List Int} {x : Int} (h : ∀ k, k < xs.length → xs.getD k 0 ≠ x) : hasB xs x = false := by
  refine decide_eq_false fun hm => ?_
  obtain ⟨k, hk, e⟩ := List.getElem_of_mem hm
  refine h k hk ?_
  rw [List.getD, List.getElem?_eq_getElem hk]
  exact e

set_option maxHeartbeats 2000000 in
theorem shas_row (b len cap : Nat) (xs : List Int) (x : Int) (hl : xs.length = len) (hm : len ≤ 1048576) (w : World) (hc : Cells w b xs) :
    Calls Tryd.prog 22 #[.slice (some ⟨b, 0, none⟩) len cap, .int .i64 x] w fun e w' => e = .returned (.bool (hasB xs x)) ∧ w = w' := by
  have HL := Lib.hid hl
  clear hl
  go_enter Tryd.func22, Tryd.ntmps22
  go_wp2_with fail
  go_loop [5] (fun i => ∃ k : Nat, k ≤ len ∧ i = .int .i64 k ∧ ∀ j, j < k → xs.getD j 0 ≠ x) (fun i => len - (intOf i).toNat)
  case atStart => exact ⟨0, Nat.zero_le _, rfl, fun j hj => by omega⟩
  case round =>
    obtain ⟨k, hk, rfl, hall⟩ := hrel
    have HALL := Lib.hid hall
    clear hall
    by_cases hlt : k < len
    · have hkl : k < xs.length := by have := HL.out; omega
      have d := hc k hkl
      obtain ⟨y, hy⟩ : ∃ y, xs.getD k 0 = y := ⟨_, rfl⟩
      rw [hy] at d
      have HY := Lib.hid hy
      clear hy
      by_cases he : y = x
      · have HH := Lib.hid (hasB_hit k hkl (HY.out.trans he))
        subst he
        go_wp2_with fail
        go_ret
        exact ⟨(ret_bool HH.out).symm, rfl⟩
      · have t1 : (y == x) = false := by simpa using he
        go_wp2_with fail
        go_round
        case rel => exact ⟨k + 1, by omega, by go_num, fun j hj => by
          by_cases e : j = k
          · subst e; rw [HY.out]; exact he
          · exact HALL.out j (by omega)⟩
        case measure => simp [intOf]; omega
    · have HH := Lib.hid (hasB_miss (xs := xs) (x := x) (fun j hj => HALL.out j (by have := HL.out; omega)))
      go_wp2_with fail
      go_ret
      exact ⟨(ret_bool HH.out).symm, rfl⟩

set_option maxHeartbeats 1000000 in
theorem shas_none (a : Option Addr) (cap : Nat) (x : Int) (w : World) :
    Calls Tryd.prog 22 #[.slice a 0 cap, .int .i64 x] w fun e w' => e = .returned (.bool false) ∧ w = w' := by
  go_enter Tryd.func22, Tryd.ntmps22
  go_wp2_with fail
  refine wp_loop_rounds 1 ?_
  rw [rounds_succ]
  go_wp2
  go_ret
  exact ⟨rfl, rfl⟩
theorem shas_any (v : Value) (xs : List Int) (x : Int) (w : World) (hv : ReadsI w v xs) (hx : xs.length ≤ 1048576) :
    Calls Tryd.prog 22 #[v, .int .i64 x] w fun e w' => e = .returned (.bool (hasB xs x)) ∧ w' = w := by
  obtain ⟨a, cap, rfl, ha⟩ := hv
  by_cases h0 : xs = []
  · subst h0
    exact (shas_none a cap x w).mono fun e w' h => ⟨h.1, h.2.symm⟩
  · obtain ⟨b, rfl, hc⟩ := ha h0
    exact (shas_row b xs.length cap xs x rfl hx w hc).mono fun e w' h => ⟨h.1, h.2.symm⟩
theorem hasB_iff {xs : List Int} {x : Int} : hasB xs x = true ↔ x ∈ xs := decide_eq_true_iff
end Go.Proofs.YtocogipejchneaaDoor
