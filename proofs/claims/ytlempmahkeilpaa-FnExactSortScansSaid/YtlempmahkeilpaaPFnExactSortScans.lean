/-
  'FnExactSortScans' answers true at every input, and leaves all memory that was there as it was. Conditions: none beyond the row's own.
-/
import Derived.Test.YtlempmahkeilpaaRows
import Derived.ProofKit
import Derived.OpenShut
import Derived.ShutString
import Derived.ChangeOld
import Derived.Below
import Derived.Deep.SlicePairs
import Derived.Lib.SmallJoins
import Derived.Test.YtlempmahkeilpaaONet
import Derived.Test.YtlempmahkeilpaaOScan
import Derived.Test.YtlempmahkeilpaaIn
import Derived.Test.YtlempmahkeilpaaRScan
import Derived.Test.YtlempmahkeilpaaBlk
import Derived.Deep.RegionHeld3
import Derived.Test.YtlempmahkeilpaaTScan
import Derived.Test.YtlempmahkeilpaaSsV
import Derived.Test.YtlempmahkeilpaaScP
import Derived.Test.YtlempmahkeilpaaNtL
import Derived.BigQuiet
import Derived.Test.YtlempmahkeilpaaFcA
import Derived.Test.YtlempmahkeilpaaScS
import Derived.Test.YtlempmahkeilpaaNtA
import Derived.Test.YtlempmahkeilpaaToI
import Derived.Test.YtlempmahkeilpaaKeepO
import Derived.Test.YtlempmahkeilpaaScO
import Derived.Test.YtlempmahkeilpaaEScan
import Derived.Test.YtlempmahkeilpaaMScan
/-
  The order of scans (plain): the model's insertion, and that a sorted row of the same scans is its list.
-/
namespace Go.Proofs.Ytlempmahkeilpaa
open Go Go.RowKit
set_option linter.unusedVariables false

/-- Ahead of: by hour, then by station. -/
def ltS (x y : Int × Int) : Prop := x.2 < y.2 ∨ (x.2 = y.2 ∧ x.1 < y.1)
instance (x y : Int × Int) : Decidable (ltS x y) := inferInstanceAs (Decidable (_ ∨ _))
def leS (x y : Int × Int) : Prop := ¬ ltS y x
theorem leS.trans {x y z : Int × Int} (h : leS x y) (k : leS y z) : leS x z := by unfold leS ltS at *; omega
theorem leS.anti {x y : Int × Int} (h : leS x y) (k : leS y x) : x = y := by
  unfold leS ltS at *
  exact Prod.ext (by omega) (by omega)
theorem ltS.le {x y : Int × Int} (h : ltS x y) : leS x y := by unfold leS ltS at *; omega
def posS (x : Int × Int) (out : List (Int × Int)) : Nat → Nat
  | 0 => 0
  | n + 1 => if ltS x (out.getD n (0, 0)) then posS x out n else n + 1
theorem posS_le (x : Int × Int) (out : List (Int × Int)) : ∀ n, posS x out n ≤ n
  | 0 => Nat.le_refl _
  | n + 1 => by
    unfold posS
    split
    · exact Nat.le_succ_of_le (posS_le x out n)
    · exact Nat.le_refl _
theorem posS_in (x : Int × Int) (out : List (Int × Int)) : ∀ n j, posS x out n ≤ j → j < n → ltS x (out.getD j (0, 0))
  | 0, j, h, hj => by omega
  | n + 1, j, h, hj => by
    unfold posS at h
    split at h
    · rename_i hl
      by_cases e : j = n
      · rw [e]; exact hl
      · exact posS_in x out n j h (by omega)
    · omega
theorem posS_no (x : Int × Int) (out : List (Int × Int)) : ∀ n, 1 ≤ posS x out n → ¬ ltS x (out.getD (posS x out n - 1) (0, 0))
  | 0, h => by unfold posS at h; omega
  | n + 1, h => by
    unfold posS at h ⊢
    split at h
    · rename_i hl; rw [if_pos hl]; exact posS_no x out n h
    · rename_i hl; rw [if_neg hl]; exact hl
def insS (x : Int × Int) (out : List (Int × Int)) : List (Int × Int) := out.take (posS x out out.length) ++ x :: out.drop (posS x out out.length)
theorem insS_perm (x : Int × Int) (out : List (Int × Int)) : (insS x out).Perm (x :: out) := by
  unfold insS
  have h := List.perm_middle (a := x) (l₁ := out.take (posS x out out.length)) (l₂ := out.drop (posS x out out.length))
  rwa [List.take_append_drop] at h
theorem insS_sorted {x : Int × Int} {out : List (Int × Int)} (h : out.Pairwise leS) : (insS x out).Pairwise leS := by
  unfold insS
  have hp := posS_le x out out.length
  rw [List.pairwise_append]
  have hget := List.pairwise_iff_getElem.1 h
  refine ⟨h.sublist (List.take_sublist _ _), ?_, ?_⟩
  · rw [List.pairwise_cons]
    refine ⟨fun y hy => ?_, h.sublist (List.drop_sublist _ _)⟩
    obtain ⟨i, hi, rfl⟩ := List.getElem_of_mem hy
    rw [List.length_drop] at hi
    rw [List.getElem_drop]
    have h1 := posS_in x out out.length (posS x out out.length + i) (by omega) (by omega)
    rw [List.getD, List.getElem?_eq_getElem (by omega)] at h1
    exact ltS.le (by simpa using h1)
  · intro a ha b hb
    obtain ⟨i, hi, rfl⟩ := List.getElem_of_mem ha
    rw [List.length_take] at hi
    rw [List.getElem_take]
    rcases List.mem_cons.1 hb with rfl | hb
    · have h1 := posS_no b out out.length (by omega)
      rw [List.getD, List.getElem?_eq_getElem (by omega)] at h1
      have h2 : leS (out[posS b out out.length - 1]'(by omega)) b := by unfold leS; simpa using h1
      by_cases e : i = posS b out out.length - 1
      · subst e; exact h2
      · exact (hget i (posS b out out.length - 1) (by omega) (by omega) (by omega)).trans h2
    · obtain ⟨j, hj, rfl⟩ := List.getElem_of_mem hb
      rw [List.length_drop] at hj
      rw [List.getElem_drop]
      exact hget i _ (by omega) (by omega) (by omega)
theorem insS_len (x : Int × Int) (out : List (Int × Int)) : (insS x out).length = out.length + 1 := by rw [(insS_perm x out).length_eq]; rfl
/-- The model's list behind k scans. -/
def ssK (ps : List (Int × Int)) : Nat → List (Int × Int)
  | 0 => []
  | k + 1 => insS (ps.getD k (0, 0)) (ssK ps k)
theorem ssK_len (ps : List (Int × Int)) : ∀ k, (ssK ps k).length = k
  | 0 => rfl
  | k + 1 => by rw [ssK, insS_len, ssK_len ps k]
theorem ssK_sorted (ps : List (Int × Int)) : ∀ k, (ssK ps k).Pairwise leS
  | 0 => List.Pairwise.nil
  | k + 1 => insS_sorted (ssK_sorted ps k)
theorem ssK_perm (ps : List (Int × Int)) : ∀ k, k ≤ ps.length → (ssK ps k).Perm (ps.take k)
  | 0, _ => by simp [ssK]
  | k + 1, h => by
    have e : ps.take (k + 1) = ps.take k ++ [ps.getD k (0, 0)] := by rw [List.take_add_one, List.getElem?_eq_getElem (by omega)]; simp [List.getD, show k < ps.length by omega]
    rw [ssK, e]
    refine (insS_perm _ _).trans (((ssK_perm ps k (by omega)).cons _).trans ?_)
    have h2 := (List.perm_append_comm (l₁ := [ps.getD k (0, 0)]) (l₂ := ps.take k))
    exact h2
theorem sortS_one : ∀ (A B : List (Int × Int)), A.Pairwise leS → B.Pairwise leS → A.Perm B → A = B
  | [], B, _, _, h => (List.nil_perm.1 h).symm ▸ rfl
  | a :: A, [], _, _, h => by have := h.length_eq; simp at this
  | a :: A, b :: B, hA, hB, h => by
    rw [List.pairwise_cons] at hA hB
    have e : a = b := by
      have h1 : a ∈ b :: B := h.mem_iff.1 List.mem_cons_self
      have h2 : b ∈ a :: A := h.mem_iff.2 List.mem_cons_self
      rcases List.mem_cons.1 h1 with e1 | e1
      · exact e1
      · rcases List.mem_cons.1 h2 with e2 | e2
        · exact e2.symm
        · exact (hA.1 b e2).anti (hB.1 a e1)
    subst e
    rw [sortS_one A B hA.2 hB.2 (List.perm_cons a |>.1 h)]
theorem sortS_is {ps ms : List (Int × Int)} (hp : ms.Perm ps) (hs : ∀ a b, a < b → b < ps.length → leS (ms.getD a (0, 0)) (ms.getD b (0, 0))) : ms = ssK ps ps.length := by
  have hl := hp.length_eq
  refine sortS_one _ _ ?_ (ssK_sorted _ _) (hp.trans (by have := ssK_perm ps ps.length (Nat.le_refl _); rw [List.take_length] at this; exact this.symm))
  rw [List.pairwise_iff_getElem]
  intro a b ha hb hab
  have h := hs a b hab (by omega)
  simpa [List.getD, ha, hb] using h

/-- How two scans are compared. -/
def cmZ (x y : Int) : Int := if x < y then -1 else if y < x then 1 else 0
def orS (x y : Int) : Int := if x ≠ 0 then x else y
def cmpS (x y : Int × Int) : Int := orS (cmZ x.2 y.2) (cmZ x.1 y.1)
theorem cmZ_neg (x y : Int) : cmZ x y < 0 ↔ x < y := by unfold cmZ; split <;> (try split) <;> omega
theorem cmZ_zero (x y : Int) : cmZ x y = 0 ↔ x = y := by unfold cmZ; split <;> (try split) <;> omega
theorem cmpS_neg (x y : Int × Int) : cmpS x y < 0 ↔ ltS x y := by
  have h1 := cmZ_neg x.2 y.2
  have h2 := cmZ_zero x.2 y.2
  have h3 := cmZ_neg x.1 y.1
  unfold cmpS orS ltS
  split <;> omega

/-! The program's insertion sort: what holds of the first k, and in the midst of a round. -/
def sAt (L : List (Int × Int)) (i : Nat) : Int × Int := L.getD i (0, 0)
def SoTo (L : List (Int × Int)) (k : Nat) : Prop := ∀ a b, a < b → b < k → leS (sAt L a) (sAt L b)
def InTo (L : List (Int × Int)) (k j : Nat) : Prop := (∀ a b, a < b → b ≤ k → a ≠ j → b ≠ j → leS (sAt L a) (sAt L b)) ∧ ∀ b, j < b → b ≤ k → leS (sAt L j) (sAt L b)
def swS (L : List (Int × Int)) (j : Nat) : List (Int × Int) := (L.set j (sAt L (j - 1))).set (j - 1) (sAt L j)
theorem swS_len (L : List (Int × Int)) (j : Nat) : (swS L j).length = L.length := by simp [swS]
theorem swS_perm {L : List (Int × Int)} {j : Nat} (hj : j < L.length) : (swS L j).Perm L := by
  have h := @List.set_set_perm _ L j (j - 1) hj (by omega)
  have e1 : sAt L (j - 1) = L[j - 1] := by simp [sAt, List.getD, show j - 1 < L.length by omega]
  have e2 : sAt L j = L[j] := by simp [sAt, List.getD, hj]
  unfold swS
  rw [e1, e2]
  exact h
theorem swS_get {L : List (Int × Int)} {j c : Nat} (hj : j < L.length) (h1 : 1 ≤ j) : sAt (swS L j) c = if c = j then sAt L (j - 1) else if c = j - 1 then sAt L j else sAt L c := by
  unfold swS
  by_cases e1 : c = j
  · subst e1
    rw [if_pos rfl, sAt, List.getD, List.getElem?_set_ne (by omega)]
    simp [hj]
  · rw [if_neg e1]
    by_cases e2 : c = j - 1
    · subst e2
      rw [if_pos rfl, sAt, List.getD]
      simp [show j - 1 < L.length by omega]
    · rw [if_neg e2, sAt, List.getD, List.getElem?_set_ne (by omega), List.getElem?_set_ne (by omega)]
      rfl
theorem InTo.start {L : List (Int × Int)} {k : Nat} (h : SoTo L k) : InTo L k k :=
  ⟨fun a b hab hb ha hbk => h a b hab (by omega), fun b h1 h2 => by omega⟩
theorem InTo.swap {L : List (Int × Int)} {k j : Nat} (h : InTo L k j) (hj : j < L.length) (h1 : 1 ≤ j) (hl : leS (sAt L j) (sAt L (j - 1))) : InTo (swS L j) k (j - 1) := by
  refine ⟨fun a b hab hb ha hbj => ?_, fun b hb hbk => ?_⟩
  · rw [swS_get hj h1, swS_get hj h1]
    by_cases e1 : a = j
    · rw [if_pos e1, if_neg (by omega), if_neg (by omega)]
      exact h.1 (j - 1) b (by omega) hb (by omega) (by omega)
    · rw [if_neg e1, if_neg ha]
      by_cases e2 : b = j
      · rw [if_pos e2]
        exact h.1 a (j - 1) (by omega) (by omega) e1 (by omega)
      · rw [if_neg e2, if_neg hbj]
        exact h.1 a b hab hb e1 e2
  · rw [swS_get hj h1, swS_get hj h1, if_neg (by omega), if_pos rfl]
    by_cases e : b = j
    · rw [if_pos e]; exact hl
    · rw [if_neg e, if_neg (by omega)]
      exact h.2 b (by omega) hbk
theorem InTo.done {L : List (Int × Int)} {k j : Nat} (h : InTo L k j) (hl : 1 ≤ j → leS (sAt L (j - 1)) (sAt L j)) : SoTo L (k + 1) := fun a b hab hb => by
  by_cases e1 : a = j
  · subst e1; exact h.2 b hab (by omega)
  · by_cases e2 : b = j
    · subst e2
      by_cases e3 : a = b - 1
      · subst e3; exact hl (by omega)
      · exact (h.1 a (b - 1) (by omega) (by omega) e1 (by omega)).trans (hl (by omega))
    · exact h.1 a b hab (by omega) e1 e2
end Go.Proofs.Ytlempmahkeilpaa
/-
  What the sort of scans calls: cmp.Compare at int8 and int16, cmp.Or of two, bits.Len of a small number; compareScans.
-/
namespace Go.Proofs.Ytlempmahkeilpaa
open Go Go.RowKit
set_option linter.unusedVariables false

set_option maxHeartbeats 1000000 in
theorem nanS8_any (x : Int) (w : World) : Calls Try.prog 105 #[.int .i8 x] w fun e w' => e = .returned (.bool false) ∧ w = w' := by
  have h : (x != x) = false := by simp
  go_enter Try.func105, Try.ntmps105
  go_wp2
  go_ret
  exact ⟨rfl, rfl⟩
set_option maxHeartbeats 1000000 in
theorem nanS16_any (x : Int) (w : World) : Calls Try.prog 104 #[.int .i16 x] w fun e w' => e = .returned (.bool false) ∧ w = w' := by
  have h : (x != x) = false := by simp
  go_enter Try.func104, Try.ntmps104
  go_wp2
  go_ret
  exact ⟨rfl, rfl⟩
set_option maxHeartbeats 2000000 in
theorem cmpS8_any (x y : Int) (w : World) : Calls Try.prog 94 #[.int .i8 x, .int .i8 y] w fun e w' => e = .returned (.int .i64 (cmZ x y)) ∧ w = w' := by
  rcases Int.lt_trichotomy x y with h | h | h
  · have HE : Hid (cmZ x y = -1) := Lib.hid (by simp [cmZ, h])
    have t1 : decide (x < y) = true := decide_eq_true h
    rw [HE.out]
    go_enter Try.func94, Try.ntmps94
    go_wp2_with (go_at_call 105; refine (nanS8_any _ _).mono ?_; rintro e w2 ⟨rfl, rfl⟩)
    go_ret
    exact ⟨rfl, rfl⟩
  · subst h
    have HE : Hid (cmZ x x = 0) := Lib.hid (by simp [cmZ])
    have t1 : decide (x < x) = false := by simp
    rw [HE.out]
    go_enter Try.func94, Try.ntmps94
    go_wp2_with (go_at_call 105; refine (nanS8_any _ _).mono ?_; rintro e w2 ⟨rfl, rfl⟩)
    go_ret
    exact ⟨rfl, rfl⟩
  · have HE : Hid (cmZ x y = 1) := Lib.hid (by simp [cmZ, h, show ¬ x < y by omega])
    have t1 : decide (x < y) = false := decide_eq_false (by omega)
    have t2 : decide (y < x) = true := decide_eq_true h
    rw [HE.out]
    go_enter Try.func94, Try.ntmps94
    go_wp2_with (go_at_call 105; refine (nanS8_any _ _).mono ?_; rintro e w2 ⟨rfl, rfl⟩)
    go_ret
    exact ⟨rfl, rfl⟩
set_option maxHeartbeats 2000000 in
theorem cmpS16_any (x y : Int) (w : World) : Calls Try.prog 93 #[.int .i16 x, .int .i16 y] w fun e w' => e = .returned (.int .i64 (cmZ x y)) ∧ w = w' := by
  rcases Int.lt_trichotomy x y with h | h | h
  · have HE : Hid (cmZ x y = -1) := Lib.hid (by simp [cmZ, h])
    have t1 : decide (x < y) = true := decide_eq_true h
    rw [HE.out]
    go_enter Try.func93, Try.ntmps93
    go_wp2_with (go_at_call 104; refine (nanS16_any _ _).mono ?_; rintro e w2 ⟨rfl, rfl⟩)
    go_ret
    exact ⟨rfl, rfl⟩
  · subst h
    have HE : Hid (cmZ x x = 0) := Lib.hid (by simp [cmZ])
    have t1 : decide (x < x) = false := by simp
    rw [HE.out]
    go_enter Try.func93, Try.ntmps93
    go_wp2_with (go_at_call 104; refine (nanS16_any _ _).mono ?_; rintro e w2 ⟨rfl, rfl⟩)
    go_ret
    exact ⟨rfl, rfl⟩
  · have HE : Hid (cmZ x y = 1) := Lib.hid (by simp [cmZ, h, show ¬ x < y by omega])
    have t1 : decide (x < y) = false := decide_eq_false (by omega)
    have t2 : decide (y < x) = true := decide_eq_true h
    rw [HE.out]
    go_enter Try.func93, Try.ntmps93
    go_wp2_with (go_at_call 104; refine (nanS16_any _ _).mono ?_; rintro e w2 ⟨rfl, rfl⟩)
    go_ret
    exact ⟨rfl, rfl⟩
set_option maxHeartbeats 2000000 in
theorem orS2_any (b : Nat) (x y : Int) (w : World) (h0 : w.cell? ⟨b, 0, none⟩ = some (.int .i64 x)) (h1 : w.cell? ⟨b, 1, none⟩ = some (.int .i64 y)) :
    Calls Try.prog 92 #[.slice (some ⟨b, 0, none⟩) 2 2] w fun e w' => e = .returned (.int .i64 (orS x y)) ∧ w = w' := by
  by_cases hx : x = 0
  · have HE : Hid (orS x y = y) := Lib.hid (by simp [orS, hx])
    have t1 : (x != 0) = false := by simp [hx]
    rw [HE.out]
    clear hx
    by_cases hy : y = 0
    · have t2 : (y != 0) = false := by simp [hy]
      have HY := Lib.hid hy
      clear hy
      go_enter Try.func92, Try.ntmps92
      go_wp2_with fail
      refine wp_loop_rounds 3 ?_
      rw [rounds_succ]
      go_wp2
      rw [rounds_succ]
      go_wp2
      rw [rounds_succ]
      go_wp2
      go_ret
      exact ⟨by rw [HY.out]; rfl, rfl⟩
    · have t2 : (y != 0) = true := by simp [hy]
      clear hy
      go_enter Try.func92, Try.ntmps92
      go_wp2_with fail
      refine wp_loop_rounds 3 ?_
      rw [rounds_succ]
      go_wp2
      rw [rounds_succ]
      go_wp2
      go_ret
      exact ⟨rfl, rfl⟩
  · have HE : Hid (orS x y = x) := Lib.hid (by simp [orS, hx])
    have t1 : (x != 0) = true := by simp [hx]
    rw [HE.out]
    clear hx
    go_enter Try.func92, Try.ntmps92
    go_wp2_with fail
    refine wp_loop_rounds 3 ?_
    rw [rounds_succ]
    go_wp2
    go_ret
    exact ⟨rfl, rfl⟩
set_option maxHeartbeats 4000000 in
set_option maxRecDepth 100000 in
theorem blenS_any (n : Nat) (h : n ≤ 12) (w : World) : Calls Try.prog 103 #[.int .u64 n] w fun e w' => (∃ m : Int, e = .returned (.int .i64 m)) ∧ Below w.heap.size w w' := by
  obtain rfl | rfl | rfl | rfl | rfl | rfl | rfl | rfl | rfl | rfl | rfl | rfl | rfl : n = 0 ∨ n = 1 ∨ n = 2 ∨ n = 3 ∨ n = 4 ∨ n = 5 ∨ n = 6 ∨ n = 7 ∨ n = 8 ∨ n = 9 ∨ n = 10 ∨ n = 11 ∨ n = 12 := by omega
  all_goals
    go_enter Try.func103, Try.ntmps103
    go_wp2
    go_ret
    exact ⟨⟨_, rfl⟩, by repeat (first | exact Below.refl _ _ | refine Below.drew ?_ | refine Below.alloc ?_ (by simp) _)⟩

set_option maxHeartbeats 4000000 in
set_option maxRecDepth 100000 in
theorem icmS_any (x0 x1 y0 y1 : Int) (w : World) :
    Calls Try.prog 64 #[.agg #[.int .i8 x0, .int .i16 x1], .agg #[.int .i8 y0, .int .i16 y1]] w fun e w' => e = .returned (.int .i64 (cmpS (x0, x1) (y0, y1))) ∧ Below w.heap.size w w' := by
  have HE : Hid (cmpS (x0, x1) (y0, y1) = orS (cmZ x1 y1) (cmZ x0 y0)) := Lib.hid rfl
  rw [HE.out]
  obtain ⟨p, hp⟩ : ∃ p, cmZ x1 y1 = p := ⟨_, rfl⟩
  obtain ⟨q, hq⟩ : ∃ q, cmZ x0 y0 = q := ⟨_, rfl⟩
  rw [hp, hq]
  have HP := Lib.hid hp
  have HQ := Lib.hid hq
  have hb1 : Below w.heap.size w ((w.alloc (.cells #[.int .i8 x0, .int .i16 x1] 37)).alloc (.cells #[.int .i8 y0, .int .i16 y1] 37)) := ((Below.refl _ _).alloc (Nat.le_refl _) _).alloc (by simp) _
  have BX : BlkA ((w.alloc (.cells #[.int .i8 x0, .int .i16 x1] 37)).alloc (.cells #[.int .i8 y0, .int .i16 y1] 37)) w.heap.size 37 #[.int .i8 x0, .int .i16 x1] := (BlkA.new rfl _ _).alloc _
  have BY : BlkA ((w.alloc (.cells #[.int .i8 x0, .int .i16 x1] 37)).alloc (.cells #[.int .i8 y0, .int .i16 y1] 37)) (w.heap.size + 1) 37 #[.int .i8 y0, .int .i16 y1] := BlkA.new (by simp) _ _
  clear hp hq
  go_enter Try.func64, Try.ntmps64
  go_wp2_with fail
  obtain ⟨W, hW⟩ : ∃ W, ((w.alloc (.cells #[.int .i8 x0, .int .i16 x1] 37)).alloc (.cells #[.int .i8 y0, .int .i16 y1] 37)) = W := ⟨_, rfl⟩
  rw [hW] at hb1 BX BY ⊢
  have a0 : W.cell? ⟨w.heap.size, 0, none⟩ = some (.int .i8 x0) := BX.at 0
  have a1 : W.cell? ⟨w.heap.size, 1, none⟩ = some (.int .i16 x1) := BX.at 1
  have b0 : W.cell? ⟨w.heap.size + 1, 0, none⟩ = some (.int .i8 y0) := BY.at 0
  have b1 : W.cell? ⟨w.heap.size + 1, 1, none⟩ = some (.int .i16 y1) := BY.at 1
  have HB1 := Lib.hid hb1
  have hsz : w.heap.size + 1 < W.heap.size := BY.lt
  have hsw : w.heap.size < W.heap.size := by omega
  clear hW hb1 BX BY
  go_region_held3 (fun v => v.cell? ⟨w.heap.size, 0, none⟩ = some (.int .i8 x0) ∧ v.cell? ⟨w.heap.size, 1, none⟩ = some (.int .i16 x1) ∧ v.cell? ⟨w.heap.size + 1, 0, none⟩ = some (.int .i8 y0) ∧ v.cell? ⟨w.heap.size + 1, 1, none⟩ = some (.int .i16 y1)) (go_keep)
    (first
      | (go_at_call 93; refine (cmpS16_any x1 y1 _).mono ?_; rintro e z ⟨rfl, rfl⟩; rw [HP.out])
      | (go_at_call 94; refine (cmpS8_any x0 y0 _).mono ?_; rintro e z ⟨rfl, rfl⟩; rw [HQ.out])
      | (go_at_call 92; refine (orS2_any W.heap.size p q _ (cell_of_row _ W.heap.size 0 _ 3 (0, 0) (heap_alloc_new W _)) (cell_of_row _ W.heap.size 1 _ 3 (0, 0) (heap_alloc_new W _))).mono ?_; rintro e z ⟨rfl, rfl⟩))
  go_wp2_with fail
  go_ret
  exact ⟨rfl, (HB1.out.alloc (by omega) _).drew⟩
end Go.Proofs.Ytlempmahkeilpaa
/-
  slices.SortFunc of scans, at twelve or fewer: the insertion sort.
-/
namespace Go.Proofs.Ytlempmahkeilpaa
open Go Go.RowKit
set_option linter.unusedVariables false

/-- A row of n scans that the call made. -/
def OwnZ (T : TypeId) (lo : Nat) (w : World) (g n cap : Nat) (L : List (Int × Int)) : Prop := L.length = n ∧ w.ownsRow lo T 2 (.slice (some ⟨g, 0, none⟩) n cap) n (flatSc L)
theorem OwnZ.below {T : TypeId} {lo g n cap : Nat} {w w' : World} {L : List (Int × Int)} (h : OwnZ T lo w g n cap L) (hb : Below w.heap.size w w') : OwnZ T lo w' g n cap L := by
  obtain ⟨rfl, h⟩ := h
  exact ⟨rfl, OwnSc.below h hb⟩
theorem OwnZ.own {T : TypeId} {lo g n cap : Nat} {w : World} {L : List (Int × Int)} (h : OwnZ T lo w g n cap L) : OwnSc T lo w (.slice (some ⟨g, 0, none⟩) n cap) L := by
  obtain ⟨rfl, h⟩ := h
  exact h
theorem OwnZ.cellAt {T : TypeId} {lo g n cap : Nat} {w : World} {L : List (Int × Int)} (h : OwnZ T lo w g n cap L) {j : Nat} (hj : j < L.length) : w.cell? ⟨g, j * 2, none⟩ = some (.int .i8 (sAt L j).1) ∧ w.cell? ⟨g, j * 2 + 1, none⟩ = some (.int .i16 (sAt L j).2) := by
  obtain ⟨rfl, h⟩ := h
  exact ⟨by rw [World.ownsRow.cellAt h (j * 2) (by omega), flatSc_0 L j hj]; rfl, by rw [World.ownsRow.cellAt h (j * 2 + 1) (by omega), flatSc_1 L j hj]; rfl⟩
theorem OwnZ.store {T : TypeId} {lo g n cap : Nat} {w : World} {L : List (Int × Int)} (h : OwnZ T lo w g n cap L) (j : Nat) (hj : j < L.length) (x : Int × Int) : OwnZ T lo ((w.setCell ⟨g, j * 2, none⟩ (.int .i8 x.1)).setCell ⟨g, j * 2 + 1, none⟩ (.int .i16 x.2)) g n cap (L.set j x) := by
  have S1 := (World.ownsRow.stored h.2 (j * 2) (.int .i8 x.1)).1
  have S2 := (World.ownsRow.stored S1 (j * 2 + 1) (.int .i16 x.2)).1
  rw [flatSc_set L j x.1 x.2 hj] at S2
  exact ⟨by rw [List.length_set]; exact h.1, S2⟩
theorem swS_two {L : List (Int × Int)} {p : Nat} : swS L (p + 1) = (L.set (p + 1) (sAt L p)).set p (sAt L (p + 1)) := rfl
theorem swS_two' {L : List (Int × Int)} {p : Nat} : swS L (p + 1) = (L.set p (sAt L (p + 1))).set (p + 1) (sAt L p) := by
  rw [swS_two]; exact List.set_comm _ _ (by omega)

set_option maxHeartbeats 8000000 in
set_option maxRecDepth 100000 in
theorem insS_any (T : TypeId) (lo g n cap : Nat) (L : List (Int × Int)) (w : World) (hl : L.length = n) (h12 : n ≤ 12) (h1 : 1 ≤ n) (hlo : lo ≤ w.heap.size)
    (ho : OwnZ T lo w g n cap L) :
    Calls Try.prog 108 #[.slice (some ⟨g, 0, none⟩) n cap, .int .i64 0, .int .i64 n, .func (.func 64) #[] #[]] w fun e w' => e = .returned (.tuple #[]) ∧
      ∃ M, OwnZ T lo w' g n cap M ∧ M.Perm L ∧ SoTo M n ∧ Below lo w w' := by
  have HO := Lib.hid ho
  have HL := Lib.hid hl
  clear ho hl
  go_enter Try.func108, Try.ntmps108
  go_wp2_with fail
  go_loopw [8] (fun i wr => ∃ (k : Nat) (M : List (Int × Int)), 1 ≤ k ∧ k ≤ n ∧ i = .int .i64 k ∧ OwnZ T lo wr g n cap M ∧ M.Perm L ∧ SoTo M k ∧ Below lo w wr) (fun i _ => n - (intOf i).toNat)
  case atStart => exact ⟨1, L, by omega, h1, rfl, HO.out, List.Perm.refl _, fun a c h h2 => by omega, Below.refl _ _⟩
  case round =>
    obtain ⟨k, M, hk1, hkn, rfl, hown, hprm, hsrt, hnx⟩ := hrel
    have HO1 := Lib.hid hown
    have HP1 := Lib.hid hprm
    have HS1 := Lib.hid hsrt
    have HN1 := Lib.hid hnx
    clear hown hprm hsrt hnx
    by_cases hlt : k < n
    · have hki : (k : Int) < (n : Int) := by omega
      go_wp2_with fail
      go_loopw [9] (fun i wr => ∃ (j : Nat) (M : List (Int × Int)), j ≤ k ∧ i = .int .i64 j ∧ OwnZ T lo wr g n cap M ∧ M.Perm L ∧ InTo M k j ∧ Below lo w wr) (fun i _ => (intOf i).toNat)
      case atStart => exact ⟨k, M, Nat.le_refl _, rfl, HO1.out, HP1.out, InTo.start HS1.out, HN1.out⟩
      case round =>
        obtain ⟨j, M, hjk, rfl, hown, hprm, hins, hnx⟩ := hrel
        have hll : M.length = n := by rw [hprm.length_eq]; exact HL.out
        have HO2 := Lib.hid hown
        have HP2 := Lib.hid hprm
        have HI2 := Lib.hid hins
        have HN2 := Lib.hid hnx
        have HLL := Lib.hid hll
        have hwr : lo ≤ wr.heap.size := by have := hnx.size; omega
        rcases Nat.eq_zero_or_pos j with hj0 | hj0
        · subst hj0
          have HDN := Lib.hid (InTo.done hins (fun h => by omega))
          have t1 : decide ((0 : Int) < ((0 : Nat) : Int)) = false := by decide
          clear hown hprm hins hnx hll
          go_wp2_with fail
          go_region
          go_wp2_with fail
          go_roundw
          case rel => exact ⟨k + 1, M, by omega, by omega, by go_num, HO2.out, HP2.out, HDN.out, HN2.out.drew⟩
          case measure => simp [intOf]; omega
        · obtain ⟨p, rfl⟩ : ∃ p, j = p + 1 := ⟨j - 1, by omega⟩
          have ej : (((p + 1 : Nat)) : Int) = (p : Int) + 1 := by omega
          rw [ej]
          have t1 : decide ((0 : Int) < (p : Int) + 1) = true := decide_eq_true (by omega)
          obtain ⟨q0, q0'⟩ := hown.cellAt (show p + 1 < M.length by omega)
          obtain ⟨q1, q1'⟩ := hown.cellAt (show p < M.length by omega)
          have hgw := (OwnSc.block hown.own g rfl).2
          have hgl := (OwnSc.block hown.own g rfl).1
          have HSW : Hid (ltS (sAt M (p + 1)) (sAt M p) → InTo (swS M (p + 1)) k p) := Lib.hid (fun h => hins.swap (by omega) (by omega) (ltS.le h))
          have HDN : Hid (¬ ltS (sAt M (p + 1)) (sAt M p) → SoTo M (k + 1)) := Lib.hid (fun h => hins.done (fun _ => h))
          have HPS : Hid ((swS M (p + 1)).Perm L) := Lib.hid ((swS_perm (by omega)).trans hprm)
          have HST : Hid (∀ W, OwnZ T lo W g n cap M → OwnZ T lo ((((W.setCell ⟨g, (p + 1) * 2, none⟩ (.int .i8 (sAt M p).1)).setCell ⟨g, (p + 1) * 2 + 1, none⟩ (.int .i16 (sAt M p).2)).setCell ⟨g, p * 2, none⟩ (.int .i8 (sAt M (p + 1)).1)).setCell ⟨g, p * 2 + 1, none⟩ (.int .i16 (sAt M (p + 1)).2)) g n cap (swS M (p + 1))) := Lib.hid (fun W h => by
            rw [swS_two]; exact (h.store (p + 1) (by omega) (sAt M p)).store p (by simp; omega) (sAt M (p + 1)))
          have HST2 : Hid (∀ W, OwnZ T lo W g n cap M → OwnZ T lo ((((W.setCell ⟨g, p * 2, none⟩ (.int .i8 (sAt M (p + 1)).1)).setCell ⟨g, p * 2 + 1, none⟩ (.int .i16 (sAt M (p + 1)).2)).setCell ⟨g, (p + 1) * 2, none⟩ (.int .i8 (sAt M p).1)).setCell ⟨g, (p + 1) * 2 + 1, none⟩ (.int .i16 (sAt M p).2)) g n cap (swS M (p + 1))) := Lib.hid (fun W h => by
            rw [swS_two']; exact (h.store p (by omega) (sAt M (p + 1))).store (p + 1) (by simp; omega) (sAt M p))
          have HFZ : Hid (∀ W i, OwnZ T lo W g n cap M → W.frozen? ⟨g, i, none⟩ = false) := Lib.hid (fun W i h => World.ownsRow.frozenAt h.2 i)
          have HNEG := Lib.hid (cmpS_neg (sAt M (p + 1)) (sAt M p))
          obtain ⟨x0, x1, hx⟩ : ∃ x0 x1, sAt M (p + 1) = (x0, x1) := ⟨_, _, rfl⟩
          obtain ⟨y0, y1, hy⟩ : ∃ y0 y1, sAt M p = (y0, y1) := ⟨_, _, rfl⟩
          rw [hx] at q0 q0' HSW HDN HST HST2 HNEG
          rw [hy] at q1 q1' HSW HDN HST HST2 HNEG
          simp only at q0 q0' q1 q1'
          have hjn : (p : Int) + 1 < (n : Int) := by omega
          have hjn2 : (p : Int) < (n : Int) := by omega
          have hj10 : (p : Int) + 1 ≤ 12 := by omega
          have hjt : ((p : Int) + 1).toNat = p + 1 := by omega
          have hpw : IntKind.i64.wrap (p : Int) = (p : Int) := IntWalk.i64_in _ (by omega)
          have hp0 : (0 : Int) ≤ (p : Int) + 1 := by omega
          have hp1 : p + 1 < n := by omega
          have hp2 : p < n := by omega
          clear hown hprm hins hnx hll hx hy
          obtain ⟨r, hr⟩ : ∃ r, cmpS (x0, x1) (y0, y1) = r := ⟨_, rfl⟩
          have HR : Hid (cmpS (x0, x1) (y0, y1) = r) := Lib.hid hr
          rw [hr] at HNEG
          clear hr
          go_wp2_with fail
          go_region_held3 (fun v => v.cell? ⟨g, (p + 1) * 2, none⟩ = some (.int .i8 x0) ∧ v.cell? ⟨g, (p + 1) * 2 + 1, none⟩ = some (.int .i16 x1) ∧ v.cell? ⟨g, p * 2, none⟩ = some (.int .i8 y0) ∧ v.cell? ⟨g, p * 2 + 1, none⟩ = some (.int .i16 y1)) (first | exact zS | go_keep)
            ((refine (icmS_any x0 x1 y0 y1 wr.drew).mono ?_; rintro e z ⟨rfl, bz⟩; rw [HR.out]; have zS : z.cell? ⟨g, (p + 1) * 2, none⟩ = some (.int .i8 x0) ∧ z.cell? ⟨g, (p + 1) * 2 + 1, none⟩ = some (.int .i16 x1) ∧ z.cell? ⟨g, p * 2, none⟩ = some (.int .i8 y0) ∧ z.cell? ⟨g, p * 2 + 1, none⟩ = some (.int .i16 y1) := ⟨by rw [bz.cell (p := ⟨g, (p + 1) * 2, none⟩) hgw]; exact q0, by rw [bz.cell (p := ⟨g, (p + 1) * 2 + 1, none⟩) hgw]; exact q0', by rw [bz.cell (p := ⟨g, p * 2, none⟩) hgw]; exact q1, by rw [bz.cell (p := ⟨g, p * 2 + 1, none⟩) hgw]; exact q1'⟩))
          have bw : Below wr.heap.size wr z := ((Below.refl _ _).drew).trans bz
          have HN3 := Lib.hid (HN2.out.trans (bw.mono hwr))
          have HO3 := Lib.hid (HO2.out.below bw)
          obtain ⟨z0, z0', z1, z1'⟩ := zS
          have f0 := HFZ.out _ ((p + 1) * 2) HO3.out
          have f0' := HFZ.out _ ((p + 1) * 2 + 1) HO3.out
          have f1 := HFZ.out _ (p * 2) HO3.out
          have f1' := HFZ.out _ (p * 2 + 1) HO3.out
          clear bz bw q0 q0' q1 q1'
          obtain ⟨u, hu⟩ : ∃ u : World, z = u := ⟨_, rfl⟩
          rw [hu] at z0 z0' z1 z1' f0 f0' f1 f1' HN3 HO3 ⊢
          clear hu
          by_cases hr0 : r < 0
          · have t2 : decide (r < 0) = true := decide_eq_true hr0
            have HIN := Lib.hid (HSW.out (HNEG.out.1 hr0))
            have HOA := Lib.hid (HST.out u HO3.out)
            have HOB := Lib.hid (HST2.out u HO3.out)
            have HNA : Hid (Below lo w ((((u.setCell ⟨g, (p + 1) * 2, none⟩ (.int .i8 y0)).setCell ⟨g, (p + 1) * 2 + 1, none⟩ (.int .i16 y1)).setCell ⟨g, p * 2, none⟩ (.int .i8 x0)).setCell ⟨g, p * 2 + 1, none⟩ (.int .i16 x1))) := Lib.hid ((((HN3.out.setCell hgl _).setCell hgl _).setCell hgl _).setCell hgl _)
            have HNB : Hid (Below lo w ((((u.setCell ⟨g, p * 2, none⟩ (.int .i8 x0)).setCell ⟨g, p * 2 + 1, none⟩ (.int .i16 x1)).setCell ⟨g, (p + 1) * 2, none⟩ (.int .i8 y0)).setCell ⟨g, (p + 1) * 2 + 1, none⟩ (.int .i16 y1))) := Lib.hid ((((HN3.out.setCell hgl _).setCell hgl _).setCell hgl _).setCell hgl _)
            have hjj : ¬ (p + 1) * 2 = p * 2 := by omega
            have hjj2 : ¬ (p + 1) * 2 = p * 2 + 1 := by omega
            have hjj3 : ¬ (p + 1) * 2 + 1 = p * 2 := by omega
            have hjj4 : ¬ p * 2 = (p + 1) * 2 := by omega
            have hjj5 : ¬ p * 2 + 1 = (p + 1) * 2 := by omega
            have hjj6 : ¬ p * 2 = (p + 1) * 2 + 1 := by omega
            go_wp2_with fail
            go_region
            all_goals
              go_wp2_with fail
              go_roundw
              case rel => exact ⟨p, swS M (p + 1), by omega, by go_num, (by first | exact HOA.out.below ((Below.refl _ _).drew) | exact HOB.out.below ((Below.refl _ _).drew)), HPS.out, HIN.out, (by first | exact HNA.out.drew | exact HNB.out.drew)⟩
              case measure => simp [intOf]
          · have t2 : decide (r < 0) = false := decide_eq_false hr0
            have HDD := Lib.hid (HDN.out (fun h => hr0 (HNEG.out.2 h)))
            have hr1 : 0 ≤ r := by omega
            go_wp2_with fail
            go_roundw
            case rel => exact ⟨k + 1, M, by omega, by omega, by go_num, HO3.out, HP2.out, HDD.out, HN3.out⟩
            case measure => simp [intOf]; omega
    · obtain rfl : k = n := by omega
      go_wp2_with fail
      go_end0
      exact ⟨rfl, M, HO1.out, HP1.out, HS1.out, HN1.out⟩
end Go.Proofs.Ytlempmahkeilpaa
/-
  The program's SortScans.
-/
namespace Go.Proofs.Ytlempmahkeilpaa
open Go Go.RowKit
set_option linter.unusedVariables false

noncomputable def ssR (st sy : Int) (ps : List Lan) (cs : List (Int × Int)) : List (Int × Int) := if csC st sy ps cs = 0 then ssK cs cs.length else []
theorem ssR_len (st sy : Int) (ps : List Lan) (cs : List (Int × Int)) : (ssR st sy ps cs).length ≤ 1048575 := by
  unfold ssR
  split
  · rename_i h
    have := (scnC_ok h).2.2
    rw [ssK_len]; omega
  · simp
def RetS1 (B : Nat) (w : World) (ps : List (Int × Int)) (c : Int) (e : Ending) (w' : World) : Prop := ∃ v, e = .returned (.tuple #[v, .int .i64 c]) ∧ OwnSc 37 B w' v ps ∧ Below w.heap.size w w'

abbrev cmpF : Value := .func (.func 64) #[] #[]
/-- What the sort leaves. -/
def SortsS (lo g n cap : Nat) (L : List (Int × Int)) (w : World) (e : Ending) (w' : World) : Prop := e = .returned (.tuple #[]) ∧ OwnZ 37 lo w' g n cap (ssK L L.length) ∧ Below lo w w'

set_option maxHeartbeats 1000000 in
theorem insS_all (lo g n cap : Nat) (L : List (Int × Int)) (w : World) (hl : L.length = n) (h12 : n ≤ 12) (hlo : lo ≤ w.heap.size) (ho : OwnZ 37 lo w g n cap L) :
    Calls Try.prog 108 #[.slice (some ⟨g, 0, none⟩) n cap, .int .i64 0, .int .i64 n, cmpF] w (SortsS lo g n cap L w) := by
  rcases Nat.eq_zero_or_pos n with h | h
  · subst h
    have e : L = [] := List.eq_nil_of_length_eq_zero hl
    subst e
    have HO := Lib.hid ho
    clear ho hl
    go_enter Try.func108, Try.ntmps108
    go_wp2_with fail
    refine wp_loop_rounds 1 ?_
    rw [rounds_succ]
    go_wp2_with fail
    go_end0
    exact ⟨rfl, HO.out, Below.refl _ _⟩
  · refine (insS_any _ lo g n cap L w hl h12 h hlo ho).mono ?_
    rintro e w' ⟨rfl, M, h1, h2, h3, h4⟩
    have e2 : M = ssK L L.length := sortS_is h2 (by rw [hl]; exact h3)
    exact ⟨rfl, e2 ▸ h1, h4⟩

set_option maxHeartbeats 2000000 in
theorem pdqS_all (lo g n cap : Nat) (m : Int) (L : List (Int × Int)) (w : World) (hl : L.length = n) (h12 : n ≤ 12) (hlo : lo ≤ w.heap.size) (ho : OwnZ 37 lo w g n cap L) :
    Calls Try.prog 102 #[.slice (some ⟨g, 0, none⟩) n cap, .int .i64 0, .int .i64 n, .int .i64 m, cmpF] w (SortsS lo g n cap L w) := by
  have HI := Lib.hid (insS_all lo g n cap L w hl h12 hlo ho)
  have t1 : decide ((n : Int) ≤ 12) = true := decide_eq_true (by omega)
  have hw : IntKind.i64.wrap (n : Int) = (n : Int) := IntWalk.i64_in _ (by omega)
  clear ho hl
  go_enter Try.func102, Try.ntmps102
  go_wp2_with fail
  refine wp_loop_rounds 1 ?_
  rw [rounds_succ]
  go_wp2_with fail
  refine HI.out.mono ?_
  rintro e w2 ⟨rfl, hs⟩
  have HS := Lib.hid hs
  clear hs
  go_wp2_with fail
  go_end0
  exact ⟨rfl, HS.out⟩

set_option maxHeartbeats 2000000 in
theorem sortS_all (lo g n cap : Nat) (L : List (Int × Int)) (w : World) (hl : L.length = n) (h12 : n ≤ 12) (hlo : lo ≤ w.heap.size) (ho : OwnZ 37 lo w g n cap L) :
    Calls Try.prog 90 #[.slice (some ⟨g, 0, none⟩) n cap, cmpF] w (SortsS lo g n cap L w) := by
  have HI : Hid (∀ (m : Int) (w2 : World), Below w.heap.size w w2 → Calls Try.prog 102 #[.slice (some ⟨g, 0, none⟩) n cap, .int .i64 0, .int .i64 n, .int .i64 m, cmpF] w2 (SortsS lo g n cap L w2)) := Lib.hid (fun m w2 b2 =>
    pdqS_all lo g n cap m L w2 hl h12 (Nat.le_trans hlo b2.size) (ho.below b2))
  clear ho hl
  go_enter Try.func90, Try.ntmps90
  go_wp2_with fail
  refine (blenS_any n h12 _).mono ?_
  rintro e w2 ⟨⟨m, rfl⟩, b2⟩
  have HB := Lib.hid b2
  clear b2
  go_wp2_with fail
  refine (HI.out m w2 HB.out).mono ?_
  rintro e w3 ⟨rfl, p1, p4⟩
  have HS : Hid (OwnZ 37 lo w3 g n cap (ssK L L.length) ∧ Below lo w w3) := Lib.hid ⟨p1, (HB.out.mono hlo).trans p4⟩
  clear p1 p4
  go_wp2_with fail
  go_end0
  exact ⟨rfl, HS.out⟩

set_option maxHeartbeats 1000000 in
theorem insS_none (w : World) :
    Calls Try.prog 108 #[.slice none 0 0, .int .i64 0, .int .i64 0, cmpF] w fun e w' => e = .returned (.tuple #[]) ∧ Below w.heap.size w w' := by
  go_enter Try.func108, Try.ntmps108
  go_wp2_with fail
  refine wp_loop_rounds 1 ?_
  rw [rounds_succ]
  go_wp2_with fail
  go_end0
  exact ⟨rfl, Below.refl _ _⟩
set_option maxHeartbeats 1000000 in
theorem pdqS_none (m : Int) (w : World) :
    Calls Try.prog 102 #[.slice none 0 0, .int .i64 0, .int .i64 0, .int .i64 m, cmpF] w fun e w' => e = .returned (.tuple #[]) ∧ Below w.heap.size w w' := by
  go_enter Try.func102, Try.ntmps102
  go_wp2_with fail
  refine wp_loop_rounds 1 ?_
  rw [rounds_succ]
  go_wp2_with fail
  refine (insS_none w).mono ?_
  rintro e w3 ⟨rfl, b3⟩
  have HB3 := Lib.hid b3
  clear b3
  go_wp2_with fail
  refine bodyPost_ret (results_none rfl _ _ _) rfl ?_
  exact ⟨rfl, HB3.out⟩
set_option maxHeartbeats 1000000 in
theorem sortS_none (w : World) :
    Calls Try.prog 90 #[.slice none 0 0, cmpF] w fun e w' => e = .returned (.tuple #[]) ∧ Below w.heap.size w w' := by
  go_enter Try.func90, Try.ntmps90
  go_wp2_with fail
  refine (blenS_any 0 (by omega) _).mono ?_
  rintro e w2 ⟨⟨m, rfl⟩, b2⟩
  have HB := Lib.hid b2
  clear b2
  go_wp2_with fail
  refine (pdqS_none m w2).mono ?_
  rintro e w3 ⟨rfl, b3⟩
  have HB3 := Lib.hid (blink HB.out b3)
  clear b3
  go_wp2_with fail
  go_end0
  exact ⟨rfl, HB3.out⟩

set_option maxHeartbeats 2000000 in
theorem sortedS_any (Bs cap : Nat) (a : Option Addr) (zs : List (Int × Int)) (hz : zs.length ≤ 12) (w : World) (hBs : w.cell? ⟨Bs, 0, none⟩ = some (.slice a zs.length cap)) (ha : zs ≠ [] → ∃ b, a = some ⟨b, 0, none⟩ ∧ CellsSc w b zs) :
    Calls Try.prog 62 #[valsSF Bs, cmpF] w fun e w' => ∃ v, e = .returned v ∧ OwnSc 37 w.heap.size w' v (ssK zs zs.length) ∧ Below w.heap.size w w' := by
  have HC := Lib.hid (collS_any Bs cap a zs (by omega) w hBs ha)
  clear hBs ha
  go_enter Try.func62, Try.ntmps62
  go_wp2_with fail
  refine HC.out.mono ?_
  rintro e w2 ⟨v, rfl, o2, b2⟩
  have HB := Lib.hid b2
  have hs2 := b2.size
  rcases o2.cases with ⟨rfl, rfl⟩ | ⟨g, gcap, rfl, _⟩
  · clear o2 b2
    go_wp2_with fail
    refine (sortS_none w2).mono ?_
    rintro e w3 ⟨rfl, b3⟩
    have HB3 := Lib.hid (blink HB.out b3)
    clear b3
    go_wp2_with fail
    go_ret
    exact ⟨_, rfl, World.ownsRow_nil _ _ _ _, HB3.out⟩
  · have HS := Lib.hid (sortS_all w.heap.size g zs.length gcap zs w2 rfl hz hs2 ⟨rfl, o2⟩)
    clear o2 b2
    go_wp2_with fail
    refine HS.out.mono ?_
    rintro e w3 ⟨rfl, o3, b3⟩
    have HO3 := Lib.hid (OwnZ.own o3)
    have HB3 := Lib.hid (HB.out.trans b3)
    clear o3 b3
    go_wp2_with fail
    go_ret
    exact ⟨_, rfl, HO3.out, HB3.out⟩

set_option maxHeartbeats 2000000 in
set_option maxRecDepth 100000 in
theorem iss_any (st sy : Int) (v : Value) (g m : Nat) (ps : List Lan) (cs : List (Int × Int)) (w : World) (hn : FitN st sy ps) (hf : FitsSc cs) (hv : ReadsLa w v ps) (hu : ReadsSc w (.slice (some ⟨g, 0, none⟩) m m) cs) (hx : cs.length ≤ 1048576) :
    Calls Try.prog 25 #[netV st sy v, .slice (some ⟨g, 0, none⟩) m m] w (RetS1 w.heap.size w (ssR st sy ps cs) (csC st sy ps cs)) := by
  have HM : Hid (cs.length = m) := Lib.hid (by obtain ⟨_, _, e, _⟩ := hu; injection e with e1 e2 e3; exact e2.symm)
  have HG : Hid (cs ≠ [] → CellsSc w g cs) := Lib.hid (fun h => by
    obtain ⟨a, cap, e, hc⟩ := hu
    obtain ⟨b, rfl, hb⟩ := hc h
    injection e with e1 e2 e3
    injection e1 with e1
    injection e1 with e1
    rw [e1]; exact hb)
  have b1 : Below w.heap.size w (w.alloc (.cells #[.int .i8 st, .int .i16 sy, v] 35)) := (Below.refl _ _).alloc (Nat.le_refl _) _
  have BN : BlkA (w.alloc (.cells #[.int .i8 st, .int .i16 sy, v] 35)) w.heap.size 35 #[.int .i8 st, .int .i16 sy, v] := BlkA.new rfl _ _
  obtain ⟨W1, hW⟩ : ∃ W, w.alloc (.cells #[.int .i8 st, .int .i16 sy, v] 35) = W := ⟨_, rfl⟩
  rw [hW] at b1 BN
  have HW := Lib.hid hW
  have HB1 := Lib.hid b1
  have HCHK := Lib.hid (ichk_any st sy v ps _ (.slice none 0 0) (.slice none 0 0) cs [] [] W1 hn (hv.below b1) (hu.below b1) hf (reads_nil _) (reads_nil _) hx (by simp) (by simp))
  rw [chk_scn] at HCHK
  have n0 := BN.at 0
  have n1 := BN.at 1
  have n2 := BN.at 2
  clear hW b1 BN hv hu hn hf
  go_enter Try.func25, Try.ntmps25
  go_wp2_with fail
  rw [HW.out]
  go_wp2_with fail
  refine HCHK.out.mono ?_
  rintro e w2 ⟨rfl, b2⟩
  have HB2 := Lib.hid (blink HB1.out b2)
  obtain ⟨c, hc⟩ : ∃ c, csC st sy ps cs = c := ⟨_, rfl⟩
  have HC := Lib.hid hc
  rw [show scnC st sy ps (scsB st cs) cs.length = csC st sy ps cs from rfl, hc]
  clear b2 n0 n1 n2 HCHK hc HW
  by_cases hz : c = 0
  rotate_left
  · have HR : Hid (ssR st sy ps cs = []) := Lib.hid (by unfold ssR; rw [HC.out, if_neg hz])
    have t1 : (c != 0) = true := by simp [hz]
    have t0 : (c == 0) = false := by simp [hz]
    clear hz
    go_wp2_with fail
    go_ret2
    exact ⟨_, ret_pair HC.out.symm, by rw [HR.out]; exact World.ownsRow_nil _ _ _ _, HB2.out⟩
  subst hz
  have h12 := (scnC_ok HC.out).2.2
  have HR : Hid (ssR st sy ps cs = ssK cs cs.length) := Lib.hid (by unfold ssR; rw [if_pos HC.out])
  have h12' := Lib.hid h12
  clear h12 hx
  go_wp2_with fail
  refine (valsS_any (some ⟨g, 0, none⟩) m m w2).mono ?_
  rintro e w3 ⟨rfl, e3⟩
  have b3 : Below w2.heap.size w2 w3 := by rw [e3]; exact (Below.refl _ _).alloc (Nat.le_refl _) _
  have c3 : w3.cell? ⟨w2.heap.size, 0, none⟩ = some (.slice (some ⟨g, 0, none⟩) cs.length m) := by rw [e3, HM.out]; simp
  have HB3 := Lib.hid (blink HB2.out b3)
  have HS := Lib.hid (sortedS_any w2.heap.size m (some ⟨g, 0, none⟩) cs h12'.out w3 c3 (fun h => ⟨g, rfl, (HG.out h).below (blink HB2.out b3)⟩))
  clear e3 b3 c3
  go_wp2_with fail
  refine HS.out.mono ?_
  rintro e w4 ⟨u, rfl, o4, b4⟩
  have HO4 := Lib.hid o4
  have HB4 := Lib.hid (blink HB3.out b4)
  have hs3 := HB3.out.size
  clear o4 b4 HS
  go_wp2_with fail
  go_ret2
  exact ⟨_, ret_pair HC.out.symm, by rw [HR.out]; exact OwnSc.mono HO4.out hs3, HB4.out⟩
end Go.Proofs.Ytlempmahkeilpaa
/-
  The model's order of two scans.
-/
namespace Go.Proofs.Ytlempmahkeilpaa
open Go Go.RowKit
set_option linter.unusedVariables false

set_option maxHeartbeats 2000000 in
set_option maxRecDepth 100000 in
theorem sbef_any (x0 x1 y0 y1 : Int) (w : World) :
    Calls Try.prog 61 #[.agg #[.int .i8 x0, .int .i16 x1], .agg #[.int .i8 y0, .int .i16 y1]] w fun e w' => e = .returned (.bool (decide (ltS (x0, x1) (y0, y1)))) ∧ Below w.heap.size w w' := by
  have hb1 : Below w.heap.size w ((w.alloc (.cells #[.int .i8 x0, .int .i16 x1] 37)).alloc (.cells #[.int .i8 y0, .int .i16 y1] 37)) := ((Below.refl _ _).alloc (Nat.le_refl _) _).alloc (by simp) _
  have BX : BlkA ((w.alloc (.cells #[.int .i8 x0, .int .i16 x1] 37)).alloc (.cells #[.int .i8 y0, .int .i16 y1] 37)) w.heap.size 37 #[.int .i8 x0, .int .i16 x1] := (BlkA.new rfl _ _).alloc _
  have BY : BlkA ((w.alloc (.cells #[.int .i8 x0, .int .i16 x1] 37)).alloc (.cells #[.int .i8 y0, .int .i16 y1] 37)) (w.heap.size + 1) 37 #[.int .i8 y0, .int .i16 y1] := BlkA.new (by simp) _ _
  have HE : Hid (decide (ltS (x0, x1) (y0, y1)) = (decide (x1 < y1) || ((x1 == y1) && decide (x0 < y0)))) := Lib.hid (by
    rw [Bool.eq_iff_iff, decide_eq_true_iff]; unfold ltS; simp)
  rw [HE.out]
  clear hb1 BX BY
  have HB1 : Hid (Below w.heap.size w ((w.alloc (.cells #[.int .i8 x0, .int .i16 x1] 37)).alloc (.cells #[.int .i8 y0, .int .i16 y1] 37))) := Lib.hid (((Below.refl _ _).alloc (Nat.le_refl _) _).alloc (by simp) _)
  obtain ⟨p, hp⟩ : ∃ p, decide (x1 < y1) = p := ⟨_, rfl⟩
  obtain ⟨q, hq⟩ : ∃ q, (x1 == y1) = q := ⟨_, rfl⟩
  obtain ⟨r, hr⟩ : ∃ r, decide (x0 < y0) = r := ⟨_, rfl⟩
  rw [hp, hq, hr]
  cases p <;> cases q <;> cases r <;>
  · go_enter Try.func61, Try.ntmps61
    go_wp2_with fail
    go_ret
    exact ⟨rfl, HB1.out⟩
end Go.Proofs.Ytlempmahkeilpaa
/-
  The model's SortScans.
-/
namespace Go.Proofs.Ytlempmahkeilpaa
open Go Go.RowKit
set_option linter.unusedVariables false

theorem posS_yes {x : Int × Int} {out : List (Int × Int)} {p : Nat} (h : ltS x (sAt out p)) : posS x out (p + 1) = posS x out p := by
  rw [posS]; exact if_pos h
theorem posS_stop {x : Int × Int} {out : List (Int × Int)} {p : Nat} (h : ¬ ltS x (sAt out p)) : posS x out (p + 1) = p + 1 := by
  rw [posS]; exact if_neg h

set_option maxHeartbeats 8000000 in
set_option maxRecDepth 100000 in
theorem sss_any (st sy : Int) (v : Value) (gl m : Nat) (ps : List Lan) (cs : List (Int × Int)) (w : World) (hn : FitN st sy ps) (hf : FitsSc cs) (hv : ReadsLa w v ps) (hu : ReadsSc w (.slice (some ⟨gl, 0, none⟩) m m) cs) (hx : cs.length ≤ 1048576) :
    Calls Try.prog 23 #[netV st sy v, .slice (some ⟨gl, 0, none⟩) m m] w (RetS1 w.heap.size w (ssR st sy ps cs) (csC st sy ps cs)) := by
  obtain ⟨i0, hi, hz0, hz1, hz2⟩ := info_parts infoR_Sc
  have HM : Hid (cs.length = m) := Lib.hid (by obtain ⟨_, _, e, _⟩ := hu; injection e with e1 e2 e3; exact e2.symm)
  have HG : Hid (cs ≠ [] → CellsSc w gl cs) := Lib.hid (fun h => by
    obtain ⟨a, cap, e, hc⟩ := hu
    obtain ⟨b, rfl, hb⟩ := hc h
    injection e with e1 e2 e3
    injection e1 with e1
    injection e1 with e1
    rw [e1]; exact hb)
  have b0 : Below w.heap.size w (w.alloc (.cells #[.int .i8 st, .int .i16 sy, v] 35)) := (Below.refl _ _).alloc (Nat.le_refl _) _
  have BN0 : BlkA (w.alloc (.cells #[.int .i8 st, .int .i16 sy, v] 35)) w.heap.size 35 (netB st sy v) := BlkA.new rfl _ _
  obtain ⟨W0, hW0⟩ : ∃ W, w.alloc (.cells #[.int .i8 st, .int .i16 sy, v] 35) = W := ⟨_, rfl⟩
  rw [hW0] at b0 BN0
  have hs0 : W0.heap.size = w.heap.size + 1 := by rw [← hW0]; simp
  have ho1 : (W0.alloc (.cells #[] 37)).ownsRow W0.heap.size 37 2 (.slice (some ⟨W0.heap.size, 0, none⟩) 0 0) 0 [] := World.ownsRow_made W0 #[] 0 (Nat.le_refl _) (Nat.zero_le _) rfl
  have b1 : Below W0.heap.size W0 (W0.alloc (.cells #[] 37)) := (Below.refl _ _).alloc (Nat.le_refl _) _
  obtain ⟨W1, hW⟩ : ∃ W, W0.alloc (.cells #[] 37) = W := ⟨_, rfl⟩
  rw [hW] at b1 ho1
  have HB0 := Lib.hid b0
  have HB01 := Lib.hid b1
  have HB1 := Lib.hid (blink b0 b1)
  have HCHK := Lib.hid (sscans_any w.heap.size st sy v ps _ cs true W1 hn (hv.below (blink b0 b1)) (hu.below (blink b0 b1)) hf hx (BN0.below b1))
  rw [Bool.true_and] at HCHK
  rw [hs0] at ho1
  have HO1 : Hid (OwnZ 37 W0.heap.size W1 (w.heap.size + 1) 0 0 (ssK cs 0)) := Lib.hid ⟨rfl, by rw [hs0]; exact ho1⟩
  rw [← hW0] at hW
  have HW := Lib.hid hW
  clear hW hW0 b0 b1 BN0 hv hu hn hf ho1 hs0
  go_enter Try.func23, Try.ntmps23
  go_wp2_with fail
  rw [HW.out]
  refine HCHK.out.mono ?_
  rintro e w2 ⟨rfl, b2⟩
  have HB2 := Lib.hid (blink HB1.out b2)
  have HB02 := Lib.hid (blink HB01.out b2)
  have HO2 := Lib.hid (HO1.out.below b2)
  obtain ⟨c, hc⟩ : ∃ c, csC st sy ps cs = c := ⟨_, rfl⟩
  have HC := Lib.hid hc
  rw [show scnC st sy ps (scsB st cs) cs.length = csC st sy ps cs from rfl, hc]
  clear b2 HCHK hc HW
  by_cases hz : c = 0
  rotate_left
  · have HR : Hid (ssR st sy ps cs = []) := Lib.hid (by unfold ssR; rw [HC.out, if_neg hz])
    have t1 : (c != 0) = true := by simp [hz]
    have t0 : (c == 0) = false := by simp [hz]
    clear hz
    go_wp2_with fail
    go_ret2
    exact ⟨_, ret_pair HC.out.symm, by rw [HR.out]; exact (OwnZ.own HO2.out).mono HB0.out.size, HB2.out⟩
  subst hz
  have h12 := (scnC_ok HC.out).2.2
  have HR : Hid (ssR st sy ps cs = ssK cs cs.length) := Lib.hid (by unfold ssR; rw [if_pos HC.out])
  have hm12 : m ≤ 12 := by rw [← HM.out]; exact h12
  clear h12 hx
  go_wp2_with fail
  go_loopw [6, 8] (fun gv i wr => ∃ k g cap : Nat, k ≤ m ∧ i = .int .i64 k ∧ gv = .slice (some ⟨g, 0, none⟩) k cap ∧ OwnZ 37 W0.heap.size wr g k cap (ssK cs k) ∧ Below W0.heap.size W0 wr) (fun _ i _ => m - (intOf i).toNat)
  case atStart => exact ⟨0, _, 0, Nat.zero_le _, rfl, rfl, HO2.out, HB02.out⟩
  case round =>
    obtain ⟨k, g, cap, hk, rfl, rfl, hown, hnx⟩ := hrel
    obtain ⟨wo, rfl⟩ : ∃ W, W = wr := ⟨_, rfl⟩
    have HNX := Lib.hid hnx
    have HOW := Lib.hid hown
    by_cases hlt : k < m
    · have hkl : (k : Int) < (m : Int) := by omega
      have hk0 : (0 : Int) ≤ (k : Int) := by omega
      have HBW : Hid (Below w.heap.size w wo) := Lib.hid (blink HB0.out hnx)
      have hne : cs ≠ [] := by intro e; have := HM.out; rw [e] at this; simp at this; omega
      have hcl : CellsSc wo gl cs := (HG.out hne).below HBW.out
      obtain ⟨x0, x1, hxx⟩ : ∃ x0 x1, cs.getD k (0, 0) = (x0, x1) := ⟨_, _, rfl⟩
      have hck := hcl k (by rw [HM.out]; exact hlt)
      rw [hxx] at hck
      simp only at hck
      have HCK := Lib.hid hck
      have HSK : Hid (ssK cs (k + 1) = insS (x0, x1) (ssK cs k)) := Lib.hid (by rw [ssK, hxx])
      have hsl : (ssK cs k).length = k := ssK_len cs k
      have hglt : gl < wo.heap.size := World.block_lt_of_cell? wo _ hck.1
      obtain ⟨S, hS⟩ : ∃ S, ssK cs k = S := ⟨_, rfl⟩
      rw [hS] at hown HSK hsl
      have HSL := Lib.hid hsl
      have HOS := Lib.hid hown
      have hgw := (OwnSc.block hown.own g rfl).2
      have hgl := (OwnSc.block hown.own g rfl).1
      have HINS : Hid (insS (x0, x1) S = S.take (posS (x0, x1) S k) ++ (x0, x1) :: S.drop (posS (x0, x1) S k)) := Lib.hid (by unfold insS; rw [hsl])
      have hwo : W0.heap.size ≤ wo.heap.size := hnx.size
      clear hown hnx HOW hcl hck hxx hsl hS hne
      go_wp2_with fail
      go_loopw [9] (fun i wr => ∃ j : Nat, j ≤ k ∧ i = .int .i64 j ∧ posS (x0, x1) S k = posS (x0, x1) S j ∧ Below wo.heap.size wo wr) (fun i _ => (intOf i).toNat)
      case atStart => exact ⟨k, Nat.le_refl _, rfl, rfl, Below.refl _ _⟩
      case round =>
        obtain ⟨j, hjk, rfl, hpos, hnx⟩ := hrel
        have HN2 := Lib.hid hnx
        have HPO := Lib.hid hpos
        have HOJ := Lib.hid (HOS.out.below hnx)
        -- what comes behind the search
        have hj0 : (0 : Int) ≤ (j : Int) := by omega
        have hjk' : (j : Int) ≤ (k : Int) := by omega
        have hkc : k ≤ cap ∧ cap ≤ maxLen := by
          rcases HOS.out.2.2 with ⟨e, _⟩ | ⟨g', cap', cur, e, _, _, q1, q2, _, _⟩
          · cases e
          · injection e with e1 e2 e3
            subst e3
            exact ⟨q1, q2⟩
        obtain ⟨ad, had⟩ : ∃ ad, (if cap = j then some (⟨g, 0, none⟩ : Addr) else some ⟨g, j * 2, none⟩) = some ad := by
          split
          · exact ⟨_, rfl⟩
          · exact ⟨_, rfl⟩
        have HAD := Lib.hid had
        have HVD : Hid (∀ W, CellsSc W g S → ∀ q u, (flatSc (S.drop j))[q]? = some u → W.cell? (ad.add q) = some u) := Lib.hid (fun W hc => by
          have h := view_drop (c := cap - j) hc j (by rw [HSL.out]; exact hjk)
          split at had
          · rename_i e
            have h0 : S.drop j = [] := List.drop_eq_nil_of_le (by rw [HSL.out]; omega)
            rw [h0]
            intro q u hq
            simp [flatSc, flatE] at hq
          · cases had
            obtain ⟨ad', c', e', h'⟩ := h
            injection e' with e1 e2 e3
            injection e1 with e1
            subst e1
            exact h')
        have HCS : Hid (CellsSc wr g S) := Lib.hid (by
          rcases OwnSc.cases HOJ.out.own with ⟨e, _⟩ | ⟨g', cap', e, _, _, _, _, hc, _⟩
          · cases e
          · injection e with e1 e2 e3
            injection e1 with e1
            injection e1 with e1
            rw [e1]; exact hc)
        have HCO : Hid (CellsSc wo g S) := Lib.hid (by
          rcases OwnSc.cases HOS.out.own with ⟨e, _⟩ | ⟨g', cap', e, _, _, _, _, hc, _⟩
          · cases e
          · injection e with e1 e2 e3
            injection e1 with e1
            injection e1 with e1
            rw [e1]; exact hc)
        obtain ⟨w5, rfl⟩ : ∃ W, W = wr := ⟨_, rfl⟩
        have hw5 : wo.heap.size ≤ w5.heap.size := hnx.size
        have HJC : Hid (j ≤ cap) := Lib.hid (by omega)
        clear hnx hpos had
        rcases Nat.eq_zero_or_pos j with hz | hz
        rotate_left
        · obtain ⟨p, rfl⟩ : ∃ p, j = p + 1 := ⟨j - 1, by omega⟩
          have ej : (((p + 1 : Nat)) : Int) = (p : Int) + 1 := by omega
          have t1 : decide ((0 : Int) < (p : Int) + 1) = true := decide_eq_true (by omega)
          obtain ⟨y0, y1, hy⟩ : ∃ y0 y1, sAt S p = (y0, y1) := ⟨_, _, rfl⟩
          have q1 := (HOJ.out.cellAt (show p < S.length by rw [HSL.out]; omega)).1
          have q1' := (HOJ.out.cellAt (show p < S.length by rw [HSL.out]; omega)).2
          have HYES := Lib.hid (posS_yes (x := (x0, x1)) (out := S) (p := p))
          have HNO := Lib.hid (posS_stop (x := (x0, x1)) (out := S) (p := p))
          rw [hy] at q1 q1' HYES HNO
          simp only at q1 q1'
          have q0 : w5.cell? ⟨gl, k * 2, none⟩ = some (.int .i8 x0) := (HN2.out.cell (p := ⟨gl, k * 2, none⟩) hglt).trans HCK.out.1
          have q0' : w5.cell? ⟨gl, k * 2 + 1, none⟩ = some (.int .i16 x1) := (HN2.out.cell (p := ⟨gl, k * 2 + 1, none⟩) hglt).trans HCK.out.2
          have hpk : (p : Int) < (k : Int) := by omega
          have hpw : IntKind.i64.wrap (p : Int) = (p : Int) := IntWalk.i64_in _ (by omega)
          have hp0 : (0 : Int) ≤ (p : Int) + 1 := by omega
          have hpk2 : p < k := by omega
          have hgw5 : g < w5.heap.size := by omega
          have hglt5 : gl < w5.heap.size := by omega
          clear hy
          rw [ej]
          obtain ⟨r, hr⟩ : ∃ r, decide (ltS (x0, x1) (y0, y1)) = r := ⟨_, rfl⟩
          have HR2 := Lib.hid hr
          clear hr
          go_wp2_with fail
          have SD : w5.drew.cell? ⟨gl, k * 2, none⟩ = some (.int .i8 x0) ∧ w5.drew.cell? ⟨gl, k * 2 + 1, none⟩ = some (.int .i16 x1) ∧ w5.drew.cell? ⟨g, p * 2, none⟩ = some (.int .i8 y0) ∧ w5.drew.cell? ⟨g, p * 2 + 1, none⟩ = some (.int .i16 y1) := ⟨q0, q0', q1, q1'⟩
          go_region_held3 (fun v => v.cell? ⟨gl, k * 2, none⟩ = some (.int .i8 x0) ∧ v.cell? ⟨gl, k * 2 + 1, none⟩ = some (.int .i16 x1) ∧ v.cell? ⟨g, p * 2, none⟩ = some (.int .i8 y0) ∧ v.cell? ⟨g, p * 2 + 1, none⟩ = some (.int .i16 y1)) (first | (with_reducible exact zS) | (with_reducible exact SD))
            (((with_reducible refine (sbef_any x0 x1 y0 y1 w5.drew).mono ?_); rintro e z ⟨rfl, bz⟩; rw [HR2.out]; have zS : z.cell? ⟨gl, k * 2, none⟩ = some (.int .i8 x0) ∧ z.cell? ⟨gl, k * 2 + 1, none⟩ = some (.int .i16 x1) ∧ z.cell? ⟨g, p * 2, none⟩ = some (.int .i8 y0) ∧ z.cell? ⟨g, p * 2 + 1, none⟩ = some (.int .i16 y1) := ⟨by rw [bz.cell (p := ⟨gl, k * 2, none⟩) hglt5]; exact q0, by rw [bz.cell (p := ⟨gl, k * 2 + 1, none⟩) hglt5]; exact q0', by rw [bz.cell (p := ⟨g, p * 2, none⟩) hgw5]; exact q1, by rw [bz.cell (p := ⟨g, p * 2 + 1, none⟩) hgw5]; exact q1'⟩))
          have HBZ : Hid (Below wo.heap.size wo z) := Lib.hid (blink HN2.out ((Below.refl _ _).drew.trans bz))
          clear SD zS bz q0 q0' q1 q1'
          cases r with
          | true =>
            have HP2 : Hid (posS (x0, x1) S k = posS (x0, x1) S p) := Lib.hid (by rw [HPO.out]; exact HYES.out (of_decide_eq_true HR2.out))
            clear HYES HNO
            go_wp2_with fail
            go_roundw
            case rel => exact ⟨p, by omega, by go_num, HP2.out, HBZ.out⟩
            case measure => (try simp [intOf]); (try omega)
          | false =>
            have HEND : Hid (posS (x0, x1) S k = p + 1) := Lib.hid (by rw [HPO.out]; exact HNO.out (of_decide_eq_false HR2.out))
            clear HYES HNO
            rw [← ej]
            clear ej t1 hpw hp0
            obtain ⟨j, hjp⟩ : ∃ j, p + 1 = j := ⟨_, rfl⟩
            rw [hjp] at hjk hjk' hj0 HJC HAD HVD HEND ⊢
            clear hjp
            go_wp2_with fail
            have hjc := HJC.out
            have hzs : wo.heap.size ≤ z.heap.size := HBZ.out.size
            have HCZ : Hid (CellsSc z g S) := Lib.hid (CellsSc.below HCO.out HBZ.out)
            have HPS : Hid (insS (x0, x1) S = S.take j ++ (x0, x1) :: S.drop j) := Lib.hid (by rw [HINS.out, HEND.out])
            refine wp_region_relL (fun W => Below z.heap.size z W) (fun W W' => Below W.heap.size W W') 10 [fun u W => ∃ B, u = Value.slice (some ⟨B, 0, none⟩) 0 0 ∧ z.heap.size ≤ B ∧ BlkA W B 37 #[], fun u _ => u = Value.slice (some ⟨g, 0, none⟩) k cap, fun u _ => u = Value.int .i64 (j : Int), fun u _ => u = Value.slice (some ⟨g, 0, none⟩) j cap, fun u W => OwnSc 37 z.heap.size W u (S.take j), fun u _ => u = Value.slice (some ⟨gl, 0, none⟩) m m, fun u _ => u = Value.int .i64 (k : Int), fun u _ => u = Value.pointer (some ⟨gl, k * 2, none⟩), fun u _ => u = Value.agg #[.int .i8 x0, .int .i16 x1], fun u W => ∃ B, u = Value.slice (some ⟨B, 0, none⟩) 1 1 ∧ BlkA W B 37 #[.int .i8 x0, .int .i16 x1]] (by kernel_rfl) (by kernel_rfl) rfl (Below.refl _ _).drew ?_
            simp only [List.take_succ_cons, List.take_zero, List.drop_succ_cons, List.drop_zero]
            refine wpRel_cons (fun _ _ _ _ hS ⟨B, e, h1, h2⟩ => ⟨B, e, h1, BlkA.below h2 hS⟩) (fun W hC hd => relObl_intro fun K hK => ?_) (fun v42 => ?_)
            · have HK := Lib.hid hK
              have HC := Lib.hid hC
              clear hK hd hC
              go_simp
              exact HK.out _ _ ⟨_, rfl, HC.out.alloc HC.out.size _, (Below.refl _ _).alloc (Nat.le_refl _) _, W.heap.size, rfl, HC.out.size, BlkA.new rfl _ _⟩
            simp only [Act.put, List.setIfInBounds_toArray, List.set_cons_zero, List.set_cons_succ]
            refine wpRel_cons (fun _ _ _ _ _ h => h) (fun W hC hd => relObl_intro fun K hK => ?_) (fun v43 => ?_)
            · have HK := Lib.hid hK
              have HC := Lib.hid hC
              clear hK hd hC
              go_simp
              exact HK.out _ _ ⟨_, rfl, HC.out, Below.refl _ _, rfl⟩
            simp only [Act.put, List.setIfInBounds_toArray, List.set_cons_zero, List.set_cons_succ]
            refine wpRel_cons (fun _ _ _ _ _ h => h) (fun W hC hd => relObl_intro fun K hK => ?_) (fun v44 => ?_)
            · have HK := Lib.hid hK
              have HC := Lib.hid hC
              clear hK hd hC
              go_simp
              exact HK.out _ _ ⟨_, rfl, HC.out, Below.refl _ _, rfl⟩
            simp only [Act.put, List.setIfInBounds_toArray, List.set_cons_zero, List.set_cons_succ]
            refine wpRel_cons (fun _ _ _ _ _ h => h) (fun W hC hd => relObl_intro fun K hK => ?_) (fun v45 => ?_)
            · have HK := Lib.hid hK
              have HC := Lib.hid hC
              obtain rfl : v43 = Value.slice (some ⟨g, 0, none⟩) k cap := hd 1 rfl _ rfl
              obtain rfl : v44 = Value.int .i64 (j : Int) := hd 2 rfl _ rfl
              clear hK hd hC
              go_simp
              exact HK.out _ _ ⟨_, rfl, HC.out, Below.refl _ _, rfl⟩
            simp only [Act.put, List.setIfInBounds_toArray, List.set_cons_zero, List.set_cons_succ]
            refine wpRel_cons (fun _ _ _ _ hS h => OwnSc.below h hS) (fun W hC hd => relObl_intro fun K hK => ?_) (fun v46 => ?_)
            · have HK := Lib.hid hK
              have HC := Lib.hid hC
              obtain ⟨B, rfl, hB, hb⟩ := (show ∃ B, v42 = Value.slice (some ⟨B, 0, none⟩) 0 0 ∧ z.heap.size ≤ B ∧ BlkA W B 37 #[] from hd 0 rfl _ rfl)
              obtain rfl : v45 = Value.slice (some ⟨g, 0, none⟩) j cap := hd 3 rfl _ rfl
              refine wp_append_empty (.tmp 42) (.tmp 45) rfl z.heap.size B _ (S.take j) rfl rfl (view_take (HCZ.out.below hC) j (by rw [HSL.out]; exact hjk)) (by rw [List.length_take]; omega) hB hb ?_
              intro v' W' ho' hb'
              exact HK.out _ _ ⟨_, rfl, blink HC.out hb', hb', ho'⟩
            simp only [Act.put, List.setIfInBounds_toArray, List.set_cons_zero, List.set_cons_succ]
            refine wpRel_cons (fun _ _ _ _ _ h => h) (fun W hC hd => relObl_intro fun K hK => ?_) (fun v47 => ?_)
            · have HK := Lib.hid hK
              have HC := Lib.hid hC
              clear hK hd hC
              go_simp
              exact HK.out _ _ ⟨_, rfl, HC.out, Below.refl _ _, rfl⟩
            simp only [Act.put, List.setIfInBounds_toArray, List.set_cons_zero, List.set_cons_succ]
            refine wpRel_cons (fun _ _ _ _ _ h => h) (fun W hC hd => relObl_intro fun K hK => ?_) (fun v48 => ?_)
            · have HK := Lib.hid hK
              have HC := Lib.hid hC
              clear hK hd hC
              go_simp
              exact HK.out _ _ ⟨_, rfl, HC.out, Below.refl _ _, rfl⟩
            simp only [Act.put, List.setIfInBounds_toArray, List.set_cons_zero, List.set_cons_succ]
            refine wpRel_cons (fun _ _ _ _ _ h => h) (fun W hC hd => relObl_intro fun K hK => ?_) (fun v49 => ?_)
            · have HK := Lib.hid hK
              have HC := Lib.hid hC
              obtain rfl : v47 = Value.slice (some ⟨gl, 0, none⟩) m m := hd 5 rfl _ rfl
              obtain rfl : v48 = Value.int .i64 (k : Int) := hd 6 rfl _ rfl
              clear hK hd hC
              go_simp
              exact HK.out _ _ ⟨_, rfl, HC.out, Below.refl _ _, rfl⟩
            simp only [Act.put, List.setIfInBounds_toArray, List.set_cons_zero, List.set_cons_succ]
            refine wpRel_cons (fun _ _ _ _ _ h => h) (fun W hC hd => relObl_intro fun K hK => ?_) (fun v50 => ?_)
            · have HK := Lib.hid hK
              have HC := Lib.hid hC
              obtain rfl : v49 = Value.pointer (some ⟨gl, k * 2, none⟩) := hd 7 rfl _ rfl
              have k0 : W.cell? ⟨gl, k * 2, none⟩ = some (.int .i8 x0) := (Below.cell (blink HBZ.out hC) (p := ⟨gl, k * 2, none⟩) hglt).trans HCK.out.1
              have k1 : W.cell? ⟨gl, k * 2 + 1, none⟩ = some (.int .i16 x1) := (Below.cell (blink HBZ.out hC) (p := ⟨gl, k * 2 + 1, none⟩) hglt).trans HCK.out.2
              clear hK hd hC
              go_simp
              exact HK.out _ _ ⟨_, rfl, HC.out, Below.refl _ _, rfl⟩
            simp only [Act.put, List.setIfInBounds_toArray, List.set_cons_zero, List.set_cons_succ]
            refine wpRel_cons (fun _ _ _ _ hS ⟨B, e, h2⟩ => ⟨B, e, BlkA.below h2 hS⟩) (fun W hC hd => relObl_intro fun K hK => ?_) (fun v51 => ?_)
            · have HK := Lib.hid hK
              have HC := Lib.hid hC
              obtain rfl : v50 = Value.agg #[.int .i8 x0, .int .i16 x1] := hd 8 rfl _ rfl
              clear hK hd hC
              go_simp
              exact HK.out _ _ ⟨_, rfl, HC.out.alloc HC.out.size _, (Below.refl _ _).alloc (Nat.le_refl _) _, W.heap.size, rfl, BlkA.new rfl _ _⟩
            simp only [Act.put, List.setIfInBounds_toArray, List.set_cons_zero, List.set_cons_succ]
            refine wpRel_nil fun V hC hd => ?_
            have ho6 : OwnSc 37 z.heap.size V v46 (S.take j) := hd 4 _ rfl
            obtain ⟨B, rfl, hb⟩ := (show ∃ B, v51 = Value.slice (some ⟨B, 0, none⟩) 1 1 ∧ BlkA V B 37 #[.int .i8 x0, .int .i16 x1] from hd 9 _ rfl)
            have hVs : z.heap.size ≤ V.heap.size := hC.size
            have HO6 := Lib.hid ho6
            have HC6 := Lib.hid hC
            have HV6 : Hid (ViewSc V (.slice (some ⟨B, 0, none⟩) 1 1) [(x0, x1)]) := Lib.hid ⟨⟨B, 0, none⟩, 1, rfl, fun q u hq => by
              match q, hq with
              | 0, hq => exact (BlkA.at hb 0).trans (by simpa [flatSc, flatE, encSc] using hq)
              | 1, hq => exact (BlkA.at hb 1).trans (by simpa [flatSc, flatE, encSc] using hq)⟩
            have hjl : (S.take j).length = j := by rw [List.length_take, HSL.out]; omega
            clear hd hC ho6 hb
            go_wp2_with (at_builtin; refine wpList_append_view rfl _ _ rfl z.heap.size _ _ (S.take j) [(x0, x1)] rfl rfl HO6.out HV6.out (by rw [hjl]; omega) (by simp) hVs ?_)
            intro v7 w7 ho7 hg7
            have hC7 : Below z.heap.size z w7 := HC6.out.grown hg7 hVs (fun i hi => (HO6.out.block i hi).1)
            have hw7 : z.heap.size ≤ w7.heap.size := hC7.size
            have HC7 := Lib.hid hC7
            have HO7 := Lib.hid ho7
            have HV7 : Hid (ViewSc w7 (.slice (some ad) (k - j) (cap - j)) (S.drop j)) := Lib.hid ⟨ad, cap - j, by rw [List.length_drop, HSL.out], HVD.out w7 (HCZ.out.below hC7)⟩
            have hdl : (S.drop j).length = k - j := by rw [List.length_drop, HSL.out]
            have hkc1 : (k : Int) ≤ (cap : Int) := by omega
            have had := HAD.out
            clear ho7 hg7 hC7
            go_wp2_with (at_builtin; refine wpList_append_view rfl _ _ rfl z.heap.size _ _ (S.take j ++ [(x0, x1)]) (S.drop j) rfl rfl HO7.out HV7.out (by rw [List.length_append, hjl]; simp; omega) (by rw [hdl]; omega) hw7 ?_)
            intro v8 w8 ho8 hg8
            have hC8 : Below z.heap.size z w8 := HC7.out.grown hg8 hw7 (fun i hi => (HO7.out.block i hi).1)
            have e8 : S.take j ++ [(x0, x1)] ++ S.drop j = ssK cs (k + 1) := by rw [HSK.out, HPS.out, List.append_assoc]; rfl
            have e9 : S.take j ++ (x0, x1) :: S.drop j = ssK cs (k + 1) := by rw [HSK.out, HPS.out]
            have ho8 : OwnSc 37 z.heap.size w8 v8 (ssK cs (k + 1)) := by first | (rw [← e8]; exact ho8) | (rw [← e9]; exact ho8)
            obtain ⟨g8, c8, rfl⟩ : ∃ g8 c8, v8 = .slice (some ⟨g8, 0, none⟩) (k + 1) c8 := by
              have hl8 := ssK_len cs (k + 1)
              rcases OwnSc.cases ho8 with ⟨_, e⟩ | ⟨g8, c8, e, _⟩
              · rw [e] at hl8; cases hl8
              · exact ⟨g8, c8, by rw [e, hl8]⟩
            have HO8 : Hid (OwnZ 37 W0.heap.size w8 g8 (k + 1) c8 (ssK cs (k + 1))) := Lib.hid ⟨ssK_len cs (k + 1), by
              have h := OwnSc.mono (B' := W0.heap.size) ho8 (by omega)
              unfold OwnSc at h
              rw [ssK_len] at h
              exact h⟩
            have HB8 : Hid (Below W0.heap.size W0 w8) := Lib.hid (blink HNX.out (blink HBZ.out hC8))
            clear ho8 hg8 hC8 had e8
            go_wp2_with fail
            go_roundw
            case rel => exact ⟨k + 1, g8, c8, by omega, by go_num, rfl, HO8.out, HB8.out⟩
            case measure => simp [intOf]; omega
        · have HEND : Hid (posS (x0, x1) S k = j) := Lib.hid (by rw [HPO.out, hz]; rfl)
          have t1 : decide ((0 : Int) < (j : Int)) = false := decide_eq_false (by omega)
          have t1n : decide (0 < j) = false := decide_eq_false (by omega)
          clear hz
          go_wp2_with fail
          go_region
          go_wp2_with fail
          have HBZ : Hid (Below wo.heap.size wo w5.drew) := Lib.hid HN2.out.drew
          obtain ⟨z, hzz⟩ : ∃ z, w5.drew = z := ⟨_, rfl⟩
          rw [hzz] at HBZ ⊢
          clear hzz
          have hjc := HJC.out
          have hzs : wo.heap.size ≤ z.heap.size := HBZ.out.size
          have HCZ : Hid (CellsSc z g S) := Lib.hid (CellsSc.below HCO.out HBZ.out)
          have HPS : Hid (insS (x0, x1) S = S.take j ++ (x0, x1) :: S.drop j) := Lib.hid (by rw [HINS.out, HEND.out])
          refine wp_region_relL (fun W => Below z.heap.size z W) (fun W W' => Below W.heap.size W W') 10 [fun u W => ∃ B, u = Value.slice (some ⟨B, 0, none⟩) 0 0 ∧ z.heap.size ≤ B ∧ BlkA W B 37 #[], fun u _ => u = Value.slice (some ⟨g, 0, none⟩) k cap, fun u _ => u = Value.int .i64 (j : Int), fun u _ => u = Value.slice (some ⟨g, 0, none⟩) j cap, fun u W => OwnSc 37 z.heap.size W u (S.take j), fun u _ => u = Value.slice (some ⟨gl, 0, none⟩) m m, fun u _ => u = Value.int .i64 (k : Int), fun u _ => u = Value.pointer (some ⟨gl, k * 2, none⟩), fun u _ => u = Value.agg #[.int .i8 x0, .int .i16 x1], fun u W => ∃ B, u = Value.slice (some ⟨B, 0, none⟩) 1 1 ∧ BlkA W B 37 #[.int .i8 x0, .int .i16 x1]] (by kernel_rfl) (by kernel_rfl) rfl (Below.refl _ _).drew ?_
          simp only [List.take_succ_cons, List.take_zero, List.drop_succ_cons, List.drop_zero]
          refine wpRel_cons (fun _ _ _ _ hS ⟨B, e, h1, h2⟩ => ⟨B, e, h1, BlkA.below h2 hS⟩) (fun W hC hd => relObl_intro fun K hK => ?_) (fun v42 => ?_)
          · have HK := Lib.hid hK
            have HC := Lib.hid hC
            clear hK hd hC
            go_simp
            exact HK.out _ _ ⟨_, rfl, HC.out.alloc HC.out.size _, (Below.refl _ _).alloc (Nat.le_refl _) _, W.heap.size, rfl, HC.out.size, BlkA.new rfl _ _⟩
          simp only [Act.put, List.setIfInBounds_toArray, List.set_cons_zero, List.set_cons_succ]
          refine wpRel_cons (fun _ _ _ _ _ h => h) (fun W hC hd => relObl_intro fun K hK => ?_) (fun v43 => ?_)
          · have HK := Lib.hid hK
            have HC := Lib.hid hC
            clear hK hd hC
            go_simp
            exact HK.out _ _ ⟨_, rfl, HC.out, Below.refl _ _, rfl⟩
          simp only [Act.put, List.setIfInBounds_toArray, List.set_cons_zero, List.set_cons_succ]
          refine wpRel_cons (fun _ _ _ _ _ h => h) (fun W hC hd => relObl_intro fun K hK => ?_) (fun v44 => ?_)
          · have HK := Lib.hid hK
            have HC := Lib.hid hC
            clear hK hd hC
            go_simp
            exact HK.out _ _ ⟨_, rfl, HC.out, Below.refl _ _, rfl⟩
          simp only [Act.put, List.setIfInBounds_toArray, List.set_cons_zero, List.set_cons_succ]
          refine wpRel_cons (fun _ _ _ _ _ h => h) (fun W hC hd => relObl_intro fun K hK => ?_) (fun v45 => ?_)
          · have HK := Lib.hid hK
            have HC := Lib.hid hC
            obtain rfl : v43 = Value.slice (some ⟨g, 0, none⟩) k cap := hd 1 rfl _ rfl
            obtain rfl : v44 = Value.int .i64 (j : Int) := hd 2 rfl _ rfl
            clear hK hd hC
            go_simp
            exact HK.out _ _ ⟨_, rfl, HC.out, Below.refl _ _, rfl⟩
          simp only [Act.put, List.setIfInBounds_toArray, List.set_cons_zero, List.set_cons_succ]
          refine wpRel_cons (fun _ _ _ _ hS h => OwnSc.below h hS) (fun W hC hd => relObl_intro fun K hK => ?_) (fun v46 => ?_)
          · have HK := Lib.hid hK
            have HC := Lib.hid hC
            obtain ⟨B, rfl, hB, hb⟩ := (show ∃ B, v42 = Value.slice (some ⟨B, 0, none⟩) 0 0 ∧ z.heap.size ≤ B ∧ BlkA W B 37 #[] from hd 0 rfl _ rfl)
            obtain rfl : v45 = Value.slice (some ⟨g, 0, none⟩) j cap := hd 3 rfl _ rfl
            refine wp_append_empty (.tmp 42) (.tmp 45) rfl z.heap.size B _ (S.take j) rfl rfl (view_take (HCZ.out.below hC) j (by rw [HSL.out]; exact hjk)) (by rw [List.length_take]; omega) hB hb ?_
            intro v' W' ho' hb'
            exact HK.out _ _ ⟨_, rfl, blink HC.out hb', hb', ho'⟩
          simp only [Act.put, List.setIfInBounds_toArray, List.set_cons_zero, List.set_cons_succ]
          refine wpRel_cons (fun _ _ _ _ _ h => h) (fun W hC hd => relObl_intro fun K hK => ?_) (fun v47 => ?_)
          · have HK := Lib.hid hK
            have HC := Lib.hid hC
            clear hK hd hC
            go_simp
            exact HK.out _ _ ⟨_, rfl, HC.out, Below.refl _ _, rfl⟩
          simp only [Act.put, List.setIfInBounds_toArray, List.set_cons_zero, List.set_cons_succ]
          refine wpRel_cons (fun _ _ _ _ _ h => h) (fun W hC hd => relObl_intro fun K hK => ?_) (fun v48 => ?_)
          · have HK := Lib.hid hK
            have HC := Lib.hid hC
            clear hK hd hC
            go_simp
            exact HK.out _ _ ⟨_, rfl, HC.out, Below.refl _ _, rfl⟩
          simp only [Act.put, List.setIfInBounds_toArray, List.set_cons_zero, List.set_cons_succ]
          refine wpRel_cons (fun _ _ _ _ _ h => h) (fun W hC hd => relObl_intro fun K hK => ?_) (fun v49 => ?_)
          · have HK := Lib.hid hK
            have HC := Lib.hid hC
            obtain rfl : v47 = Value.slice (some ⟨gl, 0, none⟩) m m := hd 5 rfl _ rfl
            obtain rfl : v48 = Value.int .i64 (k : Int) := hd 6 rfl _ rfl
            clear hK hd hC
            go_simp
            exact HK.out _ _ ⟨_, rfl, HC.out, Below.refl _ _, rfl⟩
          simp only [Act.put, List.setIfInBounds_toArray, List.set_cons_zero, List.set_cons_succ]
          refine wpRel_cons (fun _ _ _ _ _ h => h) (fun W hC hd => relObl_intro fun K hK => ?_) (fun v50 => ?_)
          · have HK := Lib.hid hK
            have HC := Lib.hid hC
            obtain rfl : v49 = Value.pointer (some ⟨gl, k * 2, none⟩) := hd 7 rfl _ rfl
            have k0 : W.cell? ⟨gl, k * 2, none⟩ = some (.int .i8 x0) := (Below.cell (blink HBZ.out hC) (p := ⟨gl, k * 2, none⟩) hglt).trans HCK.out.1
            have k1 : W.cell? ⟨gl, k * 2 + 1, none⟩ = some (.int .i16 x1) := (Below.cell (blink HBZ.out hC) (p := ⟨gl, k * 2 + 1, none⟩) hglt).trans HCK.out.2
            clear hK hd hC
            go_simp
            exact HK.out _ _ ⟨_, rfl, HC.out, Below.refl _ _, rfl⟩
          simp only [Act.put, List.setIfInBounds_toArray, List.set_cons_zero, List.set_cons_succ]
          refine wpRel_cons (fun _ _ _ _ hS ⟨B, e, h2⟩ => ⟨B, e, BlkA.below h2 hS⟩) (fun W hC hd => relObl_intro fun K hK => ?_) (fun v51 => ?_)
          · have HK := Lib.hid hK
            have HC := Lib.hid hC
            obtain rfl : v50 = Value.agg #[.int .i8 x0, .int .i16 x1] := hd 8 rfl _ rfl
            clear hK hd hC
            go_simp
            exact HK.out _ _ ⟨_, rfl, HC.out.alloc HC.out.size _, (Below.refl _ _).alloc (Nat.le_refl _) _, W.heap.size, rfl, BlkA.new rfl _ _⟩
          simp only [Act.put, List.setIfInBounds_toArray, List.set_cons_zero, List.set_cons_succ]
          refine wpRel_nil fun V hC hd => ?_
          have ho6 : OwnSc 37 z.heap.size V v46 (S.take j) := hd 4 _ rfl
          obtain ⟨B, rfl, hb⟩ := (show ∃ B, v51 = Value.slice (some ⟨B, 0, none⟩) 1 1 ∧ BlkA V B 37 #[.int .i8 x0, .int .i16 x1] from hd 9 _ rfl)
          have hVs : z.heap.size ≤ V.heap.size := hC.size
          have HO6 := Lib.hid ho6
          have HC6 := Lib.hid hC
          have HV6 : Hid (ViewSc V (.slice (some ⟨B, 0, none⟩) 1 1) [(x0, x1)]) := Lib.hid ⟨⟨B, 0, none⟩, 1, rfl, fun q u hq => by
            match q, hq with
            | 0, hq => exact (BlkA.at hb 0).trans (by simpa [flatSc, flatE, encSc] using hq)
            | 1, hq => exact (BlkA.at hb 1).trans (by simpa [flatSc, flatE, encSc] using hq)⟩
          have hjl : (S.take j).length = j := by rw [List.length_take, HSL.out]; omega
          clear hd hC ho6 hb
          go_wp2_with (at_builtin; refine wpList_append_view rfl _ _ rfl z.heap.size _ _ (S.take j) [(x0, x1)] rfl rfl HO6.out HV6.out (by rw [hjl]; omega) (by simp) hVs ?_)
          intro v7 w7 ho7 hg7
          have hC7 : Below z.heap.size z w7 := HC6.out.grown hg7 hVs (fun i hi => (HO6.out.block i hi).1)
          have hw7 : z.heap.size ≤ w7.heap.size := hC7.size
          have HC7 := Lib.hid hC7
          have HO7 := Lib.hid ho7
          have HV7 : Hid (ViewSc w7 (.slice (some ad) (k - j) (cap - j)) (S.drop j)) := Lib.hid ⟨ad, cap - j, by rw [List.length_drop, HSL.out], HVD.out w7 (HCZ.out.below hC7)⟩
          have hdl : (S.drop j).length = k - j := by rw [List.length_drop, HSL.out]
          have hkc1 : (k : Int) ≤ (cap : Int) := by omega
          have had := HAD.out
          clear ho7 hg7 hC7
          go_wp2_with (at_builtin; refine wpList_append_view rfl _ _ rfl z.heap.size _ _ (S.take j ++ [(x0, x1)]) (S.drop j) rfl rfl HO7.out HV7.out (by rw [List.length_append, hjl]; simp; omega) (by rw [hdl]; omega) hw7 ?_)
          intro v8 w8 ho8 hg8
          have hC8 : Below z.heap.size z w8 := HC7.out.grown hg8 hw7 (fun i hi => (HO7.out.block i hi).1)
          have e8 : S.take j ++ [(x0, x1)] ++ S.drop j = ssK cs (k + 1) := by rw [HSK.out, HPS.out, List.append_assoc]; rfl
          have e9 : S.take j ++ (x0, x1) :: S.drop j = ssK cs (k + 1) := by rw [HSK.out, HPS.out]
          have ho8 : OwnSc 37 z.heap.size w8 v8 (ssK cs (k + 1)) := by first | (rw [← e8]; exact ho8) | (rw [← e9]; exact ho8)
          obtain ⟨g8, c8, rfl⟩ : ∃ g8 c8, v8 = .slice (some ⟨g8, 0, none⟩) (k + 1) c8 := by
            have hl8 := ssK_len cs (k + 1)
            rcases OwnSc.cases ho8 with ⟨_, e⟩ | ⟨g8, c8, e, _⟩
            · rw [e] at hl8; cases hl8
            · exact ⟨g8, c8, by rw [e, hl8]⟩
          have HO8 : Hid (OwnZ 37 W0.heap.size w8 g8 (k + 1) c8 (ssK cs (k + 1))) := Lib.hid ⟨ssK_len cs (k + 1), by
            have h := OwnSc.mono (B' := W0.heap.size) ho8 (by omega)
            unfold OwnSc at h
            rw [ssK_len] at h
            exact h⟩
          have HB8 : Hid (Below W0.heap.size W0 w8) := Lib.hid (blink HNX.out (blink HBZ.out hC8))
          clear ho8 hg8 hC8 had e8
          go_wp2_with fail
          go_roundw
          case rel => exact ⟨k + 1, g8, c8, by omega, by go_num, rfl, HO8.out, HB8.out⟩
          case measure => simp [intOf]; omega
    · have hk' : k = m := by omega
      have HO' : Hid (OwnSc 37 W0.heap.size wo (.slice (some ⟨g, 0, none⟩) k cap) (ssR st sy ps cs)) := Lib.hid (by rw [HR.out, HM.out, ← hk']; exact hown.own)
      have HBF : Hid (Below w.heap.size w wo) := Lib.hid (blink HB0.out hnx)
      clear hown hnx hk'
      go_wp2_with fail
      go_ret2
      exact ⟨_, ret_pair HC.out.symm, OwnSc.mono HO'.out HB0.out.size, HBF.out⟩
end Go.Proofs.Ytlempmahkeilpaa
/-
  The walk of FnExactSortScans: program and model answer the same at every argument; neither writes into its arguments, and what is answered lies in new memory.
-/
namespace Go.Proofs.Ytlempmahkeilpaa.fnExactSortScans
open Go Go.RowKit
set_option linter.unusedVariables false

set_option maxHeartbeats 16000000 in
set_option maxRecDepth 100000 in
theorem walk (st0 sy0 : Int) (a0 : Option Addr) (len0 cap0 : Nat) (ps0 : List Lan) (a1 : Option Addr) (len1 cap1 : Nat) (ps1 : List (Int × Int)) (w : World) (hh0 : (IsRowLa w a0 len0 cap0 ps0 ∧ FitsLa ps0) ∧ (-128 ≤ st0 ∧ st0 ≤ 127) ∧ (-32768 ≤ sy0 ∧ sy0 ≤ 32767)) (hh1 : IsRowSc w a1 len1 cap1 ps1 ∧ FitsSc ps1) :
    Calls Try.prog 6 #[.agg #[.int .i8 st0, .int .i16 sy0, .slice a0 len0 cap0], .slice a1 len1 cap1] w fun e w' => e = .returned (.bool true) ∧ Below w.heap.size w w' := by
  obtain ⟨⟨hr0, hf0⟩, hst0, hsy0⟩ := hh0
  have HFQ0 := Lib.hid hf0
  have HST0 := Lib.hid hst0
  have HSY0 := Lib.hid hsy0
  have HN0 := Lib.hid hr0.len_ok
  clear hf0 hst0 hsy0
  obtain ⟨hr1, hf1⟩ := hh1
  have HF1 := Lib.hid hf1
  have HN1 := Lib.hid hr1.len_ok
  clear hf1
  by_cases hm0 : 0 ≤ 1048576 - (len0 : Int)
  rotate_left
  · have t0 : decide (1048576 - (len0 : Int) < 0) = true := decide_eq_true (by omega)
    go_enter Try.func6, Try.ntmps6
    go_wp2_with fail
    have b1 : Below w.heap.size w (w.alloc (.cells #[.int .i8 st0, .int .i16 sy0, .slice a0 len0 cap0] 26)) := ((Below.refl _ _).alloc (Nat.le_refl _) _)
    have BX0 : BlkA (w.alloc (.cells #[.int .i8 st0, .int .i16 sy0, .slice a0 len0 cap0] 26)) (w.heap.size) 26 #[.int .i8 st0, .int .i16 sy0, .slice a0 len0 cap0] := (BlkA.new rfl _ _)
    generalize (w.alloc (.cells #[.int .i8 st0, .int .i16 sy0, .slice a0 len0 cap0] 26)) = w1 at b1 BX0 ⊢
    have c1 := b1
    have hs1 : w.heap.size ≤ w1.heap.size := b1.size
    have hb0 : w.heap.size < w1.heap.size := BX0.lt
    have va0_0_1 : w1.cell? ⟨w.heap.size, 0, none⟩ = some (.int .i8 st0) := (BX0).at 0
    have va0_1_1 : w1.cell? ⟨w.heap.size, 1, none⟩ = some (.int .i16 sy0) := (BX0).at 1
    have va0_2_1 : w1.cell? ⟨w.heap.size, 2, none⟩ = some (.slice a0 len0 cap0) := (BX0).at 2
    have la0_1 : w.heap.size < w1.heap.size := (BX0).lt
    go_wp2_with fail
    refine (szNet_big st0 sy0 a0 len0 cap0 1048576 (by omega) (by omega) (by omega) HN0.out _).mono ?_
    rintro e w2 ⟨rfl, b2⟩
    have c2 : Below w.heap.size w w2 := blink c1 b2
    have hs2 : w1.heap.size ≤ w2.heap.size := b2.size
    go_wp2_with fail
    go_ret
    exact ⟨rfl, c2⟩
  have t0 : decide (1048576 - (len0 : Int) < 0) = false := decide_eq_false (by omega)
  by_cases hm1 : 0 ≤ (1048576 - (len0 : Int)) - (len1 : Int)
  rotate_left
  · have t1 : decide ((1048576 - (len0 : Int)) - (len1 : Int) < 0) = true := decide_eq_true (by omega)
    go_enter Try.func6, Try.ntmps6
    go_wp2_with fail
    have b1 : Below w.heap.size w (w.alloc (.cells #[.int .i8 st0, .int .i16 sy0, .slice a0 len0 cap0] 26)) := ((Below.refl _ _).alloc (Nat.le_refl _) _)
    have BX0 : BlkA (w.alloc (.cells #[.int .i8 st0, .int .i16 sy0, .slice a0 len0 cap0] 26)) (w.heap.size) 26 #[.int .i8 st0, .int .i16 sy0, .slice a0 len0 cap0] := (BlkA.new rfl _ _)
    generalize (w.alloc (.cells #[.int .i8 st0, .int .i16 sy0, .slice a0 len0 cap0] 26)) = w1 at b1 BX0 ⊢
    have c1 := b1
    have hs1 : w.heap.size ≤ w1.heap.size := b1.size
    have hb0 : w.heap.size < w1.heap.size := BX0.lt
    have va0_0_1 : w1.cell? ⟨w.heap.size, 0, none⟩ = some (.int .i8 st0) := (BX0).at 0
    have va0_1_1 : w1.cell? ⟨w.heap.size, 1, none⟩ = some (.int .i16 sy0) := (BX0).at 1
    have va0_2_1 : w1.cell? ⟨w.heap.size, 2, none⟩ = some (.slice a0 len0 cap0) := (BX0).at 2
    have la0_1 : w.heap.size < w1.heap.size := (BX0).lt
    go_wp2_with fail
    refine (szNet_fit st0 sy0 a0 len0 cap0 1048576 (by omega) (by omega) _).mono ?_
    rintro e w2 ⟨rfl, b2⟩
    have c2 : Below w.heap.size w w2 := blink c1 b2
    have hs2 : w1.heap.size ≤ w2.heap.size := b2.size
    go_wp2_with fail
    refine (szScanS_big a1 len1 cap1 (1048576 - (len0 : Int)) (by omega) (by omega) (by omega) HN1.out _).mono ?_
    rintro e we ⟨rfl, rfl⟩
    go_wp2_with fail
    go_ret
    exact ⟨rfl, c2⟩
  have t1 : decide ((1048576 - (len0 : Int)) - (len1 : Int) < 0) = false := decide_eq_false (by omega)
  have hlq0 : ps0.length = len0 := hr0.len_eq
  have HX0 : Hid (ps0.length ≤ 1048576) := Lib.hid (by omega)
  have HL0 : Hid (len0 ≤ 1048576) := Lib.hid (by omega)
  have hxb0 : ps0.length ≤ 1048576 := HX0.out
  clear hlq0
  have HF0 : Hid (FitN st0 sy0 ps0) := Lib.hid ⟨HST0.out, HSY0.out, HFQ0.out, HX0.out⟩
  have hlq1 : ps1.length = len1 := hr1.len_eq
  have HX1 : Hid (ps1.length ≤ 1048576) := Lib.hid (by omega)
  have HL1 : Hid (len1 ≤ 1048576) := Lib.hid (by omega)
  have hxb1 : ps1.length ≤ 1048576 := HX1.out
  clear hlq1
  have hlb0 := ssR_len st0 sy0 ps0 ps1
  have HLB0 : Hid ((ssR st0 sy0 ps0 ps1).length ≤ 1048576) := Lib.hid (by omega)
  go_enter Try.func6, Try.ntmps6
  go_wp2_with fail
  have b1 : Below w.heap.size w (w.alloc (.cells #[.int .i8 st0, .int .i16 sy0, .slice a0 len0 cap0] 26)) := ((Below.refl _ _).alloc (Nat.le_refl _) _)
  have BX0 : BlkA (w.alloc (.cells #[.int .i8 st0, .int .i16 sy0, .slice a0 len0 cap0] 26)) (w.heap.size) 26 #[.int .i8 st0, .int .i16 sy0, .slice a0 len0 cap0] := (BlkA.new rfl _ _)
  generalize (w.alloc (.cells #[.int .i8 st0, .int .i16 sy0, .slice a0 len0 cap0] 26)) = w1 at b1 BX0 ⊢
  have c1 := b1
  have hs1 : w.heap.size ≤ w1.heap.size := b1.size
  have hb0 : w.heap.size < w1.heap.size := BX0.lt
  have va0_0_1 : w1.cell? ⟨w.heap.size, 0, none⟩ = some (.int .i8 st0) := (BX0).at 0
  have va0_1_1 : w1.cell? ⟨w.heap.size, 1, none⟩ = some (.int .i16 sy0) := (BX0).at 1
  have va0_2_1 : w1.cell? ⟨w.heap.size, 2, none⟩ = some (.slice a0 len0 cap0) := (BX0).at 2
  have la0_1 : w.heap.size < w1.heap.size := (BX0).lt
  go_wp2_with fail
  refine (szNet_fit st0 sy0 a0 len0 cap0 1048576 (by omega) (by omega) _).mono ?_
  rintro e w2 ⟨rfl, b2⟩
  have c2 : Below w.heap.size w w2 := blink c1 b2
  have hs2 : w1.heap.size ≤ w2.heap.size := b2.size
  go_wp2_with fail
  refine (szScanS_fit a1 len1 cap1 (1048576 - (len0 : Int)) (by omega) (by omega) _).mono ?_
  rintro e we ⟨rfl, rfl⟩
  have va0_0_2 : w2.cell? ⟨w.heap.size, 0, none⟩ = some (.int .i8 st0) := ((BX0).below b2).at 0
  have va0_1_2 : w2.cell? ⟨w.heap.size, 1, none⟩ = some (.int .i16 sy0) := ((BX0).below b2).at 1
  have va0_2_2 : w2.cell? ⟨w.heap.size, 2, none⟩ = some (.slice a0 len0 cap0) := ((BX0).below b2).at 2
  have la0_2 : w.heap.size < w2.heap.size := ((BX0).below b2).lt
  go_wp2_with fail
  refine (toNet_any st0 sy0 a0 len0 cap0 ps0 _ (hr0.below c2) HL0.out).mono ?_
  rintro e w3 ⟨g3, rfl, o3, b3⟩
  have c3 : Below w.heap.size w w3 := blink c2 b3
  have hs3 : w2.heap.size ≤ w3.heap.size := b3.size
  have lo3 : Hid (∀ k, Value.ownBlock (.slice (some ⟨g3, 0, none⟩) len0 len0) = some k → w2.heap.size ≤ k ∧ k < w3.heap.size) := Lib.hid o3.block
  go_wp2_with fail
  refine (toScanS_any a1 len1 cap1 ps1 _ (hr1.below c3) HL1.out).mono ?_
  rintro e w4 ⟨rfl, o4, b4⟩
  have c4 : Below w.heap.size w w4 := blink c3 b4
  have hs4 : w3.heap.size ≤ w4.heap.size := b4.size
  have lo4 : Hid (∀ k, Value.ownBlock (.slice (some ⟨w3.heap.size, 0, none⟩) len1 len1) = some k → w3.heap.size ≤ k ∧ k < w4.heap.size) := Lib.hid o4.block
  go_wp2_with fail
  refine (sss_any _ _ _ _ _ ps0 ps1 _ HF0.out HF1.out ((o3).below b4).reads (o4).reads HX1.out).mono ?_
  rintro e w5 ⟨sv0, rfl, so0, b5⟩
  have c5 : Below w.heap.size w w5 := blink c4 b5
  have hs5 : w4.heap.size ≤ w5.heap.size := b5.size
  have lso0 : Hid (∀ k, Value.ownBlock sv0 = some k → w4.heap.size ≤ k ∧ k < w5.heap.size) := Lib.hid so0.block
  have va0_0_5 : w5.cell? ⟨w.heap.size, 0, none⟩ = some (.int .i8 st0) := (((((BX0).below b2).below b3).below b4).below b5).at 0
  have va0_1_5 : w5.cell? ⟨w.heap.size, 1, none⟩ = some (.int .i16 sy0) := (((((BX0).below b2).below b3).below b4).below b5).at 1
  have va0_2_5 : w5.cell? ⟨w.heap.size, 2, none⟩ = some (.slice a0 len0 cap0) := (((((BX0).below b2).below b3).below b4).below b5).at 2
  have la0_5 : w.heap.size < w5.heap.size := (((((BX0).below b2).below b3).below b4).below b5).lt
  go_wp2_with fail
  refine (toNet_any st0 sy0 a0 len0 cap0 ps0 _ (hr0.below c5) HL0.out).mono ?_
  rintro e w6 ⟨g6, rfl, o6, b6⟩
  have c6 : Below w.heap.size w w6 := blink c5 b6
  have hs6 : w5.heap.size ≤ w6.heap.size := b6.size
  have lo6 : Hid (∀ k, Value.ownBlock (.slice (some ⟨g6, 0, none⟩) len0 len0) = some k → w5.heap.size ≤ k ∧ k < w6.heap.size) := Lib.hid o6.block
  have va0_0_6 : w6.cell? ⟨w.heap.size, 0, none⟩ = some (.int .i8 st0) := ((((((BX0).below b2).below b3).below b4).below b5).below b6).at 0
  have va0_1_6 : w6.cell? ⟨w.heap.size, 1, none⟩ = some (.int .i16 sy0) := ((((((BX0).below b2).below b3).below b4).below b5).below b6).at 1
  have va0_2_6 : w6.cell? ⟨w.heap.size, 2, none⟩ = some (.slice a0 len0 cap0) := ((((((BX0).below b2).below b3).below b4).below b5).below b6).at 2
  have la0_6 : w.heap.size < w6.heap.size := ((((((BX0).below b2).below b3).below b4).below b5).below b6).lt
  go_wp2_with fail
  have b7 : Below w6.heap.size w6 (w6.alloc (.cells #[.int .i8 st0, .int .i16 sy0, .slice (some ⟨g6, 0, none⟩) len0 len0] 35)) := (Below.refl _ _).alloc (Nat.le_refl _) _
  have BY0 : BlkA (w6.alloc (.cells #[.int .i8 st0, .int .i16 sy0, .slice (some ⟨g6, 0, none⟩) len0 len0] 35)) w6.heap.size 35 #[.int .i8 st0, .int .i16 sy0, .slice (some ⟨g6, 0, none⟩) len0 len0] := BlkA.new rfl _ _
  generalize (w6.alloc (.cells #[.int .i8 st0, .int .i16 sy0, .slice (some ⟨g6, 0, none⟩) len0 len0] 35)) = w7 at b7 BY0 ⊢
  have c7 : Below w.heap.size w w7 := blink c6 b7
  have hs7 : w6.heap.size ≤ w7.heap.size := b7.size
  have hx0 : w6.heap.size < w7.heap.size := BY0.lt
  go_wp2_with fail
  refine (toScanS_any a1 len1 cap1 ps1 _ (hr1.below c7) HL1.out).mono ?_
  rintro e w8 ⟨rfl, o8, b8⟩
  have c8 : Below w.heap.size w w8 := blink c7 b8
  have hs8 : w7.heap.size ≤ w8.heap.size := b8.size
  have lo8 : Hid (∀ k, Value.ownBlock (.slice (some ⟨w7.heap.size, 0, none⟩) len1 len1) = some k → w7.heap.size ≤ k ∧ k < w8.heap.size) := Lib.hid o8.block
  have vx0_0_8 : w8.cell? ⟨w6.heap.size, 0, none⟩ = some (.int .i8 st0) := ((BY0).below b8).at 0
  have vx0_1_8 : w8.cell? ⟨w6.heap.size, 1, none⟩ = some (.int .i16 sy0) := ((BY0).below b8).at 1
  have vx0_2_8 : w8.cell? ⟨w6.heap.size, 2, none⟩ = some (.slice (some ⟨g6, 0, none⟩) len0 len0) := ((BY0).below b8).at 2
  have lx0_8 : w6.heap.size < w8.heap.size := ((BY0).below b8).lt
  go_wp2_with fail
  refine (iss_any _ _ _ _ _ ps0 ps1 _ HF0.out HF1.out (((o6).below b7).below b8).reads (o8).reads HX1.out).mono ?_
  rintro e w9 ⟨gv0, rfl, go0, b9⟩
  have c9 : Below w.heap.size w w9 := blink c8 b9
  have hs9 : w8.heap.size ≤ w9.heap.size := b9.size
  have lgo0 : Hid (∀ k, Value.ownBlock gv0 = some k → w8.heap.size ≤ k ∧ k < w9.heap.size) := Lib.hid go0.block
  go_wp2_with fail
  refine (eqScanS_eq _ _ (ssR st0 sy0 ps0 ps1) _ (go0).reads (((((so0).below b6).below b7).below b8).below b9).reads (HLB0.out)).mono ?_
  rintro e w10 ⟨rfl, b10⟩
  have c10 : Below w.heap.size w w10 := blink c9 b10
  have hs10 : w9.heap.size ≤ w10.heap.size := b10.size
  have CD10 : Below w.heap.size w w10.drew := Below.drew c10
  have BD10 : Below w10.heap.size w10 w10.drew := (Below.refl _ _).drew
  have SD10 : w10.drew.cell? ⟨w.heap.size, 0, none⟩ = some (.int .i8 st0) ∧ w10.drew.cell? ⟨w.heap.size, 1, none⟩ = some (.int .i16 sy0) ∧ w10.drew.cell? ⟨w.heap.size, 2, none⟩ = some (.slice a0 len0 cap0) ∧ w10.drew.cell? ⟨w6.heap.size, 0, none⟩ = some (.int .i8 st0) ∧ w10.drew.cell? ⟨w6.heap.size, 1, none⟩ = some (.int .i16 sy0) ∧ w10.drew.cell? ⟨w6.heap.size, 2, none⟩ = some (.slice (some ⟨g6, 0, none⟩) len0 len0) := ⟨cbl BD10 (((((((((((BX0).below b2).below b3).below b4).below b5).below b6).below b7).below b8).below b9).below b10).at 0), cbl BD10 (((((((((((BX0).below b2).below b3).below b4).below b5).below b6).below b7).below b8).below b9).below b10).at 1), cbl BD10 (((((((((((BX0).below b2).below b3).below b4).below b5).below b6).below b7).below b8).below b9).below b10).at 2), cbl BD10 (((((BY0).below b8).below b9).below b10).at 0), cbl BD10 (((((BY0).below b8).below b9).below b10).at 1), cbl BD10 (((((BY0).below b8).below b9).below b10).at 2)⟩
  go_wp2_with fail
  go_region_held3 (fun v => v.cell? ⟨w.heap.size, 0, none⟩ = some (.int .i8 st0) ∧ v.cell? ⟨w.heap.size, 1, none⟩ = some (.int .i16 sy0) ∧ v.cell? ⟨w.heap.size, 2, none⟩ = some (.slice a0 len0 cap0) ∧ v.cell? ⟨w6.heap.size, 0, none⟩ = some (.int .i8 st0) ∧ v.cell? ⟨w6.heap.size, 1, none⟩ = some (.int .i16 sy0) ∧ v.cell? ⟨w6.heap.size, 2, none⟩ = some (.slice (some ⟨g6, 0, none⟩) len0 len0)) (first | exact zS12 | exact zS11 | exact SD10) (first | (go_at_call 10; (with_reducible refine (toNet_any st0 sy0 a0 len0 cap0 ps0 _ (hr0.below CD10) HL0.out).mono ?_); rintro e w11 ⟨g11, rfl, o11, d11⟩; have b11 : Below w10.heap.size w10 w11 := BD10.trans (d11.mono (Nat.le_refl _)); have zS11 : w11.cell? ⟨w.heap.size, 0, none⟩ = some (.int .i8 st0) ∧ w11.cell? ⟨w.heap.size, 1, none⟩ = some (.int .i16 sy0) ∧ w11.cell? ⟨w.heap.size, 2, none⟩ = some (.slice a0 len0 cap0) ∧ w11.cell? ⟨w6.heap.size, 0, none⟩ = some (.int .i8 st0) ∧ w11.cell? ⟨w6.heap.size, 1, none⟩ = some (.int .i16 sy0) ∧ w11.cell? ⟨w6.heap.size, 2, none⟩ = some (.slice (some ⟨g6, 0, none⟩) len0 len0) := ⟨cbl d11 SD10.1, cbl d11 SD10.2.1, cbl d11 SD10.2.2.1, cbl d11 SD10.2.2.2.1, cbl d11 SD10.2.2.2.2.1, cbl d11 SD10.2.2.2.2.2⟩) | (go_at_call 14; (with_reducible refine (eqNet_eq st0 sy0 _ _ ps0 _ (((((((o6).below b7).below b8).below b9).below b10).below BD10).below d11).reads o11.reads HX0.out).mono ?_); rintro e w12 ⟨rfl, b12⟩; have zS12 : w12.cell? ⟨w.heap.size, 0, none⟩ = some (.int .i8 st0) ∧ w12.cell? ⟨w.heap.size, 1, none⟩ = some (.int .i16 sy0) ∧ w12.cell? ⟨w.heap.size, 2, none⟩ = some (.slice a0 len0 cap0) ∧ w12.cell? ⟨w6.heap.size, 0, none⟩ = some (.int .i8 st0) ∧ w12.cell? ⟨w6.heap.size, 1, none⟩ = some (.int .i16 sy0) ∧ w12.cell? ⟨w6.heap.size, 2, none⟩ = some (.slice (some ⟨g6, 0, none⟩) len0 len0) := ⟨cbl b12 zS11.1, cbl b12 zS11.2.1, cbl b12 zS11.2.2.1, cbl b12 zS11.2.2.2.1, cbl b12 zS11.2.2.2.2.1, cbl b12 zS11.2.2.2.2.2⟩))
  have c11 : Below w.heap.size w w11 := blink c10 b11
  have hs11 : w10.heap.size ≤ w11.heap.size := b11.size
  have c12 : Below w.heap.size w w12 := blink c11 b12
  have hs12 : w11.heap.size ≤ w12.heap.size := b12.size
  clear zS11 zS12 SD10 CD10 BD10
  go_wp2_with fail
  refine (toScanS_any a1 len1 cap1 ps1 _ (hr1.below c12) HL1.out).mono ?_
  rintro e w13 ⟨rfl, o13, b13⟩
  have c13 : Below w.heap.size w w13 := blink c12 b13
  have hs13 : w12.heap.size ≤ w13.heap.size := b13.size
  have lo13 : Hid (∀ k, Value.ownBlock (.slice (some ⟨w12.heap.size, 0, none⟩) len1 len1) = some k → w12.heap.size ≤ k ∧ k < w13.heap.size) := Lib.hid o13.block
  go_wp2_with fail
  refine (eqScanS_eq _ _ ps1 _ ((((((o8).below b9).below b10).below b11).below b12).below b13).reads (o13).reads (HX1.out)).mono ?_
  rintro e w14 ⟨rfl, b14⟩
  have c14 : Below w.heap.size w w14 := blink c13 b14
  have hs14 : w13.heap.size ≤ w14.heap.size := b14.size
  have vx0_0_14 : w14.cell? ⟨w6.heap.size, 0, none⟩ = some (.int .i8 st0) := ((((((((BY0).below b8).below b9).below b10).below b11).below b12).below b13).below b14).at 0
  have vx0_1_14 : w14.cell? ⟨w6.heap.size, 1, none⟩ = some (.int .i16 sy0) := ((((((((BY0).below b8).below b9).below b10).below b11).below b12).below b13).below b14).at 1
  have vx0_2_14 : w14.cell? ⟨w6.heap.size, 2, none⟩ = some (.slice (some ⟨g6, 0, none⟩) len0 len0) := ((((((((BY0).below b8).below b9).below b10).below b11).below b12).below b13).below b14).at 2
  have lx0_14 : w6.heap.size < w14.heap.size := ((((((((BY0).below b8).below b9).below b10).below b11).below b12).below b13).below b14).lt
  go_wp2_with fail
  refine (markNet_any _ _ st0 sy0 _ ps0 _ _ (((((((((o6).below b7).below b8).below b9).below b10).below b11).below b12).below b13).below b14) (by omega) (by omega) HX0.out).mono ?_
  rintro e w15 ⟨rfl, mk1, G15⟩
  have K15 : KeepsOut w5.heap.size w6.heap.size w14 w15 := G15 _ _ (fun k hk => by have := lo6.out k hk; omega)
  have c15 : Below w.heap.size w w15 := kout_below c14 K15 (by omega) (by omega)
  have hs15 : w14.heap.size ≤ w15.heap.size := K15.size
  go_wp2_with fail
  refine (markSc_any _ _ _ ps1 _ _ ((((((((o8).below b9).below b10).below b11).below b12).below b13).below b14).out K15 (fun k hk => by have := lo8.out k hk; omega)) (by omega) (by omega) (HX1.out)).mono ?_
  rintro e w16 ⟨rfl, mk2, g16⟩
  have K16 : KeepsOut w7.heap.size w8.heap.size w15 w16 := keepsOut_grown g16 (fun k hk => by have := lo8.out k hk; omega)
  have c16 : Below w.heap.size w w16 := kout_below c15 K16 (by omega) (by omega)
  have hs16 : w15.heap.size ≤ w16.heap.size := K16.size
  have lmk2 : Hid (∀ k, Value.ownBlock (.slice (some ⟨w7.heap.size, 0, none⟩) len1 len1) = some k → w7.heap.size ≤ k ∧ k < w8.heap.size) := lo8
  go_wp2_with fail
  refine (eqScanS_eq _ _ (ssR st0 sy0 ps0 ps1) _ ((((((((go0).below b10).below b11).below b12).below b13).below b14).out K15 (fun k hk => by have := lgo0.out k hk; omega)).out K16 (fun k hk => by have := lgo0.out k hk; omega)).reads ((((((((((((so0).below b6).below b7).below b8).below b9).below b10).below b11).below b12).below b13).below b14).out K15 (fun k hk => by have := lso0.out k hk; omega)).out K16 (fun k hk => by have := lso0.out k hk; omega)).reads (HLB0.out)).mono ?_
  rintro e w17 ⟨rfl, b17⟩
  have c17 : Below w.heap.size w w17 := blink c16 b17
  have hs17 : w16.heap.size ≤ w17.heap.size := b17.size
  go_wp2_with fail
  refine (markSc_any _ _ _ (ssR st0 sy0 ps0 ps1) _ _ (((((((((go0).below b10).below b11).below b12).below b13).below b14).out K15 (fun k hk => by have := lgo0.out k hk; omega)).out K16 (fun k hk => by have := lgo0.out k hk; omega)).below b17) (by omega) (by omega) (HLB0.out)).mono ?_
  rintro e w18 ⟨rfl, mk3, g18⟩
  have K18 : KeepsOut w8.heap.size w9.heap.size w17 w18 := keepsOut_grown g18 (fun k hk => by have := lgo0.out k hk; omega)
  have c18 : Below w.heap.size w w18 := kout_below c17 K18 (by omega) (by omega)
  have hs18 : w17.heap.size ≤ w18.heap.size := K18.size
  have lmk3 : Hid (∀ k, Value.ownBlock gv0 = some k → w8.heap.size ≤ k ∧ k < w9.heap.size) := lgo0
  go_wp2_with fail
  refine (heldSc_any _ _ _ _ (mk3).reads (by omega) (by omega) (HLB0.out)).mono ?_
  rintro e w19 ⟨rfl, b19⟩
  have c19 : Below w.heap.size w w19 := blink c18 b19
  have hs19 : w18.heap.size ≤ w19.heap.size := b19.size
  have va0_0_19 : w19.cell? ⟨w.heap.size, 0, none⟩ = some (.int .i8 st0) := (((((((((((((((((((BX0).below b2).below b3).below b4).below b5).below b6).below b7).below b8).below b9).below b10).below b11).below b12).below b13).below b14).out K15 (by omega)).out K16 (by omega)).below b17).out K18 (by omega)).below b19).at 0
  have va0_1_19 : w19.cell? ⟨w.heap.size, 1, none⟩ = some (.int .i16 sy0) := (((((((((((((((((((BX0).below b2).below b3).below b4).below b5).below b6).below b7).below b8).below b9).below b10).below b11).below b12).below b13).below b14).out K15 (by omega)).out K16 (by omega)).below b17).out K18 (by omega)).below b19).at 1
  have va0_2_19 : w19.cell? ⟨w.heap.size, 2, none⟩ = some (.slice a0 len0 cap0) := (((((((((((((((((((BX0).below b2).below b3).below b4).below b5).below b6).below b7).below b8).below b9).below b10).below b11).below b12).below b13).below b14).out K15 (by omega)).out K16 (by omega)).below b17).out K18 (by omega)).below b19).at 2
  have la0_19 : w.heap.size < w19.heap.size := (((((((((((((((((((BX0).below b2).below b3).below b4).below b5).below b6).below b7).below b8).below b9).below b10).below b11).below b12).below b13).below b14).out K15 (by omega)).out K16 (by omega)).below b17).out K18 (by omega)).below b19).lt
  go_wp2_with fail
  refine (toNet_any st0 sy0 a0 len0 cap0 ps0 _ (hr0.below c19) HL0.out).mono ?_
  rintro e w20 ⟨g20, rfl, o20, b20⟩
  have c20 : Below w.heap.size w w20 := blink c19 b20
  have hs20 : w19.heap.size ≤ w20.heap.size := b20.size
  have lo20 : Hid (∀ k, Value.ownBlock (.slice (some ⟨g20, 0, none⟩) len0 len0) = some k → w19.heap.size ≤ k ∧ k < w20.heap.size) := Lib.hid o20.block
  go_wp2_with fail
  refine (toScanS_any a1 len1 cap1 ps1 _ (hr1.below c20) HL1.out).mono ?_
  rintro e w21 ⟨rfl, o21, b21⟩
  have c21 : Below w.heap.size w w21 := blink c20 b21
  have hs21 : w20.heap.size ≤ w21.heap.size := b21.size
  have lo21 : Hid (∀ k, Value.ownBlock (.slice (some ⟨w20.heap.size, 0, none⟩) len1 len1) = some k → w20.heap.size ≤ k ∧ k < w21.heap.size) := Lib.hid o21.block
  go_wp2_with fail
  refine (iss_any _ _ _ _ _ ps0 ps1 _ HF0.out HF1.out ((o20).below b21).reads (o21).reads HX1.out).mono ?_
  rintro e w22 ⟨hv0, rfl, ho0, b22⟩
  have c22 : Below w.heap.size w w22 := blink c21 b22
  have hs22 : w21.heap.size ≤ w22.heap.size := b22.size
  have lho0 : Hid (∀ k, Value.ownBlock hv0 = some k → w21.heap.size ≤ k ∧ k < w22.heap.size) := Lib.hid ho0.block
  go_wp2_with fail
  refine (eqScanS_eq _ _ (ssR st0 sy0 ps0 ps1) _ (ho0).reads ((((((((((((((((((so0).below b6).below b7).below b8).below b9).below b10).below b11).below b12).below b13).below b14).out K15 (fun k hk => by have := lso0.out k hk; omega)).out K16 (fun k hk => by have := lso0.out k hk; omega)).below b17).out K18 (fun k hk => by have := lso0.out k hk; omega)).below b19).below b20).below b21).below b22).reads (HLB0.out)).mono ?_
  rintro e w23 ⟨rfl, b23⟩
  have c23 : Below w.heap.size w w23 := blink c22 b23
  have hs23 : w22.heap.size ≤ w23.heap.size := b23.size
  go_wp2_with fail
  refine (heldSc_any _ _ _ _ ((((((mk3).below b19).below b20).below b21).below b22).below b23).reads (by omega) (by omega) (HLB0.out)).mono ?_
  rintro e w24 ⟨rfl, b24⟩
  have c24 : Below w.heap.size w w24 := blink c23 b24
  have hs24 : w23.heap.size ≤ w24.heap.size := b24.size
  go_wp2_with fail
  go_ret
  exact ⟨rfl, c24⟩
end Go.Proofs.Ytlempmahkeilpaa.fnExactSortScans
namespace Go.Proofs.Ytlempmahkeilpaa.fnExactSortScans
open Go.ChangeShapes Go.WideShapes Go.ChangeAt Go.RowKit
open Go.ChangeMaps (open_string shut_string)
set_option linter.unusedVariables false

theorem own : ownKnob Try.prog.godebug = none := by kernel_rfl
theorem laidOut : laidOutB Try.prog = true := by kernel_rfl

set_option maxHeartbeats 1000000 in
set_option maxRecDepth 100000 in
theorem lifted (os : Os) (started : os.Started) (H : Type) (enc : TypeId × Value → H) :
    ReturnsInHanded {} Try.checked os 6 .any (Rows.fnExactSortScansSpec.pre6 enc Try.prog Try.f6 Rows.fnExactSortScansRow.domain false) (Rows.fnExactSortScansSpec.post enc Try.prog Try.f6 false true false false) := by
  refine returnsInHanded_of_change (C := Try.checked) own started (by kernel_rfl) Try.func6
    (ChangeSpec.witness6 (enc := enc) (C := Try.checked) false ⟨#[], #[.agg #[.int .i8 0, .int .i16 0, .slice none 0 0], .slice none 0 0], []⟩ 8 (by kernel_rfl) (by kernel_rfl) (by kernel_rfl) (by kernel_rfl)) ?_
  intro W base args ds gs before hval0 hW hcnd _
  have hval : ∀ (j : Nat) t v, Try.f6.params[j]? = some t → args[j]? = some v → Value.okWide Try.prog W .any base t v := hval0
  have hW' := hW
  obtain ⟨p, q, hA0, hV, rfl, hfz, hnd⟩ := hW
  have hA : DataW.TrodAll enc Try.prog W 0 (fun _ => true) true Try.f6.params.toList args.toList ds p := hA0
  rw [Try.params6] at hA hval
  obtain ⟨v0, vs0, d0, ds0, p0, q0, hargs, rfl, rfl, h0, r0⟩ := trodAll_cons hA
  obtain ⟨v1, vs1, d1, ds1, p1, q1, rfl, rfl, rfl, h1, r1⟩ := trodAll_cons r0
  obtain ⟨rfl, rfl, rfl⟩ := trodAll_nil r1
  obtain rfl : args = #[v0, v1] := by cases args; simp_all
  obtain ⟨rfl, rfl⟩ := trodVars_none hV
  have k0 := h0
  have lt0 : ∀ x ∈ p0, x.block < W.heap.size := by obtain ⟨m, hm⟩ := k0; exact DataW.trod_lt m _ _ _ hm
  obtain ⟨u00, u01, u02, y00, y01, y02, n0, rfl, rfl, rfl, t00, t01, t02⟩ := Go.Joins.open_agg3 Try.underlying26 (by kernel_rfl) (by kernel_rfl) (hval 0 26 v0 rfl rfl) h0
  obtain ⟨x00, e00, _, wf00⟩ := DataW.trod_int Try.underlying22 t00
  simp only [List.cons.injEq, and_true] at e00
  subst e00
  obtain ⟨x01, e01, _, wf01⟩ := DataW.trod_int Try.underlying23 t01
  simp only [List.cons.injEq, and_true] at e01
  subst e01
  obtain ⟨a0, len0, cap0, z0, rfl, w0⟩ := openNetLanes t02
  have wn0 : (-128 ≤ x00 ∧ x00 ≤ 127) ∧ (-32768 ≤ x01 ∧ x01 ≤ 32767) := by
    simp [Lit.wf, IntKind.min, IntKind.max, IntKind.signed, IntKind.bits] at wf00 wf01
    omega
  obtain ⟨a1, len1, cap1, rfl⟩ := okWide_slice Try.underlying47 (hval 1 47 v1 rfl rfl)
  have k1 := h1
  have lt1 : ∀ x ∈ p1, x.block < W.heap.size := by obtain ⟨m, hm⟩ := k1; exact DataW.trod_lt m _ _ _ hm
  obtain ⟨fuel1, hf1⟩ := h1
  obtain ⟨z1, w1⟩ := openScan hf1
  clear hA0 hval0
  refine (walk (w := W) x00 x01 a0 len0 cap0 z0 a1 len1 cap1 z1 ⟨w0, wn0⟩ w1).mono fun e W' ⟨he, bel⟩ => ?_
  subst he
  exact ⟨_, rfl, _, _, _, [], _, [], hW', trodAll_mk1 (shut_bool Try.underlying4 _), (trodAll_cons_mk (Below.trod laidOut (by kernel_rfl) (of_decide_eq_true (by kernel_rfl)) k0 bel lt0) (trodAll_cons_mk (Below.trod laidOut (by kernel_rfl) (of_decide_eq_true (by kernel_rfl)) k1 bel lt1) trodAll_mk0)), rfl, bel.frame _, fun h => by cases h⟩

theorem over : Rows.fnExactSortScansRow.holds Try.pinned (OpenSpec.ofChange Rows.fnExactSortScansSpec) :=
  OpenClaim.holds_of_wide 6 Try.f6 rfl rfl rfl rfl rfl rfl rfl ⟨rfl, rfl, rfl, rfl, rfl⟩ rfl rfl rfl rfl rfl (by kernel_rfl) Try.func6 (by kernel_rfl)
    (of_decide_eq_true (by kernel_rfl)) (by unfold Func.isWrapper; first | (rw [if_pos (by decide +kernel)]; kernel_rfl) | (rw [if_neg (by decide +kernel)]; exact ⟨rfl, rfl⟩))
    (fun os started H enc _ => lifted os started H enc)

theorem proved : Rows.FnExactSortScansSaid := over
#print axioms proved
end Go.Proofs.Ytlempmahkeilpaa.fnExactSortScans
