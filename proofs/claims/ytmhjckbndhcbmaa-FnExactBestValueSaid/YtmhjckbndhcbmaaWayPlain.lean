/-
  Plain lists: the table of ways, as both sides fill it, wraps and all.
-/
import Derived.Test.YtmhjckbndhcbmaaAsk
namespace Go.Proofs.Ytmhjckbndhcbmaa
open Go Go.RowKit
set_option linter.unusedVariables false

/-- The table when k amounts, from v on, have been raised for the value v. -/
def wayK (v : Nat) (ws : List Int) : Nat → List Int
  | 0 => ws
  | k + 1 => (wayK v ws k).set (v + k) (wrap64 ((wayK v ws k).getD (v + k) 0 + (wayK v ws k).getD k 0))
theorem wayK_length (v : Nat) (ws : List Int) (k : Nat) : (wayK v ws k).length = ws.length := by
  induction k with
  | zero => rfl
  | succ k ih => simp [wayK, ih]
/-- .. for all amounts up to most. -/
def wayV (most : Nat) (ws : List Int) (v : Int) : List Int := wayK v.toNat ws (most + 1 - v.toNat)
theorem wayV_length (most : Nat) (ws : List Int) (v : Int) : (wayV most ws v).length = ws.length := wayK_length _ _ _
def wayStart (most : Nat) : List Int := (List.replicate (most + 1) (0 : Int)).set 0 1
/-- .. for all values, one after the other. -/
def wayAll (most : Nat) (xs : List Int) : List Int := xs.foldl (wayV most) (wayStart most)
theorem wayAll_length (most : Nat) (xs : List Int) : (wayAll most xs).length = most + 1 := by
  unfold wayAll
  have h : ∀ (l : List Int) (ws : List Int), (l.foldl (wayV most) ws).length = ws.length := by
    intro l
    induction l with
    | nil => intro ws; rfl
    | cons a l ih => intro ws; rw [List.foldl_cons, ih, wayV_length]
  rw [h]
  simp [wayStart]
theorem wayAll_take (most : Nat) (xs : List Int) (k : Nat) (h : k < xs.length) : wayAll most (xs.take (k + 1)) = wayV most (wayAll most (xs.take k)) (xs.getD k 0) := by
  unfold wayAll
  rw [List.take_succ_eq_append_getElem h, List.foldl_append]
  simp [List.getD, h]

theorem wayV_of (most : Nat) (ws : List Int) (v a : Nat) (hv : v ≤ a) (h : a = v ∨ a ≤ most + 1) (hx : ¬ (a ≤ most)) : wayK v ws (a - v) = wayV most ws (v : Int) := by
  unfold wayV
  have e : a - v = most + 1 - ((v : Int)).toNat := by omega
  rw [e]; simp
theorem wayK_succ (v : Nat) (ws : List Int) (a : Nat) (hv : v ≤ a) : (wayK v ws (a - v)).set a (wrap64 ((wayK v ws (a - v)).getD a 0 + (wayK v ws (a - v)).getD (a - v) 0)) = wayK v ws (a + 1 - v) := by
  have e : a + 1 - v = (a - v) + 1 := by omega
  have e2 : v + (a - v) = a := by omega
  rw [e, wayK, e2]
theorem rise_bounds {xs : List Int} {k : Nat} (h : Rise xs xs.length) (hk : k < xs.length) : 1 ≤ xs.getD k 0 ∧ xs.getD k 0 ≤ 500 := by
  have h0 := h k hk
  have h1 := Rise.prev_nonneg (fun i hi => h i (by omega) : Rise xs k)
  omega

/-- How many counts pay n, or 0 where the code is not OK. -/
def waysRes (xs : List Int) (n : Int) : Int := if codeOf xs (inB n 0 1000) = 0 then (wayAll n.toNat xs).getD n.toNat 0 else 0
theorem waysRes_ok {xs : List Int} {n : Int} (h : codeOf xs (inB n 0 1000) = 0) : waysRes xs n = (wayAll n.toNat xs).getD n.toNat 0 := if_pos h
theorem waysRes_not {xs : List Int} {n : Int} (h : codeOf xs (inB n 0 1000) ≠ 0) : waysRes xs n = 0 := if_neg h
theorem code_facts {xs : List Int} {n : Int} (h : codeOf xs (inB n 0 1000) = 0) : 1 ≤ xs.length ∧ xs.length ≤ 8 ∧ Rise xs xs.length ∧ 0 ≤ n ∧ n ≤ 1000 := by
  obtain ⟨h1, h2⟩ := codeOf_zero h
  have h3 := vldB_spec h1
  have h4 : 0 ≤ n ∧ n ≤ 1000 := of_decide_eq_true h2
  exact ⟨h3.1, h3.2.1, h3.2.2, h4.1, h4.2⟩
theorem ret_two {k l : IntKind} {a b c d : Int} (h : a = b) (g : c = d) : Ending.returned (.tuple #[.int k a, .int l c]) = .returned (.tuple #[.int k b, .int l d]) := by rw [h, g]
theorem reads_row {w : World} {v : Value} {xs : List Int} (h : ReadsI w v xs) (h0 : 1 ≤ xs.length) : ∃ b cap, v = .slice (some ⟨b, 0, none⟩) xs.length cap ∧ Cells w b xs := by
  obtain ⟨a, cap, rfl, h⟩ := h
  obtain ⟨b, rfl, hc⟩ := h (fun e => by rw [e] at h0; simp at h0)
  exact ⟨b, cap, rfl, hc⟩
end Go.Proofs.Ytmhjckbndhcbmaa
