/-
  The contract of slices.Clone at []int64, at a row that lies in memory.
-/
import Derived.Test.YtmhjckbndhcbmaaToI
import Derived.Lib.SliceRun
namespace Go.Proofs.Ytmhjckbndhcbmaa
open Go Go.RowKit
set_option linter.unusedVariables false

/-- A result that is one slice, the call's own. -/
def RetSlice (B : Nat) (w : World) (xs : List Int) (e : Ending) (w' : World) : Prop := ∃ v, e = .returned v ∧ OwnI B w' v xs ∧ Below w.heap.size w w'

set_option maxHeartbeats 2000000 in
set_option maxRecDepth 100000 in
theorem clone_row (b len cap : Nat) (xs : List Int) (hl : xs.length = len) (hm : len ≤ 1048576) (w : World) (hc : Cells w b xs) :
    Calls Try.prog 35 #[.slice (some ⟨b, 0, none⟩) len cap] w (RetSlice w.heap.size w xs) := by
  subst hl
  obtain ⟨i0, hi, hz0, hz1, hz2⟩ := info_parts info_i64
  have hq := fun (wx : World) => Lib.run_eql_slice_nil (P := Try.prog) wx 22 2 (some ⟨b, 0, none⟩) xs.length cap 0 0 Try.underlying22
  have hown : (w.alloc (.cells #[] 2)).ownsRow w.heap.size 2 1 (.slice (some ⟨w.heap.size, 0, none⟩) 0 0) 0 [] := World.ownsRow_made w #[] 0 (Nat.le_refl _) (Nat.zero_le _) rfl
  have hb0 : Below w.heap.size w (w.alloc (.cells #[] 2)) := (Below.refl _ _).alloc (Nat.le_refl _) _
  have hnews : ∀ j u, (xs.map (Value.int .i64))[j]? = some u → (w.alloc (.cells #[] 2)).cell? ((⟨b, 0, none⟩ : Addr).add j) = some u := by
    intro j u hj
    have hjl : j < xs.length := by
      have := (List.getElem?_eq_some_iff.1 hj).1
      simpa using this
    rw [addr_add, Nat.zero_add]
    rw [(hc.below hb0) j hjl]
    simp [hjl] at hj
    simp [List.getD, hjl, hj]
  have HB := Lib.hid hb0
  have HN := Lib.hid hnews
  have HO := Lib.hid hown
  clear hb0 hnews hown hc
  go_enter Try.func35, Try.ntmps35
  go_wp2_with (at_builtin; refine wpList_append_own _ rfl _ _ 22 rfl w.heap.size 2 i0 (.int .i64 0) 1 8 Try.underlying22 hi hz0 hz1 hz2 rfl (by decide) _ _ _ rfl HO.out ⟨b, 0, none⟩ xs.length cap (xs.map (Value.int .i64)) rfl (by simp) HN.out (ints_oneCell .i64 xs) (by unfold maxLen; omega) (by omega) (by simp) ?_)
  intro v' w3 hown' hgrow _
  have HO' : Hid (OwnI w.heap.size w3 v' xs) := Lib.hid (by simpa [OwnI] using hown')
  have HB' : Hid (Below w.heap.size w w3) := Lib.hid (HB.out.grown hgrow (by simp) (fun j hj => by simp [Value.ownBlock] at hj; omega))
  clear hown' hgrow
  go_wp2
  go_ret
  exact ⟨_, rfl, HO'.out, HB'.out⟩
end Go.Proofs.Ytmhjckbndhcbmaa
