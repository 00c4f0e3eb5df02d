/-
  The first step that is heavy enough: on both sides; both StepFor.
-/
import Derived.Test.YtnjhkmoinlikiaaDoorChk
namespace Go.Proofs.YtnjhkmoinlikiaaDoor
open Go Go.RowKit
set_option linter.unusedVariables false

/-- The index of the first step of at least n; as many as there are if there is none. -/
def stp : List Int → Int → Nat
  | [], _ => 0
  | s :: r, n => if n ≤ s then 0 else stp r n + 1
theorem stp_le (S : List Int) (n : Int) : stp S n ≤ S.length := by
  induction S with
  | nil => simp [stp]
  | cons s r ih => simp only [stp]; split <;> simp <;> omega
theorem stp_before (S : List Int) (n : Int) (i : Nat) (h : i < stp S n) : S.getD i 0 < n := by
  induction S generalizing i with
  | nil => simp [stp] at h
  | cons s r ih =>
    simp only [stp] at h
    split at h
    · omega
    · cases i with
      | zero => simp [List.getD]; omega
      | succ i => have := ih i (by omega); simpa [List.getD] using this
theorem stp_at (S : List Int) (n : Int) (h : stp S n < S.length) : n ≤ S.getD (stp S n) 0 := by
  induction S with
  | nil => simp at h
  | cons s r ih =>
    simp only [stp] at h ⊢
    split
    · rename_i h1; simpa [List.getD] using h1
    · rename_i h1
      rw [if_neg h1] at h
      have := ih (by simp at h; omega)
      simpa [List.getD] using this
/-- The first k steps are too light. -/
def lightTo (S : List Int) (n : Int) (k : Nat) : Prop := ∀ i, i < k → S.getD i 0 < n
theorem lightTo.zero (S : List Int) (n : Int) : lightTo S n 0 := fun i hi => absurd hi (by omega)
theorem lightTo.succ {S : List Int} {n : Int} {k : Nat} (h : lightTo S n k) (h1 : S.getD k 0 < n) : lightTo S n (k + 1) := fun i hi => by
  by_cases e : i = k
  · subst e; exact h1
  · exact h i (by omega)
theorem stp_eq {S : List Int} {n : Int} {k : Nat} (hk : k < S.length) (h : lightTo S n k) (h1 : n ≤ S.getD k 0) : stp S n = k := by
  have a : ¬ stp S n < k := fun hlt => by
    have h2 := stp_at S n (by omega)
    have h3 := h _ hlt
    omega
  have b : ¬ k < stp S n := fun hlt => by
    have h2 := stp_before S n k hlt
    omega
  omega
theorem stp_none {S : List Int} {n : Int} (h : lightTo S n S.length) : stp S n = S.length := by
  have a : ¬ stp S n < S.length := fun hlt => by
    have h2 := stp_at S n hlt
    have h3 := h _ hlt
    omega
  have := stp_le S n
  omega
/-- The same as a number, -1 if there is none. -/
def stpI (S : List Int) (n : Int) : Int := if stp S n < S.length then stp S n else -1
theorem stpI_yes {S : List Int} {n : Int} (h : stp S n < S.length) : stpI S n = stp S n := if_pos h
theorem stpI_no {S : List Int} {n : Int} (h : ¬ stp S n < S.length) : stpI S n = -1 := if_neg h

set_option maxHeartbeats 2000000 in
set_option maxRecDepth 100000 in
theorem sstep_any (B : Nat) (S : List Int) (R : List (List Int)) (n : Int) (w : World) (h : AtT w B S R) (k : TabOk S R) :
    Calls Tryd.prog 22 #[.pointer (some ⟨B, 0, none⟩), .int .i64 n] w fun e w' => e = .returned (.int .i64 (stpI S n)) ∧ w = w' := by
  obtain ⟨a, cap, b, c2, c0, _, hS, _⟩ := h.cells
  have HS := Lib.hid hS
  have K := Lib.hid k
  obtain ⟨m, hm'⟩ : ∃ m, S.length = m := ⟨_, rfl⟩
  have hm : m ≤ 1048576 := by have := k.sl; omega
  rw [hm'] at c0
  have HM := Lib.hid hm'
  clear h k hS hm'
  go_enter Tryd.func22, Tryd.ntmps22
  go_wp2_with fail
  go_loop [5] (fun i => ∃ q : Nat, q ≤ m ∧ i = .int .i64 q ∧ lightTo S n q) (fun i => m - (intOf i).toNat)
  case atStart => exact ⟨0, Nat.zero_le _, rfl, lightTo.zero S n⟩
  case round =>
    obtain ⟨q, hq, rfl, hl⟩ := hrel
    have HL := Lib.hid hl
    by_cases hlt : q < m
    · obtain ⟨g, rfl, hc⟩ := HS.out (by intro e; have := HM.out; rw [e] at this; simp at this; omega)
      have cx := hc q (by have := HM.out; omega)
      have hxw := K.out.s16.get q (by have := HM.out; omega)
      have HST : Hid (S.getD q 0 < n → lightTo S n (q + 1)) := Lib.hid HL.out.succ
      have HEQ : Hid (n ≤ S.getD q 0 → stpI S n = q) := Lib.hid (fun h1 => by
        have e := stp_eq (by have := HM.out; omega) HL.out h1
        rw [stpI_yes (by rw [e]; have := HM.out; omega), e])
      obtain ⟨x, hx⟩ : ∃ x, S.getD q 0 = x := ⟨_, rfl⟩
      rw [hx] at cx hxw HST HEQ
      obtain ⟨hw1, hw2⟩ := hxw
      clear hc hx hl
      by_cases hn : n ≤ x
      · go_wp2_with fail
        go_ret
        exact ⟨(ret_int (HEQ.out hn)).symm, rfl⟩
      · go_wp2_with fail
        go_round
        case rel => exact ⟨q + 1, by omega, by go_num, HST.out (by omega)⟩
        case measure => simp [intOf]; omega
    · have hq' : q = m := by omega
      have HNO : Hid (stpI S n = -1) := Lib.hid (stpI_no (by rw [stp_none (by rw [HM.out, ← hq']; exact hl)]; omega))
      clear hq' hl
      go_wp2_with fail
      go_ret
      exact ⟨(ret_int HNO.out).symm, rfl⟩

/-- What stepFor answers. -/
def stepV (S : List Int) (n : Int) (a3 : Addr) : Value := if stp S n < S.length then .tuple #[.int .i64 (stp S n), .nilIface] else .tuple #[.int .i64 0, .iface 61 (.pointer (some a3))]
theorem stepV_yes {S : List Int} {n : Int} (a3 : Addr) (h : stp S n < S.length) : stepV S n a3 = .tuple #[.int .i64 (stp S n), .nilIface] := if_pos h
theorem stepV_no {S : List Int} {n : Int} (a3 : Addr) (h : ¬ stp S n < S.length) : stepV S n a3 = .tuple #[.int .i64 0, .iface 61 (.pointer (some a3))] := if_neg h

set_option maxHeartbeats 2000000 in
set_option maxRecDepth 100000 in
theorem istep_any (v : Value) (S : List Int) (R : List (List Int)) (n : Int) (w : World) (hv : ReadsT w v S R) (k : TabOk S R) (a3 : Addr)
    (g3 : w.cell? ⟨0, 0, none⟩ = some (.iface 61 (.pointer (some a3)))) :
    Calls Tryd.prog 27 #[v, .int .i64 n] w fun e w' => e = .returned (stepV S n a3) ∧ Below w.heap.size w w' := by
  obtain ⟨v1, v2, rfl, ⟨a, cap, rfl, hS⟩, ⟨b, c2, rfl, hR⟩⟩ := hv
  have HS := Lib.hid hS
  have K := Lib.hid k
  obtain ⟨m, hm'⟩ : ∃ m, S.length = m := ⟨_, rfl⟩
  have hm : m ≤ 1048576 := by have := k.sl; omega
  have HG := Lib.hid g3
  rw [hm']
  have HM := Lib.hid hm'
  clear hR k hS hm' g3
  go_enter Tryd.func27, Tryd.ntmps27
  go_wp2_with fail
  go_loopw [11] (fun i wr => ∃ q : Nat, q ≤ m ∧ i = .int .i64 q ∧ lightTo S n q ∧ Below w.heap.size w wr) (fun i _ => m - (intOf i).toNat)
  case atStart => exact ⟨0, Nat.zero_le _, rfl, lightTo.zero S n, allocB _ _⟩
  case round =>
    obtain ⟨q, hq, rfl, hl, hnx⟩ := hrel
    have HL := Lib.hid hl
    have HB := Lib.hid hnx
    by_cases hlt : q < m
    · obtain ⟨g, rfl, hc⟩ := HS.out (by intro e; have := HM.out; rw [e] at this; simp at this; omega)
      have cx := hc.below hnx q (by have := HM.out; omega)
      have hxw := K.out.s16.get q (by have := HM.out; omega)
      have HST : Hid (S.getD q 0 < n → lightTo S n (q + 1)) := Lib.hid HL.out.succ
      have HEQ : Hid (n ≤ S.getD q 0 → stp S n = q) := Lib.hid (stp_eq (by have := HM.out; omega) HL.out)
      obtain ⟨x, hx⟩ : ∃ x, S.getD q 0 = x := ⟨_, rfl⟩
      rw [hx] at cx hxw HST HEQ
      obtain ⟨hw1, hw2⟩ := hxw
      clear hc hx hl hnx
      by_cases hn : n ≤ x
      · go_wp2_with fail
        go_ret2
        exact ⟨ret_eq (by rw [stepV_yes a3 (by rw [HEQ.out hn, HM.out]; exact hlt), HEQ.out hn]; rfl), HB.out⟩
      · go_wp2_with fail
        go_roundw
        case rel => exact ⟨q + 1, by omega, by go_num, HST.out (by omega), HB.out⟩
        case measure => simp [intOf]; omega
    · have hq' : q = m := by omega
      have HNO : Hid (¬ stp S n < m) := Lib.hid (by rw [stp_none (by rw [HM.out, ← hq']; exact hl), HM.out]; omega)
      have g3 := cbelow hnx HG.out
      clear hq' hl hnx
      go_wp2_with fail
      go_quiet (fail)
      go_wp2_with fail
      go_ret2
      exact ⟨ret_eq (by rw [stepV_no a3 (by rw [HM.out]; exact HNO.out)]; rfl), below_drewN HB.out _⟩

/-- The answer of StepFor. -/
def stepX (S : List Int) (R : List (List Int)) (n : Int) : Int := if chk S R 0 [n] = 0 ∧ stp S n < S.length then stp S n else 0
def stepC (S : List Int) (R : List (List Int)) (n : Int) : Int := if chk S R 0 [n] = 0 then (if stp S n < S.length then 0 else 6) else chk S R 0 [n]
theorem betw1 (n : Int) : betwB [n] 1 2000 = inB n 1 2000 := by
  by_cases h : 1 ≤ n ∧ n ≤ 2000
  · rw [inB_true h, betwB_true (fun i hi => by simp at hi; subst hi; simpa [List.getD] using h)]
  · rw [inB_false h, betwB_bad (k := 0) (by simp) (by simpa [List.getD] using h)]
theorem chk1_asked (S : List Int) (R : List (List Int)) (z n : Int) : chk S R z [n] = asked S R z (inB n 1 2000) := by
  unfold chk asked; rw [betw1]; simp

end Go.Proofs.YtnjhkmoinlikiaaDoor
