/-
  'FnExactMustPass' answers true at every input, and leaves all memory that was there as it was. Conditions: none beyond the row's own.
-/
import Derived.Test.YtlempmahkeilpaaRows
import Derived.ProofKit
import Derived.OpenShut
import Derived.ShutString
import Derived.ChangeOld
import Derived.Below
import Derived.Deep.SlicePairs
import Derived.Lib.SmallJoins
import Derived.Test.YtlempmahkeilpaaONet
import Derived.Test.YtlempmahkeilpaaCgS
import Derived.Test.YtlempmahkeilpaaArC
import Derived.Test.YtlempmahkeilpaaTkI
import Derived.Laws.CopyRow
import Derived.Test.YtlempmahkeilpaaArG
import Derived.Test.YtlempmahkeilpaaNtL
import Derived.Test.YtlempmahkeilpaaAsI
import Derived.Test.YtlempmahkeilpaaArW
import Derived.Test.YtlempmahkeilpaaOwF
import Derived.Test.YtlempmahkeilpaaCgI
import Derived.Test.YtlempmahkeilpaaRelI
import Derived.OwnWalkIn
import Derived.Test.YtlempmahkeilpaaNtA
import Derived.Test.YtlempmahkeilpaaTScan
import Derived.Test.YtlempmahkeilpaaToI
import Derived.Test.YtlempmahkeilpaaKeepO
/-
  The stations that a parcel must pass (plain): a net without the lanes of a station.
-/
namespace Go.Proofs.Ytlempmahkeilpaa
open Go Go.RowKit
set_option linter.unusedVariables false

def woL (s : Int) (ps : List Lan) : List Lan := ps.filter fun l => decide (l.1 ≠ s ∧ l.2.1 ≠ s)
theorem lan_mem {L : List Lan} {P : Lan → Prop} : (∃ i, i < L.length ∧ P (L.getD i zl)) ↔ ∃ l, l ∈ L ∧ P l := by
  constructor
  · rintro ⟨i, hi, h⟩
    exact ⟨_, by simp [List.getD, hi], h⟩
  · rintro ⟨l, hl, h⟩
    obtain ⟨i, hi, e⟩ := List.getElem_of_mem hl
    exact ⟨i, hi, by simpa [List.getD, hi, e] using h⟩
theorem wo_mem {s : Int} {ps : List Lan} {l : Lan} : l ∈ woL s ps ↔ l ∈ ps ∧ (l.1 ≠ s ∧ l.2.1 ≠ s) := by
  unfold woL; rw [List.mem_filter, decide_eq_true_iff]
theorem srcK_mem {L : List Lan} {wo : Int} {sy s0 h0 k s h : Nat} : srcK L wo sy s0 h0 (k + 1) s h ↔ ∃ l, l ∈ L ∧ (pas wo l ∧ l.2.1.toNat = s ∧ ∃ d, l.2.2.1.toNat ≤ d ∧ d ≤ l.2.2.2.toNat + sy ∧ d ≤ h ∧ srcK L wo sy s0 h0 k l.1.toNat (h - d)) := by
  rw [← lan_mem (P := fun l => pas wo l ∧ l.2.1.toNat = s ∧ ∃ d, l.2.2.1.toNat ≤ d ∧ d ≤ l.2.2.2.toNat + sy ∧ d ≤ h ∧ srcK L wo sy s0 h0 k l.1.toNat (h - d))]
  rfl
theorem srcK_wo {ps : List Lan} (hn : ∀ l, l ∈ ps → 0 ≤ l.1 ∧ 0 ≤ l.2.1) (wo : Int) (sy s0 h0 : Nat) : ∀ k s h, srcK (woL wo ps) (-1) sy s0 h0 k s h ↔ srcK ps wo sy s0 h0 k s h
  | 0, s, h => Iff.rfl
  | k + 1, s, h => by
    have ih := srcK_wo hn wo sy s0 h0 k
    rw [srcK_mem, srcK_mem]
    constructor
    · rintro ⟨l, hl, _, h2, d, h3, h4, h5, h6⟩
      obtain ⟨hm, hp⟩ := wo_mem.1 hl
      exact ⟨l, hm, hp, h2, d, h3, h4, h5, (ih _ _).1 h6⟩
    · rintro ⟨l, hl, hp, h2, d, h3, h4, h5, h6⟩
      have := hn l hl
      exact ⟨l, wo_mem.2 ⟨hl, hp⟩, ⟨by omega, by omega⟩, h2, d, h3, h4, h5, (ih _ _).2 h6⟩
theorem lan_nn {st sy : Int} {ps : List Lan} (h : okNet st sy ps) : ∀ l, l ∈ ps → okLa st l := fun l hl => by
  obtain ⟨i, hi, e⟩ := List.getElem_of_mem hl
  have := h.2.2.2 i hi
  simpa [List.getD, hi, e] using this
open Classical in
theorem arrB_iff {ps : List Lan} {wo sy x0 x1 y0 y1 : Int} : arrB ps wo sy x0 x1 y0 y1 = true ↔ Arr ps wo sy.toNat x0.toNat x1.toNat y0.toNat y1.toNat := by
  unfold arrB
  exact decide_eq_true_iff
theorem arrB_wo {st sy : Int} {ps : List Lan} (h : okNet st sy ps) (wo x0 x1 y0 y1 : Int) : arrB (woL wo ps) (-1) sy x0 x1 y0 y1 = arrB ps wo sy x0 x1 y0 y1 := by
  refine arrB_of ?_
  rw [arrB_iff]
  have hn : ∀ l, l ∈ ps → 0 ≤ l.1 ∧ 0 ≤ l.2.1 := fun l hl => by
    have := lan_nn h l hl
    unfold okLa at this
    omega
  unfold Arr
  constructor
  · rintro ⟨k, hk⟩; exact ⟨k, (srcK_wo hn wo _ _ _ _ _ _).1 hk⟩
  · rintro ⟨k, hk⟩; exact ⟨k, (srcK_wo hn wo _ _ _ _ _ _).2 hk⟩
theorem wo_ok {st sy : Int} {ps : List Lan} (h : okNet st sy ps) (wo : Int) : okNet st sy (woL wo ps) := by
  refine ⟨h.1, h.2.1, Nat.le_trans (List.length_filter_le _ _) h.2.2.1, fun i hi => ?_⟩
  have hm : (woL wo ps).getD i (0, 0, 0, 0) ∈ woL wo ps := by simp [List.getD, hi]
  exact lan_nn h _ (wo_mem.1 hm).1
noncomputable def mpG (ps : List Lan) (sy x0 x1 y0 y1 : Int) (s : Int) : Bool := decide (s ≠ x0) && (decide (s ≠ y0) && !arrB ps s sy x0 x1 y0 y1)
noncomputable def mpL (ps : List Lan) (sy x0 x1 y0 y1 : Int) : Nat → List Int
  | 0 => []
  | k + 1 => if mpG ps sy x0 x1 y0 y1 (k : Int) = true then mpL ps sy x0 x1 y0 y1 k ++ [(k : Int)] else mpL ps sy x0 x1 y0 y1 k
theorem mpL_len (ps : List Lan) (sy x0 x1 y0 y1 : Int) : ∀ k, (mpL ps sy x0 x1 y0 y1 k).length ≤ k
  | 0 => by simp [mpL]
  | k + 1 => by
    have := mpL_len ps sy x0 x1 y0 y1 k
    rw [mpL]; split
    · simp; exact this
    · omega
theorem mpL_yes {ps : List Lan} {sy x0 x1 y0 y1 : Int} {k : Nat} (h : mpG ps sy x0 x1 y0 y1 (k : Int) = true) : mpL ps sy x0 x1 y0 y1 (k + 1) = mpL ps sy x0 x1 y0 y1 k ++ [(k : Int)] := if_pos h
theorem mpL_no {ps : List Lan} {sy x0 x1 y0 y1 : Int} {k : Nat} (h : mpG ps sy x0 x1 y0 y1 (k : Int) = false) : mpL ps sy x0 x1 y0 y1 (k + 1) = mpL ps sy x0 x1 y0 y1 k := if_neg (by rw [h]; simp)
noncomputable def mpC (st sy : Int) (ps : List Lan) (x0 x1 y0 y1 : Int) : Int := if cgC st sy ps x0 x1 y0 y1 = 0 then (if cgR st sy ps x0 x1 y0 y1 = true then 0 else 6) else cgC st sy ps x0 x1 y0 y1
noncomputable def mpR (st sy : Int) (ps : List Lan) (x0 x1 y0 y1 : Int) : List Int := if mpC st sy ps x0 x1 y0 y1 = 0 then mpL ps sy x0 x1 y0 y1 st.toNat else []
theorem mpR_len (st sy : Int) (ps : List Lan) (x0 x1 y0 y1 : Int) : (mpR st sy ps x0 x1 y0 y1).length ≤ 1048575 := by
  unfold mpR
  split
  · rename_i h
    unfold mpC at h
    split at h
    · rename_i h2
      have h3 := (vldN_spec (askC_ok (show askC st sy ps (scB st x0 x1 && scB st y0 y1) = 0 from h2)).1).1
      have := mpL_len ps sy x0 x1 y0 y1 st.toNat
      omega
    · rename_i h2; exact absurd h h2
  · simp
end Go.Proofs.Ytlempmahkeilpaa
/-
  Lanes: their clone; which of them touch a station, and the first one that does.
-/
namespace Go.Proofs.Ytlempmahkeilpaa
open Go Go.RowKit
set_option linter.unusedVariables false

theorem lan_cellsC {w : World} {b : Nat} {ps : List Lan} (h : CellsLa w b ps) : ∀ j u, (flatLa ps)[j]? = some u → w.cell? ((⟨b, 0, none⟩ : Addr).add j) = some u := flatLa_cells h
set_option maxHeartbeats 2000000 in
set_option maxRecDepth 100000 in
theorem cloneLan_row (b cap : Nat) (ps : List Lan) (hm : ps.length ≤ 1048576) (w : World) (hc : CellsLa w b ps) :
    Calls Try.prog 87 #[.slice (some ⟨b, 0, none⟩) ps.length cap] w fun e w' => ∃ v, e = .returned v ∧ OwnLa 67 w.heap.size w' v ps ∧ Below w.heap.size w w' := by
  obtain ⟨i0, hi, hz0, hz1, hz2⟩ := info_parts infoR_La
  have hq := fun (wx : World) => Lib.run_eql_slice_nil (P := Try.prog) wx 33 67 (some ⟨b, 0, none⟩) ps.length cap 0 0 Try.underlying33
  have hown : (w.alloc (.cells #[] 67)).ownsRow w.heap.size 67 4 (.slice (some ⟨w.heap.size, 0, none⟩) 0 0) 0 [] := World.ownsRow_made w #[] 0 (Nat.le_refl _) (Nat.zero_le _) rfl
  have hb0 : Below w.heap.size w (w.alloc (.cells #[] 67)) := (Below.refl _ _).alloc (Nat.le_refl _) _
  have hnews := lan_cellsC (hc.below hb0)
  have HB := Lib.hid hb0
  have HN := Lib.hid hnews
  have HO := Lib.hid hown
  obtain ⟨n, hn⟩ : ∃ n, ps.length = n := ⟨_, rfl⟩
  have HLN := Lib.hid hn
  rw [hn] at hm hq ⊢
  clear hb0 hnews hown hc hn
  go_enter Try.func87, Try.ntmps87
  go_wp2_with (at_builtin; refine wpList_append_own _ rfl _ _ 33 rfl w.heap.size 67 i0 (.agg #[.int .i8 0, .int .i8 0, .int .i16 0, .int .i16 0]) 4 6 Try.underlying33 hi hz0 hz1 hz2 rfl (by decide) _ _ _ rfl HO.out ⟨b, 0, none⟩ n cap (flatLa ps) rfl (by rw [flatLa_length, HLN.out]) HN.out (flatLa_ones ps) (by unfold maxLen; omega) (by omega) (by simp) ?_)
  intro v' w3 hown' hgrow _
  have HO' : Hid (OwnLa 67 w.heap.size w3 v' ps) := Lib.hid (by
    have h := hown'
    unfold OwnLa
    rw [HLN.out]
    exact h)
  have HB' : Hid (Below w.heap.size w w3) := Lib.hid (HB.out.grown hgrow (by simp) (fun j hj => by simp [Value.ownBlock] at hj; omega))
  clear hown' hgrow
  go_wp2
  go_ret
  exact ⟨_, rfl, HO'.out, HB'.out⟩
set_option maxHeartbeats 1000000 in
theorem cloneLan_nil (a : Option Addr) (cap : Nat) (w : World) :
    Calls Try.prog 87 #[.slice a 0 cap] w fun e w' => ∃ v, e = .returned v ∧ OwnLa 67 w.heap.size w' v [] ∧ Below w.heap.size w w' := by
  obtain ⟨i0, hi, hz0, hz1, hz2⟩ := info_parts infoR_La
  have hq := fun (wx : World) => Lib.run_eql_slice_nil (P := Try.prog) wx 33 67 a 0 cap 0 0 Try.underlying33
  have hown : (w.alloc (.cells #[] 67)).ownsRow w.heap.size 67 4 (.slice (some ⟨w.heap.size, 0, none⟩) 0 0) 0 [] := World.ownsRow_made w #[] 0 (Nat.le_refl _) (Nat.zero_le _) rfl
  have hb0 : Below w.heap.size w (w.alloc (.cells #[] 67)) := (Below.refl _ _).alloc (Nat.le_refl _) _
  have HB := Lib.hid hb0
  have HO := Lib.hid hown
  clear hb0 hown
  cases a with
  | none =>
    go_enter Try.func87, Try.ntmps87
    go_wp2_with fail
    go_ret
    exact ⟨_, rfl, World.ownsRow_nil _ _ _ _, Below.refl _ _⟩
  | some x =>
    go_enter Try.func87, Try.ntmps87
    go_wp2_with (at_builtin; refine wpList_append_own _ rfl _ _ 33 rfl w.heap.size 67 i0 (.agg #[.int .i8 0, .int .i8 0, .int .i16 0, .int .i16 0]) 4 6 Try.underlying33 hi hz0 hz1 hz2 rfl (by decide) _ _ _ rfl HO.out x 0 cap [] rfl (by simp) (by intro j u hj; simp at hj) (by intro u hu; simp at hu) (by unfold maxLen; omega) (by omega) (by simp) ?_)
    intro v' w3 hown' hgrow _
    have HO' : Hid (OwnLa 67 w.heap.size w3 v' []) := Lib.hid (by simpa [OwnLa, flatLa, flatE] using hown')
    have HB' : Hid (Below w.heap.size w w3) := Lib.hid (HB.out.grown hgrow (by simp) (fun j hj => by simp [Value.ownBlock] at hj; omega))
    clear hown' hgrow
    go_wp2
    go_ret
    exact ⟨_, rfl, HO'.out, HB'.out⟩


/-- A lane that goes with a station. -/
def delB (s : Int) (l : Lan) : Bool := decide (l.1 = s) || decide (l.2.1 = s)
theorem delB_pas {s : Int} {l : Lan} : delB s l = false ↔ (l.1 ≠ s ∧ l.2.1 ≠ s) := by
  unfold delB
  rw [Bool.or_eq_false_iff, decide_eq_false_iff_not, decide_eq_false_iff_not]

set_option maxHeartbeats 1000000 in
set_option maxRecDepth 100000 in
theorem idel_any (x0 x1 x2 x3 s : Int) (Bs : Nat) (w : World) (h0 : -128 ≤ x0 ∧ x0 ≤ 127) (h1 : -128 ≤ x1 ∧ x1 ≤ 127) (hs : w.cell? ⟨Bs, 0, none⟩ = some (.int .i64 s)) :
    Calls Try.prog 88 #[.agg #[.int .i8 x0, .int .i8 x1, .int .i16 x2, .int .i16 x3], .pointer (some ⟨Bs, 0, none⟩)] w fun e w' => e = .returned (.bool (delB s (x0, x1, x2, x3))) ∧ Below w.heap.size w w' := by
  obtain ⟨h00, h01⟩ := h0
  obtain ⟨h10, h11⟩ := h1
  have b1 : Below w.heap.size w (w.alloc (.cells #[.int .i8 x0, .int .i8 x1, .int .i16 x2, .int .i16 x3] 67)) := (Below.refl _ _).alloc (Nat.le_refl _) _
  have HB := Lib.hid b1
  have hs1 := (b1.cell (p := ⟨Bs, 0, none⟩) (World.block_lt_of_cell? w _ hs)).trans hs
  by_cases e0 : x0 = s
  · have HR : Hid (delB s (x0, x1, x2, x3) = true) := Lib.hid (by unfold delB; rw [decide_eq_true (p := ((x0, x1, x2, x3) : Lan).1 = s) e0]; rfl)
    have u0 : (x0 == s) = true := by simp [e0]
    clear b1 e0
    go_enter Try.func88, Try.ntmps88
    go_wp2_with fail
    go_ret
    exact ⟨ret_bool HR.out.symm, HB.out⟩
  · have u0 : (x0 == s) = false := by simp [e0]
    obtain ⟨r, hr⟩ : ∃ r, (x1 == s) = r := ⟨_, rfl⟩
    have HR : Hid (delB s (x0, x1, x2, x3) = r) := Lib.hid (by unfold delB; rw [decide_eq_false (p := ((x0, x1, x2, x3) : Lan).1 = s) e0, Bool.false_or, ← hr]; rfl)
    clear b1 e0
    go_enter Try.func88, Try.ntmps88
    go_wp2_with fail
    go_ret
    exact ⟨ret_bool HR.out.symm, HB.out⟩
/-- The index of the first lane that goes, or -1. -/
def fstD (s : Int) (L : List Lan) : Nat → Nat → Int
  | 0, _ => -1
  | n + 1, k => if delB s (L.getD k (0, 0, 0, 0)) = true then (k : Int) else fstD s L n (k + 1)
theorem fstD_at {s : Int} {L : List Lan} {n k j : Nat} (hk : k ≤ j) (hj : j < k + n) (h : ∀ i, k ≤ i → i < j → delB s (L.getD i (0, 0, 0, 0)) = false) (hb : delB s (L.getD j (0, 0, 0, 0)) = true) : fstD s L n k = (j : Int) := by
  induction n generalizing k with
  | zero => omega
  | succ n ih =>
    rw [fstD]
    by_cases e : k = j
    · subst e; rw [if_pos hb]
    · rw [if_neg (by rw [h k (Nat.le_refl _) (by omega)]; simp)]
      exact ih (by omega) (by omega) (fun i hi => h i (by omega))
theorem fstD_none {s : Int} {L : List Lan} {n k : Nat} (h : ∀ i, k ≤ i → i < k + n → delB s (L.getD i (0, 0, 0, 0)) = false) : fstD s L n k = -1 := by
  induction n generalizing k with
  | zero => rfl
  | succ n ih =>
    rw [fstD, if_neg (by rw [h k (Nat.le_refl _) (by omega)]; simp)]
    exact ih fun i hi hi2 => h i (by omega) (by omega)

set_option maxHeartbeats 1000000 in
set_option maxRecDepth 100000 in
theorem iidxf_any (v : Value) (L : List Lan) (s : Int) (Bs : Nat) (w : World) (hf : FitsLa L) (hl : L.length ≤ 1048576) (hv : ReadsLa w v L) (hs : w.cell? ⟨Bs, 0, none⟩ = some (.int .i64 s)) :
    Calls Try.prog 100 #[v, .func (.func 88) #[] #[.pointer (some ⟨Bs, 0, none⟩)]] w fun e w' => e = .returned (.int .i64 (fstD s L L.length 0)) ∧ Below w.heap.size w w' := by
  obtain ⟨a, cap, rfl, ha⟩ := hv
  have HA := Lib.hid ha
  have HF := Lib.hid hf
  have HS := Lib.hid hs
  have hBs : Bs < w.heap.size := World.block_lt_of_cell? w _ hs
  obtain ⟨len, hlen⟩ : ∃ n, L.length = n := ⟨_, rfl⟩
  have HL := Lib.hid hlen
  rw [hlen] at hl ⊢
  clear ha hf hlen hs
  go_enter Try.func100, Try.ntmps100
  go_wp2_with fail
  go_loopw [8] (fun i wr => ∃ k : Nat, k ≤ len ∧ i = .int .i64 k ∧ (∀ j, j < k → delB s (L.getD j (0, 0, 0, 0)) = false) ∧ Below w.heap.size w wr) (fun i _ => len - (intOf i).toNat)
  case atStart => exact ⟨0, Nat.zero_le _, rfl, fun j hj => by omega, Below.refl _ _⟩
  case round =>
    obtain ⟨k, hk, rfl, hno, hnx⟩ := hrel
    have HN := Lib.hid hnx
    have HNO := Lib.hid hno
    by_cases hlt : k < len
    · have hkl : (k : Int) < (len : Int) := by omega
      have hk0 : (0 : Int) ≤ (k : Int) := by omega
      obtain ⟨b, rfl, hc⟩ := HA.out (fun h => by have := HL.out; rw [h] at this; simp at this; omega)
      obtain ⟨c0, c1, c2, c3⟩ := (hc.below hnx) k (by rw [HL.out]; exact hlt)
      have hfk := HF.out.get k (by rw [HL.out]; exact hlt)
      have HYES : Hid (delB s (L.getD k (0, 0, 0, 0)) = true → fstD s L len 0 = (k : Int)) := Lib.hid (fun h => fstD_at (Nat.zero_le _) (by omega) (fun i _ hi => HNO.out i hi) h)
      have HSUC : Hid (delB s (L.getD k (0, 0, 0, 0)) = false → ∀ j, j < k + 1 → delB s (L.getD j (0, 0, 0, 0)) = false) := Lib.hid (fun h j hj => by
        by_cases e : j = k
        · subst e; exact h
        · exact HNO.out j (by omega))
      obtain ⟨q, hq⟩ : ∃ q, L.getD k (0, 0, 0, 0) = q := ⟨_, rfl⟩
      rw [hq] at c0 c1 c2 c3 hfk HYES HSUC
      obtain ⟨x0, x1, x2, x3⟩ := q
      unfold FitLa at hfk
      simp only at hfk c0 c1 c2 c3
      have HD := Lib.hid (idel_any x0 x1 x2 x3 s Bs wr hfk.1 hfk.2.1 ((hnx.cell (p := ⟨Bs, 0, none⟩) hBs).trans HS.out))
      obtain ⟨r, hr⟩ : ∃ r, delB s (x0, x1, x2, x3) = r := ⟨_, rfl⟩
      rw [hr] at HD HYES HSUC
      clear hq hr hc hnx hno hfk HA
      go_wp2_with fail
      refine HD.out.mono ?_
      rintro e w3 ⟨rfl, b3⟩
      have HN3 := Lib.hid (blink HN.out b3)
      clear b3 HD
      cases r
      · have HSU := Lib.hid (HSUC.out rfl)
        clear HSUC HYES
        go_wp2_with fail
        go_roundw
        case rel => exact ⟨k + 1, by omega, by go_num, HSU.out, HN3.out⟩
        case measure => simp [intOf]; omega
      · have HY := Lib.hid (HYES.out rfl)
        clear HSUC HYES
        go_wp2_with fail
        go_ret
        exact ⟨ret_int HY.out.symm, HN3.out⟩
    · have HR : Hid (fstD s L len 0 = -1) := Lib.hid (fstD_none fun i _ hi => hno i (by omega))
      clear hno hnx
      go_wp2_with fail
      go_ret
      exact ⟨ret_int HR.out.symm, HN.out⟩
end Go.Proofs.Ytlempmahkeilpaa
/-
  slices.DeleteFunc at lanes that the call has cloned.
-/
namespace Go.Proofs.Ytlempmahkeilpaa
open Go Go.RowKit
set_option linter.unusedVariables false

theorem wo_del {s : Int} {L : List Lan} {j : Nat} (hj : j < L.length) (h : delB s (L.getD j (0, 0, 0, 0)) = true) : woL s (L.take (j + 1)) = woL s (L.take j) := by
  rw [List.take_add_one]
  have e : L[j]?.toList = [L.getD j (0, 0, 0, 0)] := by simp [List.getD, hj]
  rw [e]
  unfold woL
  rw [List.filter_append]
  have : decide ((L.getD j (0, 0, 0, 0)).1 ≠ s ∧ (L.getD j (0, 0, 0, 0)).2.1 ≠ s) = false := decide_eq_false fun hc => by rw [delB_pas.2 hc] at h; cases h
  rw [List.filter_cons, this]
  simp
theorem wo_keep {s : Int} {L : List Lan} {j : Nat} (hj : j < L.length) (h : delB s (L.getD j (0, 0, 0, 0)) = false) : woL s (L.take (j + 1)) = woL s (L.take j) ++ [L.getD j (0, 0, 0, 0)] := by
  rw [List.take_add_one]
  have e : L[j]?.toList = [L.getD j (0, 0, 0, 0)] := by simp [List.getD, hj]
  rw [e]
  unfold woL
  rw [List.filter_append]
  have : decide ((L.getD j (0, 0, 0, 0)).1 ≠ s ∧ (L.getD j (0, 0, 0, 0)).2.1 ≠ s) = true := decide_eq_true (delB_pas.1 h)
  rw [List.filter_cons, this]
  simp
theorem wo_all {s : Int} {L : List Lan} : ∀ {j : Nat}, j ≤ L.length → (∀ i, i < j → delB s (L.getD i (0, 0, 0, 0)) = false) → woL s (L.take j) = L.take j
  | 0, _, _ => by simp [woL]
  | j + 1, hj, h => by
    rw [wo_keep (by omega) (h j (by omega)), wo_all (by omega) fun i hi => h i (by omega), List.take_add_one]
    simp [List.getD, show j < L.length by omega]
theorem wo_len (s : Int) (L : List Lan) : (woL s L).length ≤ L.length := List.length_filter_le _ _
theorem fstD_spec {s : Int} {L : List Lan} : ∀ n k, (fstD s L n k = -1 ∧ ∀ i, k ≤ i → i < k + n → delB s (L.getD i (0, 0, 0, 0)) = false) ∨ ∃ j : Nat, k ≤ j ∧ j < k + n ∧ fstD s L n k = (j : Int) ∧ delB s (L.getD j (0, 0, 0, 0)) = true ∧ ∀ i, k ≤ i → i < j → delB s (L.getD i (0, 0, 0, 0)) = false
  | 0, k => .inl ⟨rfl, fun i h1 h2 => by omega⟩
  | n + 1, k => by
    by_cases h : delB s (L.getD k (0, 0, 0, 0)) = true
    · exact .inr ⟨k, Nat.le_refl _, by omega, by rw [fstD, if_pos h], h, fun i h1 h2 => by omega⟩
    · have hf : delB s (L.getD k (0, 0, 0, 0)) = false := by simpa using h
      rcases fstD_spec n (k + 1) with ⟨h1, h2⟩ | ⟨j, h1, h2, h3, h4, h5⟩
      · refine .inl ⟨by rw [fstD, if_neg h, h1], fun i hi hi2 => ?_⟩
        by_cases e : i = k
        · subst e; exact hf
        · exact h2 i (by omega) (by omega)
      · refine .inr ⟨j, by omega, by omega, by rw [fstD, if_neg h, h3], h4, fun i hi hi2 => ?_⟩
        by_cases e : i = k
        · subst e; exact hf
        · exact h5 i (by omega) hi2
end Go.Proofs.Ytlempmahkeilpaa
/-
  clear(s) at a slice of lanes behind the c-th of an owned row: zero lanes from there on.
-/
namespace Go.Proofs.Ytlempmahkeilpaa
open Go Go.RowKit
set_option linter.unusedVariables false

theorem run_clear_own {P : Program} (w : World) (base : Nat) (t e ty : TypeId) (z : Value) (size : Nat) (ht : P.underlying t = some (.slice e)) (hv : ∀ w, (zeroValue e).run P w = .ok z w) (hz : z.cells.size = size) (h1 : ∀ n, ∀ u ∈ (Builtin.zeroCells z.cells n).toList, u.oneCell' = true)
    (g n cap c : Nat) (xs : List Value) (hcn : c < n) (h : w.ownsRow base e size (.slice (some ⟨g, 0, none⟩) n cap) n xs) :
    ∃ w', (Builtin.clear_ #[t] ty #[.slice (some ⟨g, c * size, none⟩) (n - c) (cap - c)]).run P w = .ok (.tuple #[]) w' ∧
      w'.ownsRow base e size (.slice (some ⟨g, 0, none⟩) n cap) n (xs.take (c * size) ++ (Builtin.zeroCells z.cells (n - c)).toList) ∧ w.grownBy w' (some g) := by
  have hxl := h.1
  rcases h.2 with ⟨h', _⟩ | ⟨g', cap', cur, h', hb, hg, hnc, hcm, hcs, htake⟩
  · simp at h'
  · simp only [Value.slice.injEq, Option.some.injEq, Addr.mk.injEq, and_true, true_and] at h'
    obtain ⟨rfl, rfl⟩ := h'
    have hzl : (Builtin.zeroCells z.cells (n - c)).toList.length = (n - c) * size := by simp [Builtin.zeroCells, hz]
    have hmul : c * size + (n - c) * size = n * size := by rw [← Nat.add_mul]; congr 1; omega
    have hle : n * size ≤ cap * size := Nat.mul_le_mul_right _ hnc
    have hfit : c * size + 0 + (Builtin.zeroCells z.cells (n - c)).toList.length ≤ cur.size := by rw [hzl, hcs]; omega
    have hst := run_storeCells_at (P := P) g (c * size) e (Builtin.zeroCells z.cells (n - c)).toList 0 cur w hg hfit (h1 _)
    simp only [Nat.add_zero] at hst
    obtain ⟨m, hm⟩ : ∃ m, n - c = m + 1 := ⟨n - c - 1, by omega⟩
    rw [hzl] at hst hfit
    generalize hvs : (Builtin.zeroCells z.cells (n - c)).toList = vs at hst hzl ⊢
    obtain ⟨nw, hnw⟩ : ∃ nw, (cur.toList.take (c * size) ++ vs ++ cur.toList.drop (c * size + (n - c) * size)).toArray = nw := ⟨_, rfl⟩
    rw [hnw] at hst
    refine ⟨w.setRow g nw, ?_, ⟨?_, .inr ⟨g, cap, nw, rfl, hb, setRow_heap w g cur _ e _ hg, hnc, hcm, ?_, ?_⟩⟩, ?_⟩
    · rw [hm] at hvs ⊢
      simp [Builtin.clear_, run_underlying ht, hv, hvs, hst]
    · simp only [List.length_append, List.length_take, hxl, hzl]; omega
    · rw [← hnw]
      simp only [List.size_toArray, List.length_append, List.length_take, List.length_drop, Array.length_toList, hzl]; omega
    · rw [← hnw, ← htake, List.take_take, Nat.min_eq_left (by omega : c * size ≤ n * size)]
      have e1 : (cur.toList.take (c * size) ++ vs).length = n * size := by simp only [List.length_append, List.length_take, Array.length_toList, hzl]; omega
      exact List.take_left' e1
    · refine ⟨rfl, rfl, rfl, by simp [World.setRow], fun k hk hkg => ?_⟩
      have hkg' : k ≠ g := fun e => hkg (by rw [e])
      simp only [World.setRow, Array.getElem?_modify, if_neg (Ne.symm hkg')]

/-- Zero lanes from the c-th on. -/
theorem zeroLa (n : Nat) : (Builtin.zeroCells (Value.agg #[.int .i8 0, .int .i8 0, .int .i16 0, .int .i16 0]).cells n).toList = flatLa (List.replicate n (0, 0, 0, 0)) := by
  apply List.ext_getElem?
  intro j
  have hc : (Value.agg #[.int .i8 0, .int .i8 0, .int .i16 0, .int .i16 0]).cells = #[.int .i8 0, .int .i8 0, .int .i16 0, .int .i16 0] := rfl
  rw [hc]
  by_cases hj : j < n * 4
  · have hi : j / 4 < (List.replicate n ((0, 0, 0, 0) : Lan)).length := by simp; omega
    have hg : (List.replicate n ((0, 0, 0, 0) : Lan)).getD (j / 4) (0, 0, 0, 0) = (0, 0, 0, 0) := by
      have : j / 4 < n := by omega
      simp [List.getD, this]
    have hz : (Builtin.zeroCells #[.int .i8 0, .int .i8 0, .int .i16 0, .int .i16 0] n).toList[j]? = some (#[Value.int .i8 0, .int .i8 0, .int .i16 0, .int .i16 0][j % 4]!) := by
      simp [Builtin.zeroCells, hj]
    rw [hz]
    have h4 : j % 4 = 0 ∨ j % 4 = 1 ∨ j % 4 = 2 ∨ j % 4 = 3 := by omega
    rcases h4 with e | e | e | e
    · have h := flatLa_0 _ _ hi; rw [hg, show j / 4 * 4 = j by omega] at h; rw [h, e]; rfl
    · have h := flatLa_1 _ _ hi; rw [hg, show j / 4 * 4 + 1 = j by omega] at h; rw [h, e]; rfl
    · have h := flatLa_2 _ _ hi; rw [hg, show j / 4 * 4 + 2 = j by omega] at h; rw [h, e]; rfl
    · have h := flatLa_3 _ _ hi; rw [hg, show j / 4 * 4 + 3 = j by omega] at h; rw [h, e]; rfl
  · rw [List.getElem?_eq_none (by simp [Builtin.zeroCells]; omega), List.getElem?_eq_none (by rw [flatLa_length]; simp; omega)]
theorem flatLa_take (L : List Lan) (c : Nat) : (flatLa L).take (c * 4) = flatLa (L.take c) := by
  induction L generalizing c with
  | nil => simp [flatLa, flatE]
  | cons x L ih =>
    cases c with
    | zero => simp [flatLa, flatE]
    | succ c =>
      have e : flatLa (x :: L) = encLa x ++ flatLa L := rfl
      have e2 : flatLa ((x :: L).take (c + 1)) = encLa x ++ flatLa (L.take c) := rfl
      rw [e, e2, ← ih c, List.take_append, encLa_len x, List.take_of_length_le (by rw [encLa_len x]; omega)]
      congr 2
      omega
theorem flatLa_app (L M : List Lan) : flatLa (L ++ M) = flatLa L ++ flatLa M := by unfold flatLa flatE; rw [List.flatMap_append]
theorem clear_La (w : World) (base : Nat) (ty : TypeId) (g cap c : Nat) (L : List Lan) (hcn : c < L.length) (h : OwnLa 67 base w (.slice (some ⟨g, 0, none⟩) L.length cap) L) :
    ∃ w', (Builtin.clear_ #[33] ty #[.slice (some ⟨g, c * 4, none⟩) (L.length - c) (cap - c)]).run Try.prog w = .ok (.tuple #[]) w' ∧
      OwnLa 67 base w' (.slice (some ⟨g, 0, none⟩) L.length cap) (L.take c ++ List.replicate (L.length - c) (0, 0, 0, 0)) ∧ w.grownBy w' (some g) := by
  have hz : ∀ w, (zeroValue 67).run Try.prog w = .ok (.agg #[.int .i8 0, .int .i8 0, .int .i16 0, .int .i16 0]) w := fun w => by
    simp [zeroValue]
    rfl
  obtain ⟨w', hr, ho, hg⟩ := run_clear_own (P := Try.prog) w base _ _ ty _ 4 Try.underlying33 hz rfl (fun n u hu => by rw [zeroLa] at hu; exact flatLa_ones _ u hu) g L.length cap c (flatLa L) hcn h
  refine ⟨w', hr, ?_, hg⟩
  rw [zeroLa, flatLa_take, ← flatLa_app] at ho
  unfold OwnLa
  rw [show (L.take c ++ List.replicate (L.length - c) ((0, 0, 0, 0) : Lan)).length = L.length by simp; omega]
  exact ho
end Go.Proofs.Ytlempmahkeilpaa
/-
  slices.DeleteFunc at an owned row of lanes.
-/
namespace Go.Proofs.Ytlempmahkeilpaa
open Go Go.RowKit
set_option linter.unusedVariables false

/-- The row of lanes in the midst: c kept of the first j, from j on as before. -/
structure MidD (s : Int) (L : List Lan) (j c : Nat) (X : List Lan) : Prop where
  len : X.length = L.length
  lt : c < j
  jl : j ≤ L.length
  kept : X.take c = woL s (L.take j)
  rest : ∀ i, j ≤ i → i < L.length → X.getD i (0, 0, 0, 0) = L.getD i (0, 0, 0, 0)

theorem MidD.keep {s : Int} {L X : List Lan} {j c : Nat} {q : Lan} (h : MidD s L j c X) (hj : j < L.length) (hq : L.getD j (0, 0, 0, 0) = q) (hb : delB s q = false) : MidD s L (j + 1) (c + 1) (X.set c q) := by
  have hc : c < X.length := by have := h.len; have := h.lt; omega
  refine ⟨by rw [List.length_set, h.len], by have := h.lt; omega, hj, ?_, fun i hi hi2 => ?_⟩
  · rw [wo_keep hj (by rw [hq]; exact hb), hq, ← h.kept, List.take_add_one, List.getElem?_set_self hc, List.take_set_of_le (Nat.le_refl _)]
    rfl
  · have := h.lt
    have e := h.rest i (by omega) hi2
    simp only [List.getD] at e ⊢
    rw [List.getElem?_set_ne (by omega)]
    exact e
theorem MidD.drop {s : Int} {L X : List Lan} {j c : Nat} {q : Lan} (h : MidD s L j c X) (hj : j < L.length) (hq : L.getD j (0, 0, 0, 0) = q) (hb : delB s q = true) : MidD s L (j + 1) c X :=
  ⟨h.len, by have := h.lt; omega, hj, by rw [wo_del hj (by rw [hq]; exact hb)]; exact h.kept, fun i hi hi2 => h.rest i (by omega) hi2⟩
theorem MidD.start {s : Int} {L : List Lan} {j : Nat} (hj : j < L.length) (hb : delB s (L.getD j (0, 0, 0, 0)) = true) (h : ∀ i, i < j → delB s (L.getD i (0, 0, 0, 0)) = false) : MidD s L (j + 1) j L :=
  ⟨rfl, by omega, hj, by rw [wo_del hj hb, wo_all (by omega) h], fun i _ _ => rfl⟩
theorem MidD.fin {s : Int} {L X : List Lan} {c : Nat} (h : MidD s L L.length c X) : X.take c = woL s L ∧ c = (woL s L).length := by
  have e := h.kept
  rw [List.take_length] at e
  refine ⟨e, ?_⟩
  have := congrArg List.length e
  have h1 := h.len
  have h2 := h.lt
  rw [List.length_take] at this
  omega
theorem CellsLa.takeC {w : World} {g : Nat} {X M : List Lan} {c : Nat} (h : CellsLa w g (X.take c ++ M)) (hc : c ≤ X.length) : CellsLa w g (X.take c) := fun i hi => by
  have := h i (by rw [List.length_append]; omega)
  rw [show (X.take c ++ M).getD i (0, 0, 0, 0) = (X.take c).getD i (0, 0, 0, 0) by simp only [List.getD]; rw [List.getElem?_append_left hi]] at this
  exact this
end Go.Proofs.Ytlempmahkeilpaa
/-
  slices.DeleteFunc at an owned row of lanes: the walk.
-/
namespace Go.Proofs.Ytlempmahkeilpaa
open Go Go.RowKit
set_option linter.unusedVariables false

theorem row_keepD {B n k : Nat} {T : TypeId} {w w' : World} {v : Value} {xs : List Value} (h : w.ownsRow B T n v k xs) (hb : Below w.heap.size w w') : w'.ownsRow B T n v k xs := by
  refine ⟨h.1, ?_⟩
  rcases h.2 with hn | ⟨g, cap, cur, rfl, hbg, hg, rest⟩
  · exact .inl hn
  · exact .inr ⟨g, cap, cur, rfl, hbg, by rw [hb.block g (Array.getElem?_eq_some_iff.1 hg).1]; exact hg, rest⟩

set_option maxHeartbeats 4000000 in
set_option maxRecDepth 100000 in
theorem idelf_any (B g cap : Nat) (L : List Lan) (s : Int) (Bs : Nat) (w : World) (hf : FitsLa L) (hl : L.length ≤ 1048576) (hown : OwnLa 67 B w (.slice (some ⟨g, 0, none⟩) L.length cap) L) (hBg : B ≤ g) (hBw : B ≤ w.heap.size) (hs : w.cell? ⟨Bs, 0, none⟩ = some (.int .i64 s)) (hsB : Bs < B) :
    Calls Try.prog 86 #[.slice (some ⟨g, 0, none⟩) L.length cap, .func (.func 88) #[] #[.pointer (some ⟨Bs, 0, none⟩)]] w fun e w' => e = .returned (.slice (some ⟨g, 0, none⟩) (woL s L).length cap) ∧ CellsLa w' g (woL s L) ∧ Below B w w' := by
  have HIX := iidxf_any (.slice (some ⟨g, 0, none⟩) L.length cap) L s Bs w hf hl hown.reads hs
  rcases fstD_spec (s := s) (L := L) L.length 0 with ⟨e1, hno⟩ | ⟨j0, _, hj0, e1, hyes, hno⟩
  · rw [e1] at HIX
    have HR : Hid (CellsLa w g L) := Lib.hid (by
      rcases hown.cases with ⟨h, _⟩ | ⟨g', c', h, _, _, _, _, h4, _⟩
      · cases h
      · simp only [Value.slice.injEq, Option.some.injEq, Addr.mk.injEq, and_true] at h
        obtain ⟨rfl, _⟩ := h
        exact h4)
    have HW : Hid (woL s L = L) := Lib.hid (by
      have h := wo_all (s := s) (L := L) (Nat.le_refl _) fun i hi => hno i (Nat.zero_le _) (by omega)
      rwa [List.take_length] at h)
    have HI := Lib.hid HIX
    have HWL : Hid ((woL s L).length = L.length) := Lib.hid (by rw [HW.out])
    obtain ⟨len, hlen⟩ : ∃ n, L.length = n := ⟨_, rfl⟩
    rw [hlen] at HI HWL hl ⊢
    clear hno hown HIX e1 hf hlen
    go_enter Try.func86, Try.ntmps86
    go_wp2_with fail
    refine HI.out.mono ?_
    rintro e w2 ⟨rfl, b2⟩
    have HB := Lib.hid b2
    clear b2
    go_wp2_with fail
    go_ret
    exact ⟨by rw [HWL.out]; rfl, by rw [HW.out]; exact HR.out.below HB.out, HB.out.mono hBw⟩
  · rw [e1] at HIX
    have HI := Lib.hid HIX
    have HM0 : Hid (MidD s L (j0 + 1) j0 L) := Lib.hid (MidD.start (by omega) hyes fun i hi => hno i (Nat.zero_le _) hi)
    have HO := Lib.hid hown
    have HS := Lib.hid hs
    have HF := Lib.hid hf
    have hgl : g < w.heap.size := by
      rcases hown.cases with ⟨h, _⟩ | ⟨g', c', h, _, h2, _⟩
      · cases h
      · simp only [Value.slice.injEq, Option.some.injEq, Addr.mk.injEq, and_true, true_and] at h; omega
    obtain ⟨len, hlen⟩ : ∃ n, L.length = n := ⟨_, rfl⟩
    have HL := Lib.hid hlen
    unfold OwnLa at HO
    rw [hlen] at HI HO hl hj0 ⊢
    clear hno hown HIX e1 hf hlen hyes hs
    go_enter Try.func86, Try.ntmps86
    go_wp2_with fail
    refine HI.out.mono ?_
    rintro e w2 ⟨rfl, b2⟩
    have HB2 := Lib.hid (b2.mono hBw)
    have HO2 := Lib.hid (row_keepD HO.out b2)
    clear b2 HI HO
    have hne : ((j0 : Int) == -1) = false := by simp
    go_wp2_with fail
    go_loopw [5, 6] (fun i j wr => ∃ (c k : Nat) (X : List Lan), i = .int .i64 c ∧ j = .int .i64 k ∧ k ≤ len ∧ MidD s L k c X ∧ wr.ownsRow B 67 4 (.slice (some ⟨g, 0, none⟩) len cap) len (flatLa X) ∧ Below B w wr) (fun _ j _ => len - (intOf j).toNat)
    case atStart => exact ⟨j0, j0 + 1, L, rfl, by go_num, by omega, HM0.out, HO2.out, HB2.out⟩
    case round =>
      obtain ⟨c, k, X, rfl, rfl, hk, hm, hown, hb⟩ := hrel
      have hwsz : w.heap.size ≤ wr.heap.size := hb.size
      have hBwr : B ≤ wr.heap.size := Nat.le_trans hBw hwsz
      by_cases hlt : k < len
      · have hkl : (k : Int) < (len : Int) := by omega
        have hXl : X.length = len := by rw [hm.len, HL.out]
        have hck := hm.lt
        have hR := hm.rest k (Nat.le_refl _) (by rw [HL.out]; exact hlt)
        have d0 := hown.cellAt (k * 4) (by omega)
        rw [flatLa_0 _ _ (by rw [hXl]; exact hlt), hR] at d0
        have d1 := hown.cellAt (k * 4 + 1) (by omega)
        rw [flatLa_1 _ _ (by rw [hXl]; exact hlt), hR] at d1
        have d2 := hown.cellAt (k * 4 + 2) (by omega)
        rw [flatLa_2 _ _ (by rw [hXl]; exact hlt), hR] at d2
        have d3 := hown.cellAt (k * 4 + 3) (by omega)
        rw [flatLa_3 _ _ (by rw [hXl]; exact hlt), hR] at d3
        have hfk := HF.out.get k (by rw [HL.out]; exact hlt)
        have hsr : wr.cell? ⟨Bs, 0, none⟩ = some (.int .i64 s) := (hb.cell (p := ⟨Bs, 0, none⟩) hsB).trans HS.out
        have HOW := Lib.hid hown
        have HBB := Lib.hid hb
        have HM := Lib.hid hm
        obtain ⟨q, hq⟩ : ∃ q, L.getD k (0, 0, 0, 0) = q := ⟨_, rfl⟩
        have HQ := Lib.hid hq
        rw [hq] at d0 d1 d2 d3 hfk
        obtain ⟨x0, x1, x2, x3⟩ := q
        unfold FitLa at hfk
        simp only at hfk d0 d1 d2 d3
        have hb1 : Below wr.heap.size wr (wr.alloc (.cells #[.int .i8 x0, .int .i8 x1, .int .i16 x2, .int .i16 x3] 67)) := (Below.refl _ _).alloc (Nat.le_refl _) _
        have BX : BlkA (wr.alloc (.cells #[.int .i8 x0, .int .i8 x1, .int .i16 x2, .int .i16 x3] 67)) wr.heap.size 67 #[.int .i8 x0, .int .i8 x1, .int .i16 x2, .int .i16 x3] := BlkA.new rfl _ _
        have HB1 := Lib.hid hb1
        have HBX := Lib.hid BX
        have HD := Lib.hid (idel_any x0 x1 x2 x3 s Bs _ hfk.1 hfk.2.1 ((hb1.cell (p := ⟨Bs, 0, none⟩) (World.block_lt_of_cell? _ _ hsr)).trans hsr))
        obtain ⟨r, hr⟩ : ∃ r, delB s (x0, x1, x2, x3) = r := ⟨_, rfl⟩
        rw [hr] at HD
        have HRR := Lib.hid hr
        have hgr : g < wr.heap.size := Nat.lt_of_lt_of_le hgl hwsz
        clear hq hown hb hm hR hb1 BX hr hfk
        go_wp2_with fail
        refine HD.out.mono ?_
        rintro e w3 ⟨rfl, b3⟩
        have hHO3 := row_keepD (row_keepD HOW.out HB1.out) b3
        have bx3 := HBX.out.below b3
        have HB3 : Hid (Below B w w3) := Lib.hid ((HBB.out.trans (HB1.out.mono hBwr)).trans (b3.mono (Nat.le_trans hBwr HB1.out.size)))
        cases r
        · have t0 : w3.cell? ⟨wr.heap.size, 0, none⟩ = some (.int .i8 x0) := bx3.at 0
          have t1 : w3.cell? ⟨wr.heap.size, 1, none⟩ = some (.int .i8 x1) := bx3.at 1
          have t2 : w3.cell? ⟨wr.heap.size, 2, none⟩ = some (.int .i16 x2) := bx3.at 2
          have t3 : w3.cell? ⟨wr.heap.size, 3, none⟩ = some (.int .i16 x3) := bx3.at 3
          have f0 := hHO3.frozenAt (c * 4)
          have f1 := hHO3.frozenAt (c * 4 + 1)
          have f2 := hHO3.frozenAt (c * 4 + 2)
          have f3 := hHO3.frozenAt (c * 4 + 3)
          have e0 := hHO3.cellAt (c * 4) (by omega)
          have e1 := hHO3.cellAt (c * 4 + 1) (by omega)
          have e2 := hHO3.cellAt (c * 4 + 2) (by omega)
          have e3 := hHO3.cellAt (c * 4 + 3) (by omega)
          rw [flatLa_0 _ _ (by rw [hXl]; omega)] at e0
          rw [flatLa_1 _ _ (by rw [hXl]; omega)] at e1
          rw [flatLa_2 _ _ (by rw [hXl]; omega)] at e2
          rw [flatLa_3 _ _ (by rw [hXl]; omega)] at e3
          have S1 := (hHO3.stored (c * 4) (.int .i8 x0)).1
          have S2 := (S1.stored (c * 4 + 1) (.int .i8 x1)).1
          have S3 := (S2.stored (c * 4 + 2) (.int .i16 x2)).1
          have S4 := (S3.stored (c * 4 + 3) (.int .i16 x3)).1
          rw [flatLa_set _ _ _ _ _ _ (by rw [hXl]; omega)] at S4
          have HS4 := Lib.hid S4
          have HK := Lib.hid (HM.out.keep (by rw [HL.out]; exact hlt) HQ.out HRR.out)
          have hcl : (c : Int) < (len : Int) := by omega
          have hkk : c + 1 ≤ len := by omega
          clear S1 S2 S3 S4 hHO3 bx3 b3 HD d0 d1 d2 d3 hsr
          go_wp2_with fail
          go_roundw
          case rel => exact ⟨c + 1, k + 1, _, by go_num, by go_num, by omega, HK.out, HS4.out, ((((HB3.out.setCell hBg _).setCell hBg _).setCell hBg _).setCell hBg _)⟩
          case measure => simp [intOf]; omega
        · have HDr := Lib.hid (HM.out.drop (by rw [HL.out]; exact hlt) HQ.out HRR.out)
          have HO4 := Lib.hid hHO3
          clear hHO3 bx3 b3 HD d0 d1 d2 d3 hsr
          go_wp2_with fail
          go_roundw
          case rel => exact ⟨c, k + 1, X, by go_num, by go_num, by omega, HDr.out, HO4.out, HB3.out⟩
          case measure => simp [intOf]; omega
      · have hk' : k = len := by omega
        subst hk'
        have hLk := HL.out
        have hm2 : MidD s L L.length c X := by rw [hLk]; exact hm
        have hXl : X.length = k := by rw [hm.len, hLk]
        have hck := hm.lt
        have hwl : c = (woL s L).length := hm2.fin.2
        have hown' : OwnLa 67 B wr (.slice (some ⟨g, 0, none⟩) X.length cap) X := by unfold OwnLa; rw [hXl]; exact hown
        have hcap : k ≤ cap := by
          rcases hown'.cases with ⟨h, _⟩ | ⟨g', c', h, _, h2, h3, _⟩
          · cases h
          · simp only [Value.slice.injEq, Option.some.injEq, Addr.mk.injEq, and_true, true_and] at h; omega
        obtain ⟨w4, hc4, ho4, hg4⟩ := clear_La wr B 0 g cap c X (by omega) hown'
        have hcl4 : ∀ ty, (Builtin.clear_ #[33] ty #[.slice (some ⟨g, c * 4, none⟩) (k - c) (cap - c)]).run Try.prog wr = .ok (.tuple #[]) w4 := fun ty => by rw [← hXl]; exact hc4
        have HFIN : Hid (CellsLa w4 g (woL s L)) := Lib.hid (by
          rcases ho4.cases with ⟨h, _⟩ | ⟨g', c', h, _, _, _, _, h4, _⟩
          · cases h
          · simp only [Value.slice.injEq, Option.some.injEq, Addr.mk.injEq, and_true] at h
            obtain ⟨rfl, _⟩ := h
            rw [← hm2.fin.1]
            exact h4.takeC (by omega))
        have HB4 : Hid (Below B w w4) := Lib.hid (hb.grown hg4 hBwr (fun j hj => by simp at hj; omega))
        have hckz : (c : Int) ≤ (k : Int) := by omega
        have hclen : c ≤ k := by omega
        have HWC := Lib.hid hwl
        clear hc4 ho4 hg4 hown' hown hm hm2 hb hwl
        go_wp2_with fail
        go_ret
        exact ⟨by rw [← HWC.out]; rfl, HFIN.out, HB4.out⟩
set_option maxHeartbeats 1000000 in
theorem idelf_nil (s : Int) (Bs : Nat) (w : World) (hs : w.cell? ⟨Bs, 0, none⟩ = some (.int .i64 s)) :
    Calls Try.prog 86 #[.slice none 0 0, .func (.func 88) #[] #[.pointer (some ⟨Bs, 0, none⟩)]] w fun e w' => e = .returned (.slice none 0 0) ∧ Below w.heap.size w w' := by
  have HI := Lib.hid (iidxf_any (.slice none 0 0) [] s Bs w (fun i hi => absurd hi (by simp)) (by simp) ⟨none, 0, rfl, fun h => absurd rfl h⟩ hs)
  go_enter Try.func86, Try.ntmps86
  go_wp2_with fail
  refine HI.out.mono ?_
  rintro e w2 ⟨rfl, b2⟩
  have HB := Lib.hid b2
  clear b2
  simp only [List.length_nil, fstD]
  go_wp2_with fail
  go_ret
  exact ⟨rfl, HB.out⟩
theorem CellsLa.otherD {w : World} {g : Nat} {L : List Lan} (h : CellsLa w g L) (p : Addr) (u : Value) (hp : p.block ≠ g) : CellsLa (w.setCell p u) g L := fun i hi => by
  obtain ⟨h0, h1, h2, h3⟩ := h i hi
  have k : ∀ o, (w.setCell p u).cell? ⟨g, o, none⟩ = w.cell? ⟨g, o, none⟩ := fun o => World.cell?_of_block (w := w) (a := ⟨g, o, none⟩) (heap_setCell_other w p g u (fun e => hp e.symm))
  rw [k, k, k, k]
  exact ⟨h0, h1, h2, h3⟩
end Go.Proofs.Ytlempmahkeilpaa
/-
  Net.without.
-/
namespace Go.Proofs.Ytlempmahkeilpaa
open Go Go.RowKit
set_option linter.unusedVariables false

theorem cloneLan_any (v : Value) (ps : List Lan) (hm : ps.length ≤ 1048576) (w : World) (hv : ReadsLa w v ps) :
    Calls Try.prog 87 #[v] w fun e w' => ∃ u, e = .returned u ∧ OwnLa 67 w.heap.size w' u ps ∧ Below w.heap.size w w' := by
  obtain ⟨a, cap, rfl, h⟩ := hv
  by_cases h0 : ps = []
  · subst h0; exact cloneLan_nil a cap w
  · obtain ⟨b, rfl, hc⟩ := h h0
    exact cloneLan_row b cap ps hm w hc

set_option maxHeartbeats 4000000 in
set_option maxRecDepth 100000 in
theorem iwo_any (st sy s : Int) (v : Value) (ps : List Lan) (w : World) (hf : FitsLa ps) (hl : ps.length ≤ 1048576) (hv : ReadsLa w v ps) :
    Calls Try.prog 59 #[netV st sy v, .int .i64 s] w fun e w' => ∃ u, e = .returned (netV st sy u) ∧ ReadsLa w' u (woL s ps) ∧ Below w.heap.size w w' := by
  have b1 : Below w.heap.size w (((w.alloc (.cells #[.int .i8 st, .int .i16 sy, v] 35)).alloc (.cells #[.int .i64 s] 2)).alloc (.cells #[.int .i8 0, .int .i16 0, .slice none 0 0] 35)) := (((Below.refl _ _).alloc (Nat.le_refl _) _).alloc (by simp) _).alloc (by simp; omega) _
  have n1 : BlkA (((w.alloc (.cells #[.int .i8 st, .int .i16 sy, v] 35)).alloc (.cells #[.int .i64 s] 2)).alloc (.cells #[.int .i8 0, .int .i16 0, .slice none 0 0] 35)) w.heap.size 35 #[.int .i8 st, .int .i16 sy, v] := ((BlkA.new rfl _ _).alloc _).alloc _
  have n2 : BlkA (((w.alloc (.cells #[.int .i8 st, .int .i16 sy, v] 35)).alloc (.cells #[.int .i64 s] 2)).alloc (.cells #[.int .i8 0, .int .i16 0, .slice none 0 0] 35)) (w.heap.size + 1) 2 #[.int .i64 s] := (BlkA.new (by simp) _ _).alloc _
  have n3 : BlkA (((w.alloc (.cells #[.int .i8 st, .int .i16 sy, v] 35)).alloc (.cells #[.int .i64 s] 2)).alloc (.cells #[.int .i8 0, .int .i16 0, .slice none 0 0] 35)) (w.heap.size + 1 + 1) 35 #[.int .i8 0, .int .i16 0, .slice none 0 0] := BlkA.new (by simp) _ _
  go_enter Try.func59, Try.ntmps59
  go_wp2_with fail
  obtain ⟨W, hW⟩ : ∃ W, (((w.alloc (.cells #[.int .i8 st, .int .i16 sy, v] 35)).alloc (.cells #[.int .i64 s] 2)).alloc (.cells #[.int .i8 0, .int .i16 0, .slice none 0 0] 35)) = W := ⟨_, rfl⟩
  rw [hW] at b1 n1 n2 n3 ⊢
  have hws : w.heap.size + 1 + 1 < W.heap.size := n3.lt
  have hvW := hv.below b1
  have b1s := b1.size
  clear hW hv
  refine (cloneLan_any v ps hl W hvW).mono ?_
  rintro e w4 ⟨u, rfl, o4, b4⟩
  have m1 := n1.below b4
  have m2 := n2.below b4
  have m3 := n3.below b4
  have c2 : w4.cell? ⟨w.heap.size + 1, 0, none⟩ = some (.int .i64 s) := m2.at 0
  have hszW : W.heap.size ≤ w4.heap.size := b4.size
  have hdel : Calls Try.prog 86 #[u, .func (.func 88) #[] #[.pointer (some ⟨w.heap.size + 1, 0, none⟩)]] w4 fun e w' => ∃ a n, e = .returned (.slice a (woL s ps).length n) ∧ (woL s ps ≠ [] → ∃ g, a = some ⟨g, 0, none⟩ ∧ W.heap.size ≤ g ∧ CellsLa w' g (woL s ps)) ∧ Below W.heap.size w4 w' := by
    rcases o4.cases with ⟨rfl, rfl⟩ | ⟨g, cap, rfl, q1, _⟩
    · refine (idelf_nil s _ w4 c2).mono ?_
      rintro e w' ⟨rfl, b⟩
      exact ⟨none, 0, rfl, fun h => absurd rfl h, b.mono hszW⟩
    · refine (idelf_any W.heap.size g cap ps s _ w4 hf hl o4 q1 hszW c2 (by omega)).mono ?_
      rintro e w' ⟨rfl, hc, b⟩
      exact ⟨_, _, rfl, fun _ => ⟨g, rfl, q1, hc⟩, b⟩
  have HDE := Lib.hid hdel
  have HB4 := Lib.hid (b1.trans (b4.mono b1.size))
  have M1 := Lib.hid m1
  have M2 := Lib.hid m2
  have M3 := Lib.hid m3
  clear hdel o4 b4 hvW n1 n2 n3 m1 m2 m3 c2
  go_wp2_with fail
  refine HDE.out.mono ?_
  rintro e w5 ⟨a, n, rfl, hc5, b5⟩
  have k1 : BlkA w5 w.heap.size 35 #[.int .i8 st, .int .i16 sy, v] := by unfold BlkA; rw [b5.block _ (by omega)]; exact M1.out
  have k3 : BlkA w5 (w.heap.size + 1 + 1) 35 #[.int .i8 0, .int .i16 0, .slice none 0 0] := by unfold BlkA; rw [b5.block _ (by omega)]; exact M3.out
  have HC5 := Lib.hid hc5
  have HB5 := Lib.hid (HB4.out.trans (b5.mono b1s))
  have c10 : w5.cell? ⟨w.heap.size, 0, none⟩ = some (.int .i8 st) := k1.at 0
  have c11 : w5.cell? ⟨w.heap.size, 1, none⟩ = some (.int .i16 sy) := k1.at 1
  have c12 : w5.cell? ⟨w.heap.size, 2, none⟩ = some v := k1.at 2
  have f10 := k1.frozen 0
  have f11 := k1.frozen 1
  have f12 := k1.frozen 2
  have c30 : w5.cell? ⟨w.heap.size + 1 + 1, 0, none⟩ = some (.int .i8 0) := k3.at 0
  have c31 : w5.cell? ⟨w.heap.size + 1 + 1, 1, none⟩ = some (.int .i16 0) := k3.at 1
  have c32 : w5.cell? ⟨w.heap.size + 1 + 1, 2, none⟩ = some (.slice none 0 0) := k3.at 2
  have f30 := k3.frozen 0
  have f31 := k3.frozen 1
  have f32 := k3.frozen 2
  have d1 : ¬ w.heap.size = w.heap.size + 1 + 1 := by omega
  have d2 : ¬ w.heap.size + 1 + 1 = w.heap.size := by omega
  obtain ⟨m, hm⟩ : ∃ m, (woL s ps).length = m := ⟨_, rfl⟩
  have HM := Lib.hid hm
  rw [hm]
  clear k1 k3 hc5 b5 hm HDE M1 M2 M3
  go_wp2_with fail
  refine bodyPost_ret (v := .agg #[.int .i8 st, .int .i16 sy, .slice a m n]) (by simp [results, Try.results59, go_sem, c30, c31, c32]) rfl ⟨.slice a m n, rfl, ⟨a, n, by rw [HM.out], fun h => ?_⟩, ?_⟩
  · obtain ⟨g, e, hg, hc⟩ := HC5.out h
    exact ⟨g, e, (((hc.otherD _ _ (by show w.heap.size ≠ g; omega)).otherD _ _ (by show w.heap.size + 1 + 1 ≠ g; omega)).otherD _ _ (by show w.heap.size + 1 + 1 ≠ g; omega)).otherD _ _ (by show w.heap.size + 1 + 1 ≠ g; omega)⟩
  · exact (((HB5.out.setCell (Nat.le_refl _) _).setCell (by show w.heap.size ≤ w.heap.size + 1 + 1; omega) _).setCell (by show w.heap.size ≤ w.heap.size + 1 + 1; omega) _).setCell (by show w.heap.size ≤ w.heap.size + 1 + 1; omega) _
end Go.Proofs.Ytlempmahkeilpaa
/-
  The model's MustPass.
-/
namespace Go.Proofs.Ytlempmahkeilpaa
open Go Go.RowKit
set_option linter.unusedVariables false

set_option maxHeartbeats 2000000 in
set_option maxRecDepth 100000 in
theorem smp_any (st sy : Int) (v : Value) (ps : List Lan) (x0 x1 y0 y1 : Int) (w : World) (hn : FitN st sy ps) (hx : FitSc (x0, x1)) (hy : FitSc (y0, y1)) (hv : ReadsLa w v ps) :
    Calls Try.prog 20 #[netV st sy v, .agg #[.int .i8 x0, .int .i16 x1], .agg #[.int .i8 y0, .int .i16 y1]] w (RetL1 w.heap.size w (mpR st sy ps x0 x1 y0 y1) (mpC st sy ps x0 x1 y0 y1)) := by
  obtain ⟨i0, hi, hz0, hz1, hz2⟩ := info_parts info_i64
  have HST := Lib.hid hn.s
  have HN := Lib.hid hn
  have HX := Lib.hid hx
  have HY := Lib.hid hy
  have b0 : Below w.heap.size w (((w.alloc (.cells #[.int .i8 st, .int .i16 sy, v] 35)).alloc (.cells #[.int .i8 x0, .int .i16 x1] 37)).alloc (.cells #[.int .i8 y0, .int .i16 y1] 37)) := (((Below.refl _ _).alloc (Nat.le_refl _) _).alloc (by simp) _).alloc (by simp; omega) _
  have BN : BlkA (((w.alloc (.cells #[.int .i8 st, .int .i16 sy, v] 35)).alloc (.cells #[.int .i8 x0, .int .i16 x1] 37)).alloc (.cells #[.int .i8 y0, .int .i16 y1] 37)) w.heap.size 35 (netB st sy v) := ((BlkA.new rfl _ _).alloc _).alloc _
  have BX : BlkA (((w.alloc (.cells #[.int .i8 st, .int .i16 sy, v] 35)).alloc (.cells #[.int .i8 x0, .int .i16 x1] 37)).alloc (.cells #[.int .i8 y0, .int .i16 y1] 37)) (w.heap.size + 1) 37 #[.int .i8 x0, .int .i16 x1] := (BlkA.new (by simp) _ _).alloc _
  have BY : BlkA (((w.alloc (.cells #[.int .i8 st, .int .i16 sy, v] 35)).alloc (.cells #[.int .i8 x0, .int .i16 x1] 37)).alloc (.cells #[.int .i8 y0, .int .i16 y1] 37)) (w.heap.size + 1 + 1) 37 #[.int .i8 y0, .int .i16 y1] := BlkA.new (by simp) _ _
  obtain ⟨W0, hW0⟩ : ∃ W, (((w.alloc (.cells #[.int .i8 st, .int .i16 sy, v] 35)).alloc (.cells #[.int .i8 x0, .int .i16 x1] 37)).alloc (.cells #[.int .i8 y0, .int .i16 y1] 37)) = W := ⟨_, rfl⟩
  rw [hW0] at b0 BN BX BY
  have hs0 : W0.heap.size = w.heap.size + 1 + 1 + 1 := by rw [← hW0]; simp
  have ho1 : (W0.alloc (.cells #[] 2)).ownsRow W0.heap.size 2 1 (.slice (some ⟨W0.heap.size, 0, none⟩) 0 0) 0 [] := World.ownsRow_made W0 #[] 0 (Nat.le_refl _) (Nat.zero_le _) rfl
  have b1 : Below W0.heap.size W0 (W0.alloc (.cells #[] 2)) := (Below.refl _ _).alloc (Nat.le_refl _) _
  obtain ⟨W1, hW⟩ : ∃ W, W0.alloc (.cells #[] 2) = W := ⟨_, rfl⟩
  rw [hW] at b1 ho1
  rw [hs0] at ho1
  have HO1 : Hid (OwnI W0.heap.size W1 (.slice (some ⟨w.heap.size + 1 + 1 + 1, 0, none⟩) 0 0) []) := Lib.hid (by rw [hs0]; exact ho1)
  have HB0 := Lib.hid b0
  have HB1 := Lib.hid b1
  have HBN := Lib.hid BN
  have HBX := Lib.hid BX
  have HBY := Lib.hid BY
  have HV0 := Lib.hid (hv.below b0)
  rw [← hW0] at hW
  have HW := Lib.hid hW
  clear hW hW0 b0 b1 BN BX BY hn hx hy hv ho1 hs0
  go_enter Try.func20, Try.ntmps20
  go_wp2_with fail
  rw [HW.out]
  refine (sscan_any w.heap.size st sy v x0 x1 W1 HST.out HX.out (HBN.out.below HB1.out)).mono ?_
  rintro e w2 ⟨rfl, b2⟩
  have HB2 := Lib.hid (blink HB1.out b2)
  have by2 := HBY.out.below HB2.out
  have y0c : w2.cell? ⟨w.heap.size + 1 + 1, 0, none⟩ = some (.int .i8 y0) := by2.at 0
  have y1c : w2.cell? ⟨w.heap.size + 1 + 1, 1, none⟩ = some (.int .i16 y1) := by2.at 1
  have HCG : Hid (∀ c, askC st sy ps (scB st x0 x1 && scB st y0 y1) = c → cgC st sy ps x0 x1 y0 y1 = c) := Lib.hid (fun c h => h)
  obtain ⟨p, hp⟩ : ∃ p, scB st x0 x1 = p := ⟨_, rfl⟩
  obtain ⟨q, hq⟩ : ∃ q, scB st y0 y1 = q := ⟨_, rfl⟩
  have HP := Lib.hid hp
  have HQ := Lib.hid hq
  rw [hp, hq] at HCG
  rw [hp]
  have HO2 := Lib.hid (HO1.out.below b2)
  have HSW := Lib.hid HB0.out.size
  clear hp hq b2 by2
  cases p with
  | false =>
    go_wp2_with fail
    refine (sasked_any w.heap.size st sy v ps false w2 HN.out (HV0.out.below HB2.out) (HBN.out.below HB2.out)).mono ?_
    rintro e w3 ⟨rfl, b3⟩
    have HB3 := Lib.hid (blink HB2.out b3)
    have HO3 := Lib.hid (HO2.out.below b3)
    obtain ⟨c, hc⟩ : ∃ c, askC st sy ps false = c := ⟨_, rfl⟩
    have HCD : Hid (cgC st sy ps x0 x1 y0 y1 = c) := Lib.hid (HCG.out c (by rw [Bool.false_and]; exact hc))
    have hne : c ≠ 0 := fun h => by have := (askC_ok (hc.trans h)).2; cases this
    have HMC : Hid (mpC st sy ps x0 x1 y0 y1 = c) := Lib.hid (by unfold mpC; rw [HCD.out, if_neg hne])
    have HR : Hid (mpR st sy ps x0 x1 y0 y1 = []) := Lib.hid (by unfold mpR; rw [HMC.out, if_neg hne])
    rw [hc]
    have t0 : (c == 0) = false := by simp [hne]
    have t1 : (c != 0) = true := by simp [hne]
    clear hc hne b3 y0c y1c
    go_wp2_with fail
    go_ret2
    exact ⟨_, ret_pair HMC.out.symm, by rw [HR.out]; exact HO3.out.mono HSW.out, blink HB0.out HB3.out⟩
  | true =>
    go_wp2_with fail
    refine (sscan_any w.heap.size st sy v y0 y1 w2 HST.out HY.out (HBN.out.below HB2.out)).mono ?_
    rintro e w3 ⟨rfl, b3⟩
    rw [HQ.out]
    have HB3 := Lib.hid (blink HB2.out b3)
    have HO3 := Lib.hid (HO2.out.below b3)
    clear b3 y0c y1c
    go_wp2_with fail
    refine (sasked_any w.heap.size st sy v ps q w3 HN.out (HV0.out.below HB3.out) (HBN.out.below HB3.out)).mono ?_
    rintro e w4 ⟨rfl, b4⟩
    have HB4 := Lib.hid (blink HB3.out b4)
    have HO4 := Lib.hid (HO3.out.below b4)
    obtain ⟨c, hc⟩ : ∃ c, askC st sy ps q = c := ⟨_, rfl⟩
    have HCD : Hid (cgC st sy ps x0 x1 y0 y1 = c) := Lib.hid (HCG.out c (by rw [Bool.true_and]; exact hc))
    have HC := Lib.hid hc
    rw [hc]
    have bx4 := HBX.out.below HB4.out
    have by4 := HBY.out.below HB4.out
    have c0 : w4.cell? ⟨w.heap.size + 1, 0, none⟩ = some (.int .i8 x0) := bx4.at 0
    have c1 : w4.cell? ⟨w.heap.size + 1, 1, none⟩ = some (.int .i16 x1) := bx4.at 1
    have d0 : w4.cell? ⟨w.heap.size + 1 + 1, 0, none⟩ = some (.int .i8 y0) := by4.at 0
    have d1 : w4.cell? ⟨w.heap.size + 1 + 1, 1, none⟩ = some (.int .i16 y1) := by4.at 1
    clear hc b4 bx4 by4
    by_cases h0 : c = 0
    rotate_left
    · have HMC : Hid (mpC st sy ps x0 x1 y0 y1 = c) := Lib.hid (by unfold mpC; rw [HCD.out, if_neg h0])
      have HR : Hid (mpR st sy ps x0 x1 y0 y1 = []) := Lib.hid (by unfold mpR; rw [HMC.out, if_neg h0])
      have t0 : (c == 0) = false := by simp [h0]
      have t1 : (c != 0) = true := by simp [h0]
      clear h0
      go_wp2_with fail
      go_ret2
      exact ⟨_, ret_pair HMC.out.symm, by rw [HR.out]; exact HO4.out.mono HSW.out, blink HB0.out HB4.out⟩
    subst h0
    have HOK : Hid (okNet st sy ps) := Lib.hid (vldN_spec (askC_ok HC.out).1)
    have HQT : Hid (q = true) := Lib.hid (askC_ok HC.out).2
    go_wp2_with fail
    obtain ⟨sn, yn, rfl, rfl⟩ := net_nat HOK.out
    obtain ⟨s0, h0, rfl, rfl, hs0, hh0⟩ := scan_nats HOK.out.1.2 HP.out
    obtain ⟨s1, h1, rfl, rfl, hs1, hh1⟩ := scan_nats HOK.out.1.2 (HQ.out.trans HQT.out)
    have hsn8 : sn ≤ 8 := by have := HOK.out.1.2; omega
    refine (sgoes_any w.heap.size sn yn v ps s0 h0 s1 h1 (-1) HOK.out hs0 hh0 hs1 hh1 (by omega) w4 (HV0.out.below HB4.out) (HBN.out.below HB4.out)).mono ?_
    rintro e w5 ⟨r, rfl, hr, b5⟩
    have HR5 : Hid (r = cgR (sn : Int) (yn : Int) ps s0 h0 s1 h1) := Lib.hid (by
      unfold cgR
      rw [if_pos HCD.out]
      exact arrB_of (by simpa using hr))
    have HB5 := Lib.hid (blink HB4.out b5)
    have HO5 := Lib.hid (HO4.out.below b5)
    clear hr b5 c0 c1 d0 d1
    cases r
    · have HMC : Hid (mpC (sn : Int) (yn : Int) ps s0 h0 s1 h1 = 6) := Lib.hid (by unfold mpC; rw [if_pos HCD.out, ← HR5.out, if_neg (by decide)])
      have HR : Hid (mpR (sn : Int) (yn : Int) ps s0 h0 s1 h1 = []) := Lib.hid (by unfold mpR; rw [HMC.out, if_neg (by decide)])
      go_wp2_with fail
      go_ret2
      exact ⟨_, ret_pair HMC.out.symm, by rw [HR.out]; exact HO5.out.mono HSW.out, blink HB0.out HB5.out⟩
    have HMC : Hid (mpC (sn : Int) (yn : Int) ps s0 h0 s1 h1 = 0) := Lib.hid (by unfold mpC; rw [if_pos HCD.out, ← HR5.out, if_pos rfl])
    have HR : Hid (mpR (sn : Int) (yn : Int) ps s0 h0 s1 h1 = mpL ps (yn : Int) s0 h0 s1 h1 sn) := Lib.hid (by unfold mpR; rw [if_pos HMC.out, Int.toNat_natCast])
    have HGO : Hid (∀ (k : Nat) W, k < sn → Below W0.heap.size W0 W → Calls Try.prog 50 #[.pointer (some ⟨w.heap.size, 0, none⟩), .agg #[.int .i8 (s0 : Int), .int .i16 (h0 : Int)], .agg #[.int .i8 (s1 : Int), .int .i16 (h1 : Int)], .int .i64 (k : Int)] W fun e w' => e = .returned (.bool (arrB ps (k : Int) (yn : Int) s0 h0 s1 h1)) ∧ Below W.heap.size W w') := Lib.hid (fun k W hk hW => by
      refine (sgoes_any w.heap.size sn yn v ps s0 h0 s1 h1 (k : Int) HOK.out hs0 hh0 hs1 hh1 (by omega) W (HV0.out.below hW) (HBN.out.below hW)).mono ?_
      rintro e w9 ⟨r, rfl, hr, b9⟩
      exact ⟨ret_bool (arrB_of (by simpa using hr)), b9⟩)
    go_wp2_with fail
    go_loopw [8, 10] (fun gv i wr => ∃ k : Nat, k ≤ sn ∧ i = .int .i64 k ∧ OwnI W0.heap.size wr gv (mpL ps (yn : Int) s0 h0 s1 h1 k) ∧ Below W0.heap.size W0 wr) (fun _ i _ => sn - (intOf i).toNat)
    case atStart => exact ⟨0, Nat.zero_le _, rfl, HO5.out, HB5.out⟩
    case round =>
      obtain ⟨k, hk, rfl, hown, hnx⟩ := hrel
      obtain ⟨wo, rfl⟩ : ∃ W, W = wr := ⟨_, rfl⟩
      have HNX := Lib.hid hnx
      have HOW := Lib.hid hown
      have n0 : wo.cell? ⟨w.heap.size, 0, none⟩ = some (.int .i8 (sn : Int)) := (HBN.out.below hnx).at 0
      by_cases hlt : k < sn
      · have hkl : (k : Int) < (sn : Int) := by omega
        have hk0 : (0 : Int) ≤ (k : Int) := by omega
        have c0 : wo.cell? ⟨w.heap.size + 1, 0, none⟩ = some (.int .i8 (s0 : Int)) := (HBX.out.below hnx).at 0
        have c1 : wo.cell? ⟨w.heap.size + 1, 1, none⟩ = some (.int .i16 (h0 : Int)) := (HBX.out.below hnx).at 1
        have d0 : wo.cell? ⟨w.heap.size + 1 + 1, 0, none⟩ = some (.int .i8 (s1 : Int)) := (HBY.out.below hnx).at 0
        have d1 : wo.cell? ⟨w.heap.size + 1 + 1, 1, none⟩ = some (.int .i16 (h1 : Int)) := (HBY.out.below hnx).at 1
        have HY2 := Lib.hid (mpL_yes (ps := ps) (sy := (yn : Int)) (x0 := (s0 : Int)) (x1 := (h0 : Int)) (y0 := (s1 : Int)) (y1 := (h1 : Int)) (k := k))
        have HN2 := Lib.hid (mpL_no (ps := ps) (sy := (yn : Int)) (x0 := (s0 : Int)) (x1 := (h0 : Int)) (y0 := (s1 : Int)) (y1 := (h1 : Int)) (k := k))
        have HGK := Lib.hid (HGO.out k wo hlt hnx)
        have hfl := mpL_len ps (yn : Int) s0 h0 s1 h1 k
        have hsz : W0.heap.size ≤ wo.heap.size := hnx.size
        clear hown hnx
        by_cases e1 : k = s0
        · have HL := Lib.hid (HN2.out (by unfold mpG; rw [decide_eq_false (by omega)]; rfl))
          have u1 : ((k : Int) != (s0 : Int)) = false := by simp [e1]
          have u1' : ((k : Int) == (s0 : Int)) = true := by simp [e1]
          have HO' : Hid (OwnI W0.heap.size wo _ (mpL ps (yn : Int) s0 h0 s1 h1 (k + 1))) := Lib.hid (by rw [HL.out]; exact HOW.out)
          clear HY2 HN2
          go_wp2_with fail
          go_roundw
          case rel => exact ⟨k + 1, by omega, by go_num, HO'.out, HNX.out⟩
          case measure => simp [intOf]; omega
        · have u1 : ((k : Int) != (s0 : Int)) = true := by simp; omega
          have u1' : ((k : Int) == (s0 : Int)) = false := by simp; omega
          by_cases e2 : k = s1
          · have HL := Lib.hid (HN2.out (by unfold mpG; rw [decide_eq_false (p := ((k : Int) ≠ (s1 : Int))) (by omega)]; simp))
            have u2 : ((k : Int) != (s1 : Int)) = false := by simp [e2]
            have u2' : ((k : Int) == (s1 : Int)) = true := by simp [e2]
            have HO' : Hid (OwnI W0.heap.size wo _ (mpL ps (yn : Int) s0 h0 s1 h1 (k + 1))) := Lib.hid (by rw [HL.out]; exact HOW.out)
            clear HY2 HN2
            go_wp2_with fail
            go_roundw
            case rel => exact ⟨k + 1, by omega, by go_num, HO'.out, HNX.out⟩
            case measure => simp [intOf]; omega
          · have u2 : ((k : Int) != (s1 : Int)) = true := by simp; omega
            have u2' : ((k : Int) == (s1 : Int)) = false := by simp; omega
            have HMG : Hid (mpG ps (yn : Int) s0 h0 s1 h1 (k : Int) = !arrB ps (k : Int) (yn : Int) s0 h0 s1 h1) := Lib.hid (by unfold mpG; rw [decide_eq_true (p := ((k : Int) ≠ (s0 : Int))) (by omega), decide_eq_true (p := ((k : Int) ≠ (s1 : Int))) (by omega), Bool.true_and, Bool.true_and])
            obtain ⟨r, hr⟩ : ∃ r, arrB ps (k : Int) (yn : Int) s0 h0 s1 h1 = r := ⟨_, rfl⟩
            rw [hr] at HMG HGK
            clear hr
            go_wp2_with fail
            refine HGK.out.mono ?_
            rintro e w7 ⟨rfl, b7⟩
            have HN7 := Lib.hid (blink HNX.out b7)
            have hown := HOW.out.below b7
            have hs7 : W0.heap.size ≤ w7.heap.size := HN7.out.size
            clear b7 HGK c0 c1 d0 d1 n0
            cases r
            · have HL := Lib.hid (HY2.out (by rw [HMG.out]; rfl))
              clear HY2 HN2
              have hown : w7.ownsRow W0.heap.size 2 1 _ _ _ := hown
              go_wp2_with (at_builtin; refine wpList_append_own _ rfl _ _ 30 rfl W0.heap.size 2 i0 (.int .i64 0) 1 8 Try.underlying30 hi hz0 hz1 hz2 rfl (by decide) _ _ _ rfl (hown.alloc _) ⟨w7.heap.size, 0, none⟩ 1 1 [.int .i64 (k : Int)] rfl rfl ?c1 ?c2 ?c3 ?c4 ?c5 ?_)
              case c1 =>
                intro j u hj
                match j, hj with
                | 0, hj => simp at hj; subst hj; simp [Addr.add]
              case c2 => intro u hu; simp at hu; subst hu; rfl
              case c3 => unfold maxLen; omega
              case c4 => omega
              case c5 => simp; omega
              intro v' w9 hown' hgrow _
              have HO' : Hid (OwnI W0.heap.size w9 v' (mpL ps (yn : Int) s0 h0 s1 h1 (k + 1))) := Lib.hid (by
                unfold OwnI
                rw [HL.out, List.map_append, List.length_append]; exact hown')
              have HN' : Hid (Below W0.heap.size W0 w9) := Lib.hid ((HN7.out.alloc hs7 _).grown hgrow (by simp; omega) (fun i hi => (hown.lt i hi).1))
              clear hown' hgrow hown
              go_wp2
              go_roundw
              case rel => exact ⟨k + 1, by omega, by go_num, HO'.out, HN'.out⟩
              case measure => simp [intOf]; omega
            · have HL := Lib.hid (HN2.out (by rw [HMG.out]; rfl))
              have HO' : Hid (OwnI W0.heap.size w7 _ (mpL ps (yn : Int) s0 h0 s1 h1 (k + 1))) := Lib.hid (by rw [HL.out]; exact hown)
              clear HY2 HN2 hown
              go_wp2_with fail
              go_roundw
              case rel => exact ⟨k + 1, by omega, by go_num, HO'.out, HN7.out⟩
              case measure => simp [intOf]; omega
      · have hk' : k = sn := by omega
        have HO' : Hid (OwnI W0.heap.size wo _ (mpR (sn : Int) (yn : Int) ps s0 h0 s1 h1)) := Lib.hid (by rw [HR.out, ← hk']; exact hown)
        have HBF : Hid (Below w.heap.size w wo) := Lib.hid (blink HB0.out hnx)
        clear hown hnx hk'
        go_wp2_with fail
        go_ret2
        exact ⟨_, ret_pair HMC.out.symm, HO'.out.mono HSW.out, HBF.out⟩
end Go.Proofs.Ytlempmahkeilpaa
/-
  The least hour of a set; the stations of a net, one after the other.
-/
namespace Go.Proofs.Ytlempmahkeilpaa
open Go Go.RowKit Go.Shelf
set_option linter.unusedVariables false
attribute [local go_sem] Oper.semAt_some

/-- The least hour, or -1. -/
def frst (p : Nat → Bool) : Int := (hourTo p 301).headD (-1)

set_option maxHeartbeats 1000000 in
theorem istats_any (st sy : Int) (v : Value) (w : World) :
    Calls Try.prog 44 #[.agg #[.int .i8 st, .int .i16 sy, v]] w fun e w' => e = .returned (.func (.func 81) #[] #[.pointer (some ⟨w.heap.size, 0, none⟩)]) ∧ w' = w.alloc (.cells #[.int .i8 st, .int .i16 sy, v] 35) := by
  go_enter Try.func44, Try.ntmps44
  go_wp2_with fail
  go_ret
  exact ⟨rfl, rfl⟩

set_option maxRecDepth 100000 in
set_option maxHeartbeats 1000000 in
theorem stat1_in (n : Nat) (hn : 2 ≤ n) (l Bn : Nat) (sn : Nat) (hs8 : sn ≤ 8) (J : List Nat → World → Prop) (W : World) (hJ : UpFrom W.heap.size J)
    (hY : ∀ pre x W1, J pre W1 → pre.length < 8 → YieldAt Fence.wide (n - 1) Try.prog l #[.int .i64 ((x : Nat) : Int)] W1 fun e W' => e = .returned (.bool true) ∧ J (pre ++ [x]) W' ∧ KeepsUp W.heap.size W1 W')
    (hBn : W.cell? ⟨Bn, 0, none⟩ = some (.int .i8 (sn : Int))) (h0 : J [] W) :
    CallsIn Fence.wide n Try.prog 81 #[.func (.yield l) #[] #[], .pointer (some ⟨Bn, 0, none⟩)] W fun e W' => (∃ v, e = .returned v) ∧ ∃ xs, xs = List.range sn ∧ J xs W' := by
  have hro : Fence.wide.round = none := rfl
  have hFF : ∀ f, Fence.wide.fn f := fun _ => trivial
  have HY := Lib.hid hY
  have hn1 : 1 ≤ n := by omega
  clear hY hJ
  refine callsIn_of_wp Try.func81 rfl (hFF _) ?_ hro
  simp only [Try.ntmps81, List.size_toArray, List.length_cons, List.length_nil, Nat.reduceAdd, Nat.reduceSub, Array.replicate_succ, Array.replicate_zero, List.push_toArray, List.append_toArray, List.nil_append, List.cons_append]
  gi_wp2
  gi_loopw [7] (fun i wr => ∃ k : Nat, k ≤ sn ∧ i = .int .i64 k ∧ J (List.range k) wr) (fun i _ => sn - (intOf i).toNat)
  case atStart => exact ⟨0, Nat.zero_le _, rfl, h0⟩
  case round =>
    obtain ⟨k, hk, rfl, hJk⟩ := hrel
    by_cases hlt : k < sn
    · have hlti : (k : Int) < (sn : Int) := by omega
      obtain ⟨fn, tmps, assign, body, hyl, hR⟩ := HY.out (List.range k) k wr hJk (by simp; omega)
      rw [← List.range_succ] at hR
      gi_wp2
      refine hR.mono ?_
      rintro e W3 ⟨rfl, hJ3, hk3⟩
      have HJ3 := Lib.hid hJ3
      clear hJ3 hk3 hyl hR hJk
      gi_wp2
      go_roundw
      case rel => exact ⟨k + 1, by omega, by go_num, HJ3.out⟩
      case measure => simp [intOf]; omega
    · have hk' : k = sn := by omega
      have hlti : ¬ (k : Int) < (sn : Int) := by omega
      have HJK : Hid (J (List.range sn) wr) := Lib.hid (by rw [← hk']; exact hJk)
      clear hk' hJk
      gi_wp2
      go_end0
      first | exact ⟨⟨_, rfl⟩, _, rfl, HJK.out⟩ | exact ⟨⟨_, rfl⟩, HJK.out⟩
end Go.Proofs.Ytlempmahkeilpaa
/-
  The stations of a net, one after the other; a round may leave.
-/
namespace Go.Proofs.Ytlempmahkeilpaa
open Go Go.RowKit Go.Shelf
set_option linter.unusedVariables false
attribute [local go_sem] Oper.semAt_some

set_option maxRecDepth 100000 in
set_option maxHeartbeats 1000000 in
theorem stat_stops (n : Nat) (hn : 2 ≤ n) (Bn sn : Nat) (hs8 : sn ≤ 8) (w : World) (hBn : w.cell? ⟨Bn, 0, none⟩ = some (.int .i8 (sn : Int))) (hlt : Bn < w.heap.size) :
    SeqStopsK Fence.wide n Try.prog 81 #[.pointer (some ⟨Bn, 0, none⟩)] (fun x : Fin 8 => #[.int .i64 ((x.val : Nat) : Int)]) (fun _ _ => True) (fun xs => xs.map (·.val) = List.range sn) (fun pre => ∃ k, k < sn ∧ pre.map (·.val) = List.range (k + 1)) 8 w := by
  intro l J Jx W hW _ _ hY h0
  have hro : Fence.wide.round = none := rfl
  have hFF : ∀ f, Fence.wide.fn f := fun _ => trivial
  have HY := Lib.hid hY
  have hB : W.cell? ⟨Bn, 0, none⟩ = some (.int .i8 (sn : Int)) := (hW.cell (p := ⟨Bn, 0, none⟩) hlt).trans hBn
  have hn1 : 1 ≤ n := by omega
  clear hY hW hBn
  refine callsIn_of_wp Try.func81 rfl (hFF _) ?_ hro
  simp only [Try.ntmps81, List.size_toArray, List.length_cons, List.length_nil, Nat.reduceAdd, Nat.reduceSub, Array.replicate_succ, Array.replicate_zero, List.push_toArray, List.append_toArray, List.nil_append, List.cons_append]
  gi_wp2
  gi_loopw [7] (fun i wr => ∃ (k : Nat) (pre : List (Fin 8)), pre.map (·.val) = List.range k ∧ k ≤ sn ∧ i = .int .i64 k ∧ J pre wr) (fun i _ => sn - (intOf i).toNat)
  case atStart => exact ⟨0, [], rfl, Nat.zero_le _, rfl, h0⟩
  case round =>
    obtain ⟨k, pre, hpre, hk, rfl, hJk⟩ := hrel
    have hpl : pre.length = k := by have h := congrArg List.length hpre; simpa using h
    have HPRE := Lib.hid hpre
    have HPL := Lib.hid hpl
    clear hpre hpl
    by_cases hlt2 : k < sn
    · have hlti : (k : Int) < (sn : Int) := by omega
      obtain ⟨fn, tmps, assign, body, hyl, hR⟩ := HY.out pre ⟨k, by omega⟩ wr hJk (by have := HPL.out; omega)
      have HP2 : Hid ((pre ++ [(⟨k, by omega⟩ : Fin 8)]).map (·.val) = List.range (k + 1)) := Lib.hid (by rw [List.map_append, HPRE.out, List.range_succ]; rfl)
      gi_wp2
      refine hR.mono ?_
      rintro e W3 (⟨rfl, hJ3, _⟩ | ⟨rfl, hJx3⟩)
      · have HJ3 := Lib.hid hJ3
        clear hJ3 hyl hR hJk
        gi_wp2
        go_roundw
        case rel => exact ⟨k + 1, _, HP2.out, by omega, by go_num, HJ3.out⟩
        case measure => simp [intOf]; omega
      · have HJ3 := Lib.hid hJx3
        clear hJx3 hyl hR hJk
        gi_wp2
        refine bodyPost_ret (results_none rfl _ _ _) rfl ?_
        exact ⟨⟨_, rfl⟩, .inr ⟨_, ⟨k, hlt2, HP2.out⟩, HJ3.out⟩⟩
    · have hk' : k = sn := by omega
      have hlti : ¬ (k : Int) < (sn : Int) := by omega
      have HJK := Lib.hid hJk
      have HP3 : Hid (pre.map (·.val) = List.range sn) := Lib.hid (by rw [HPRE.out, hk'])
      clear hk' hJk
      gi_wp2
      go_end0
      exact ⟨⟨_, rfl⟩, .inl ⟨_, HP3.out, HJK.out⟩⟩
end Go.Proofs.Ytlempmahkeilpaa
/-
  The program's MustPass.
-/
namespace Go.Proofs.Ytlempmahkeilpaa
open Go Go.RowKit Go.Shelf
set_option linter.unusedVariables false
attribute [local go_sem] Oper.semAt_some

/-- The stations so far, out of those that came. -/
noncomputable def mpF (ps : List Lan) (sy x0 x1 y0 y1 : Int) (pre : List (Fin 8)) : List Int := (pre.filter fun s => mpG ps sy x0 x1 y0 y1 ((s.val : Nat) : Int)).map fun s => ((s.val : Nat) : Int)
theorem mpL_range (ps : List Lan) (sy x0 x1 y0 y1 : Int) : ∀ k, mpL ps sy x0 x1 y0 y1 k = ((List.range k).filter fun s : Nat => mpG ps sy x0 x1 y0 y1 (s : Int)).map fun s : Nat => (s : Int)
  | 0 => rfl
  | k + 1 => by
    rw [List.range_succ, List.filter_append, List.map_append, ← mpL_range ps sy x0 x1 y0 y1 k]
    cases h : mpG ps sy x0 x1 y0 y1 (k : Int)
    · rw [mpL_no h]; simp [h]
    · rw [mpL_yes h]; simp [h]
theorem mpF_all {ps : List Lan} {sy x0 x1 y0 y1 : Int} {xs : List (Fin 8)} {n : Nat} (h : xs.map (·.val) = List.range n) : mpF ps sy x0 x1 y0 y1 xs = mpL ps sy x0 x1 y0 y1 n := by
  rw [mpL_range, ← h, List.filter_map, List.map_map]
  rfl
theorem mpF_yes {ps : List Lan} {sy x0 x1 y0 y1 : Int} {pre : List (Fin 8)} {x : Fin 8} (h : mpG ps sy x0 x1 y0 y1 ((x.val : Nat) : Int) = true) : mpF ps sy x0 x1 y0 y1 (pre ++ [x]) = mpF ps sy x0 x1 y0 y1 pre ++ [((x.val : Nat) : Int)] := by
  unfold mpF; rw [List.filter_append, List.map_append]; simp [h]
theorem mpF_no {ps : List Lan} {sy x0 x1 y0 y1 : Int} {pre : List (Fin 8)} {x : Fin 8} (h : mpG ps sy x0 x1 y0 y1 ((x.val : Nat) : Int) = false) : mpF ps sy x0 x1 y0 y1 (pre ++ [x]) = mpF ps sy x0 x1 y0 y1 pre := by
  unfold mpF; rw [List.filter_append, List.map_append]; simp [h]
theorem mpF_len (ps : List Lan) (sy x0 x1 y0 y1 : Int) (pre : List (Fin 8)) : (mpF ps sy x0 x1 y0 y1 pre).length ≤ pre.length := by
  unfold mpF; rw [List.length_map]; exact List.length_filter_le _ _
theorem FitN.wo {st sy : Int} {ps : List Lan} (h : FitN st sy ps) (s : Int) : FitN st sy (woL s ps) :=
  ⟨h.s, h.y, fun p hp => h.l p (wo_mem.1 hp).1, Nat.le_trans (List.length_filter_le _ _) h.n⟩
theorem cgC_wo {st sy : Int} {ps : List Lan} {x0 x1 y0 y1 : Int} (h : cgC st sy ps x0 x1 y0 y1 = 0) (s : Int) : cgC st sy (woL s ps) x0 x1 y0 y1 = 0 := by
  have h1 := askC_ok (show askC st sy ps (scB st x0 x1 && scB st y0 y1) = 0 from h)
  unfold cgC askC
  rw [if_pos (vldN_true (wo_ok (vldN_spec h1.1) s)), if_pos h1.2]
theorem cgR_wo {st sy : Int} {ps : List Lan} {x0 x1 y0 y1 : Int} (h : cgC st sy ps x0 x1 y0 y1 = 0) (s : Int) : cgR st sy (woL s ps) x0 x1 y0 y1 = arrB ps s sy x0 x1 y0 y1 := by
  have h1 := askC_ok (show askC st sy ps (scB st x0 x1 && scB st y0 y1) = 0 from h)
  unfold cgR
  rw [if_pos (cgC_wo h s)]
  exact arrB_wo (vldN_spec h1.1) s x0 x1 y0 y1

/-- What holds between the rounds: the list so far, and what lay before. -/
def MpInv (W3 : World) (L : List (Fin 8) → List Int) (xs : List (Fin 8)) (W : World) : Prop := (∃ v, BlkA W W3.heap.size 30 #[v] ∧ W.ownsRow (W3.heap.size + 1) 2 1 v (L xs).length ((L xs).map (Value.int .i64))) ∧ Below W3.heap.size W3 W ∧ W3.heap.size + 1 ≤ W.heap.size

set_option maxHeartbeats 4000000 in
set_option maxRecDepth 100000 in
theorem imp_in (sn yn : Nat) (a : Option Addr) (len cap : Nat) (ps : List Lan) (s0 h0 s1 h1 : Nat) (w : World) (hok : okNet (sn : Int) (yn : Int) ps) (hn : FitN (sn : Int) (yn : Int) ps) (hc0 : cgC (sn : Int) (yn : Int) ps s0 h0 s1 h1 = 0) (hr0 : cgR (sn : Int) (yn : Int) ps s0 h0 s1 h1 = true) (hs0 : s0 < 8) (hs1 : s1 < 8) (hx : FitSc ((s0 : Int), (h0 : Int))) (hy : FitSc ((s1 : Int), (h1 : Int))) (hv : ReadsLa w (.slice a len cap) ps) (hl : ps.length = len) :
    CallsIn Fence.wide 9 Try.prog 21 #[netV (sn : Int) (yn : Int) (.slice a len cap), .agg #[.int .i8 (s0 : Int), .int .i16 (h0 : Int)], .agg #[.int .i8 (s1 : Int), .int .i16 (h1 : Int)]] w fun e w' => ∃ v, e = .returned (.tuple #[v, .int .i64 0]) ∧ OwnI w.heap.size w' v (mpL ps (yn : Int) s0 h0 s1 h1 sn) ∧ Below w.heap.size w w' := by
  obtain ⟨i0, hi, hz0, hz1, hz2⟩ := info_parts info_i64
  have hro : Fence.wide.round = none := rfl
  have hFF : ∀ f, Fence.wide.fn f := fun _ => trivial
  have HOK := Lib.hid hok
  have HN := Lib.hid hn
  have HV := Lib.hid hv
  have HX := Lib.hid hx
  have HY := Lib.hid hy
  have HC0 := Lib.hid hc0
  have HR0 := Lib.hid hr0
  have hsn8 : sn ≤ 8 := by have := hok.1.2; omega
  have hln : ps.length ≤ 1048576 := hn.n
  have HLN := Lib.hid hln
  have hb1 : Below w.heap.size w (((w.alloc (.cells #[.int .i8 (sn : Int), .int .i16 (yn : Int), .slice a len cap] 35)).alloc (.cells #[.int .i8 (s0 : Int), .int .i16 (h0 : Int)] 37)).alloc (.cells #[.int .i8 (s1 : Int), .int .i16 (h1 : Int)] 37)) := (((Below.refl _ _).alloc (Nat.le_refl _) _).alloc (by simp) _).alloc (by simp; omega) _
  have BN : BlkA (((w.alloc (.cells #[.int .i8 (sn : Int), .int .i16 (yn : Int), .slice a len cap] 35)).alloc (.cells #[.int .i8 (s0 : Int), .int .i16 (h0 : Int)] 37)).alloc (.cells #[.int .i8 (s1 : Int), .int .i16 (h1 : Int)] 37)) w.heap.size 35 #[.int .i8 (sn : Int), .int .i16 (yn : Int), .slice a len cap] := ((BlkA.new rfl _ _).alloc _).alloc _
  have BX : BlkA (((w.alloc (.cells #[.int .i8 (sn : Int), .int .i16 (yn : Int), .slice a len cap] 35)).alloc (.cells #[.int .i8 (s0 : Int), .int .i16 (h0 : Int)] 37)).alloc (.cells #[.int .i8 (s1 : Int), .int .i16 (h1 : Int)] 37)) (w.heap.size + 1) 37 #[.int .i8 (s0 : Int), .int .i16 (h0 : Int)] := (BlkA.new (by simp) _ _).alloc _
  have BY : BlkA (((w.alloc (.cells #[.int .i8 (sn : Int), .int .i16 (yn : Int), .slice a len cap] 35)).alloc (.cells #[.int .i8 (s0 : Int), .int .i16 (h0 : Int)] 37)).alloc (.cells #[.int .i8 (s1 : Int), .int .i16 (h1 : Int)] 37)) (w.heap.size + 1 + 1) 37 #[.int .i8 (s1 : Int), .int .i16 (h1 : Int)] := BlkA.new (by simp) _ _
  obtain ⟨W1, hW⟩ : ∃ W, (((w.alloc (.cells #[.int .i8 (sn : Int), .int .i16 (yn : Int), .slice a len cap] 35)).alloc (.cells #[.int .i8 (s0 : Int), .int .i16 (h0 : Int)] 37)).alloc (.cells #[.int .i8 (s1 : Int), .int .i16 (h1 : Int)] 37)) = W := ⟨_, rfl⟩
  rw [hW] at hb1 BN BX BY
  have HB1 := Lib.hid hb1
  have HN1 := Lib.hid BN
  have HX1 := Lib.hid BX
  have HY1 := Lib.hid BY
  have HV1 := Lib.hid (HV.out.below hb1)
  have HW1 := Lib.hid hW
  have HCG : Hid (∀ W, Below w.heap.size w W → Calls Try.prog 58 #[netV (sn : Int) (yn : Int) (.slice a len cap), .agg #[.int .i8 (s0 : Int), .int .i16 (h0 : Int)], .agg #[.int .i8 (s1 : Int), .int .i16 (h1 : Int)]] W fun e w' => e = .returned (.tuple #[.bool true, .int .i64 0]) ∧ Below W.heap.size W w') := Lib.hid (fun W hW => by
    refine (icg_any (sn : Int) (yn : Int) (.slice a len cap) ps s0 h0 s1 h1 W HN.out HX.out HY.out (HV.out.below hW)).mono ?_
    rintro e w' ⟨rfl, b⟩
    rw [HC0.out, HR0.out]
    exact ⟨rfl, b⟩)
  clear hW hb1 BN BX BY hok hn hx hy hc0 hr0 hl hv hln
  refine callsIn_of_wp_marks Try.func21 rfl (hFF _) ?_ hro
  simp only [Try.ntmps21, List.size_toArray, List.length_cons, List.length_nil, Nat.reduceAdd, Nat.reduceSub, Array.replicate_succ, Array.replicate_zero, List.push_toArray, List.append_toArray, List.nil_append, List.cons_append]
  gi_wp2
  rw [HW1.out]
  refine ((callsIn_wide (n := 8)).2 (HCG.out W1 HB1.out)).mono ?_
  rintro e w3 ⟨rfl, b3⟩
  have HB3 := Lib.hid (blink HB1.out b3)
  have HN3 := Lib.hid (HN1.out.below b3)
  have HX3 := Lib.hid (HX1.out.below b3)
  have HY3 := Lib.hid (HY1.out.below b3)
  have HV3 := Lib.hid (HV1.out.below b3)
  have hlt3 : w.heap.size + 1 + 1 < w3.heap.size := HY3.out.lt
  have hlt4 : w.heap.size < w3.heap.size := by omega
  have n0 : w3.cell? ⟨w.heap.size, 0, none⟩ = some (.int .i8 (sn : Int)) := HN3.out.at 0
  have n1 : w3.cell? ⟨w.heap.size, 1, none⟩ = some (.int .i16 (yn : Int)) := HN3.out.at 1
  have n2 : w3.cell? ⟨w.heap.size, 2, none⟩ = some (.slice a len cap) := HN3.out.at 2
  clear b3
  gi_wp2
  refine ((callsIn_wide (n := 8)).2 (istats_any (sn : Int) (yn : Int) (.slice a len cap) _)).mono ?_
  rintro e W7 ⟨rfl, e7⟩
  have hz6 : (w3.alloc (.cells #[.slice none 0 0] 30)).heap.size = w3.heap.size + 1 := by simp
  rw [hz6]
  have bl7 : BlkA W7 w3.heap.size 30 #[.slice none 0 0] := by rw [e7]; exact (BlkA.new rfl _ _).alloc _
  have bn7 : BlkA W7 (w3.heap.size + 1) 35 (netB (sn : Int) (yn : Int) (.slice a len cap)) := by rw [e7]; exact BlkA.new (by simp) _ _
  have b57 : Below w3.heap.size w3 W7 := by rw [e7]; exact ((Below.refl _ _).alloc (Nat.le_refl _) _).alloc (by simp) _
  have HL7 := Lib.hid bl7
  have HS7 := Lib.hid bn7
  have HB7 := Lib.hid b57
  have hs7 : w3.heap.size + 1 < W7.heap.size := BlkA.lt bn7
  clear e7 hz6 bl7 bn7 b57 n0 n1 n2
  gi_wp2
  refine wpIn_rangeFunc_ownF (α := Fin 8) hro (by omega) (gf := 81) (lb := #[.pointer (some ⟨w3.heap.size + 1, 0, none⟩)]) rfl (hFF _) (enters_of Try.func81 (by kernel_rfl) rfl)
    (stat_stops 8 (by omega) (w3.heap.size + 1) sn hsn8 W7 (HS7.out.at 0) hs7) (fun _ _ => trivial) (fun _ _ _ _ _ _ _ _ => trivial) (Below.refl _ _) (fun _ => rfl)
    (MpInv w3 (mpF ps (yn : Int) s0 h0 s1 h1))
    (fun _ _ _ => False) ?own (fun _ _ _ _ _ h _ _ => h) ⟨⟨_, HL7.out, World.ownsRow_nil _ _ _ _⟩, HB7.out, by omega⟩ ?act ?assign ?body ?done (fun _ _ _ _ _ _ h _ => h.elim)
  case own =>
    rintro xs A B row ⟨⟨v, h2, h3⟩, h4, h5⟩ hg hr
    exact ⟨⟨v, blkA_kept h2 hg (fun r e => (hr r e).2), row_kept h3 hg (fun r e => (hr r e).2)⟩, below_kept h4 h4.size (by omega) hg (fun r e => (hr r e).1), Nat.le_trans h5 hg.size⟩
  case assign =>
    intro l x W K hK
    gi_wp2
    exact hK
  case body =>
    rintro l pre ⟨x, hx8⟩ W ⟨⟨v, h2, h3⟩, h4, h5⟩ hpl
    simp only
    have HYES := Lib.hid (mpF_yes (ps := ps) (sy := (yn : Int)) (x0 := (s0 : Int)) (x1 := (h0 : Int)) (y0 := (s1 : Int)) (y1 := (h1 : Int)) (pre := pre) (x := ⟨x, hx8⟩))
    have HNO := Lib.hid (mpF_no (ps := ps) (sy := (yn : Int)) (x0 := (s0 : Int)) (x1 := (h0 : Int)) (y0 := (s1 : Int)) (y1 := (h1 : Int)) (pre := pre) (x := ⟨x, hx8⟩))
    have hll : (mpF ps (yn : Int) s0 h0 s1 h1 pre).length ≤ pre.length := mpF_len _ _ _ _ _ _ _
    obtain ⟨ys, hys⟩ : ∃ ys, pre ++ [(⟨x, hx8⟩ : Fin 8)] = ys := ⟨_, rfl⟩
    obtain ⟨ls, hls⟩ : ∃ ls, mpF ps (yn : Int) s0 h0 s1 h1 pre = ls := ⟨_, rfl⟩
    rw [hls] at h3 hll HYES HNO
    rw [hys] at HYES HNO ⊢
    have hll8 : ls.length < 8 := by omega
    have H2 := Lib.hid h2
    have H3 := Lib.hid h3
    have H4 := Lib.hid h4
    have hx0 : (0 : Int) ≤ (x : Int) := by omega
    have hx88 : (x : Int) < 8 := by omega
    have hs08 : (s0 : Int) < 8 := by omega
    have hs18 : (s1 : Int) < 8 := by omega
    have c0 : W.cell? ⟨w.heap.size + 1, 0, none⟩ = some (.int .i8 (s0 : Int)) := (HX3.out.below h4).at 0
    have d0 : W.cell? ⟨w.heap.size + 1 + 1, 0, none⟩ = some (.int .i8 (s1 : Int)) := (HY3.out.below h4).at 0
    have HGO : Hid (∀ (V : World) (u : Value), ReadsLa V u (woL (x : Int) ps) → Calls Try.prog 58 #[netV (sn : Int) (yn : Int) u, .agg #[.int .i8 (s0 : Int), .int .i16 (h0 : Int)], .agg #[.int .i8 (s1 : Int), .int .i16 (h1 : Int)]] V fun e w' => e = .returned (.tuple #[.bool (arrB ps (x : Int) (yn : Int) s0 h0 s1 h1), .int .i64 0]) ∧ Below V.heap.size V w') := Lib.hid (fun V u hu => by
      refine (icg_any (sn : Int) (yn : Int) u (woL (x : Int) ps) s0 h0 s1 h1 V (HN.out.wo _) HX.out HY.out hu).mono ?_
      rintro e w' ⟨rfl, b⟩
      rw [cgC_wo HC0.out, cgR_wo HC0.out]
      exact ⟨rfl, b⟩)
    have HMG : Hid (x ≠ s0 → x ≠ s1 → mpG ps (yn : Int) s0 h0 s1 h1 (x : Int) = !arrB ps (x : Int) (yn : Int) s0 h0 s1 h1) := Lib.hid (fun e1 e2 => by unfold mpG; rw [decide_eq_true (p := ((x : Int) ≠ (s0 : Int))) (by omega), decide_eq_true (p := ((x : Int) ≠ (s1 : Int))) (by omega), Bool.true_and, Bool.true_and])
    have HBAD : Hid (x = s0 ∨ x = s1 → mpG ps (yn : Int) s0 h0 s1 h1 (x : Int) = false) := Lib.hid (by
      unfold mpG
      rintro (e1 | e1)
      · rw [decide_eq_false (p := ((x : Int) ≠ (s0 : Int))) (by omega)]; rfl
      · rw [decide_eq_false (p := ((x : Int) ≠ (s1 : Int))) (by omega)]; simp)
    have HSAME : Hid (mpG ps (yn : Int) s0 h0 s1 h1 (x : Int) = false → ∀ V, Below W.heap.size W V → MpInv w3 (mpF ps (yn : Int) s0 h0 s1 h1) ys V) := Lib.hid (fun hf V hV => by
      refine ⟨⟨v, H2.out.below hV, ?_⟩, blink H4.out hV, Nat.le_trans h5 hV.size⟩
      rw [HNO.out hf]
      exact ownRow_below H3.out hV)
    have hWs : w3.heap.size + 1 ≤ W.heap.size := h5
    clear h2 h3 h4 h5 hls hys
    obtain ⟨r, hr⟩ : ∃ r, arrB ps (x : Int) (yn : Int) s0 h0 s1 h1 = r := ⟨_, rfl⟩
    rw [hr] at HMG HGO
    clear hr
    by_cases e1 : x = s0
    · have u1 : ((x : Int) == (s0 : Int)) = true := by simp [e1]
      have HFIN := Lib.hid (HSAME.out (HBAD.out (.inl e1)) W (Below.refl _ _))
      clear e1 HMG HBAD HSAME
      gi_wp2
      exact ⟨KeepsOthers.refl _, trivial, HFIN.out⟩
    have u1 : ((x : Int) == (s0 : Int)) = false := by simp; omega
    by_cases e2 : x = s1
    · have u2 : ((x : Int) == (s1 : Int)) = true := by simp [e2]
      have HFIN := Lib.hid (HSAME.out (HBAD.out (.inr e2)) W (Below.refl _ _))
      clear e1 e2 HMG HBAD HSAME
      gi_wp2
      exact ⟨KeepsOthers.refl _, trivial, HFIN.out⟩
    have u2 : ((x : Int) == (s1 : Int)) = false := by simp; omega
    have HM := Lib.hid (HMG.out e1 e2)
    clear e1 e2 HMG HBAD
    gi_wp2
    refine wpIn_region_relL (fun W' => Below W.heap.size W W') (fun W W' => Below W.heap.size W W') 11 [fun u _ => u = netV (sn : Int) (yn : Int) (.slice a len cap), fun u _ => u = Value.int .i64 (x : Int), fun u W' => ∃ q, u = netV (sn : Int) (yn : Int) q ∧ ReadsLa W' q (woL (x : Int) ps), fun u _ => u = Value.agg #[.int .i8 (s0 : Int), .int .i16 (h0 : Int)], fun u _ => u = Value.agg #[.int .i8 (s1 : Int), .int .i16 (h1 : Int)],
      fun u _ => u = Value.tuple #[.bool r, .int .i64 0], fun u _ => u = Value.tuple #[.bool r, .int .i64 0], fun u _ => u = Value.bool r, fun u _ => u = Value.int .i64 0, fun u _ => u = Value.bool r, fun u _ => u = Value.int .i64 0] (by kernel_rfl) (by kernel_rfl) (by kernel_rfl) rfl (Below.refl _ _).drew ?_
    simp only [List.take_succ_cons, List.take_zero, List.drop_succ_cons, List.drop_zero]
    refine wpRelI_cons (fun _ _ _ _ _ h => h) (fun V hC hd => relOblI_intro fun K hK => ?_) (fun v42 => ?_)
    · have HK := Lib.hid hK
      have HC := Lib.hid hC
      have c0 : V.cell? ⟨w.heap.size, 0, none⟩ = some (.int .i8 (sn : Int)) := ((HN3.out.below H4.out).below hC).at 0
      have c1 : V.cell? ⟨w.heap.size, 1, none⟩ = some (.int .i16 (yn : Int)) := ((HN3.out.below H4.out).below hC).at 1
      have c2 : V.cell? ⟨w.heap.size, 2, none⟩ = some (.slice a len cap) := ((HN3.out.below H4.out).below hC).at 2
      clear hK hd hC
      go_simp
      exact HK.out _ _ ⟨_, rfl, HC.out, Below.refl _ _, rfl⟩
    simp only [Act.put, List.setIfInBounds_toArray, List.set_cons_zero, List.set_cons_succ]
    refine wpRelI_cons (fun _ _ _ _ _ h => h) (fun V hC hd => relOblI_intro fun K hK => ?_) (fun v43 => ?_)
    · have HK := Lib.hid hK
      have HC := Lib.hid hC
      clear hK hd hC
      go_simp
      exact HK.out _ _ ⟨_, rfl, HC.out, Below.refl _ _, rfl⟩
    simp only [Act.put, List.setIfInBounds_toArray, List.set_cons_zero, List.set_cons_succ]
    refine wpRelI_cons (fun _ _ _ _ hS ⟨q, e, h⟩ => ⟨q, e, h.below hS⟩) (fun V hC hd => relOblI_intro fun K hK => ?_) (fun v44 => ?_)
    · have HK := Lib.hid hK
      have HC := Lib.hid hC
      obtain rfl : v42 = netV (sn : Int) (yn : Int) (.slice a len cap) := hd 0 rfl _ rfl
      obtain rfl : v43 = Value.int .i64 (x : Int) := hd 1 rfl _ rfl
      have HVW := Lib.hid ((HV3.out.below H4.out).below hC)
      clear hK hd hC
      go_simp
      refine (CallsIn.inRound l ((callsIn_wide (n := _)).2 (iwo_any (sn : Int) (yn : Int) (x : Int) (.slice a len cap) ps V HN.out.l HLN.out HVW.out))).mono ?_
      rintro e V5 ⟨q, rfl, hq, b5⟩
      exact HK.out _ _ ⟨_, rfl, blink HC.out b5, b5, q, rfl, hq⟩
    simp only [Act.put, List.setIfInBounds_toArray, List.set_cons_zero, List.set_cons_succ]
    refine wpRelI_cons (fun _ _ _ _ _ h => h) (fun V hC hd => relOblI_intro fun K hK => ?_) (fun v45 => ?_)
    · have HK := Lib.hid hK
      have HC := Lib.hid hC
      have c0 : V.cell? ⟨w.heap.size + 1, 0, none⟩ = some (.int .i8 (s0 : Int)) := ((HX3.out.below H4.out).below hC).at 0
      have c1 : V.cell? ⟨w.heap.size + 1, 1, none⟩ = some (.int .i16 (h0 : Int)) := ((HX3.out.below H4.out).below hC).at 1
      clear hK hd hC
      go_simp
      exact HK.out _ _ ⟨_, rfl, HC.out, Below.refl _ _, rfl⟩
    simp only [Act.put, List.setIfInBounds_toArray, List.set_cons_zero, List.set_cons_succ]
    refine wpRelI_cons (fun _ _ _ _ _ h => h) (fun V hC hd => relOblI_intro fun K hK => ?_) (fun v46 => ?_)
    · have HK := Lib.hid hK
      have HC := Lib.hid hC
      have c0 : V.cell? ⟨w.heap.size + 1 + 1, 0, none⟩ = some (.int .i8 (s1 : Int)) := ((HY3.out.below H4.out).below hC).at 0
      have c1 : V.cell? ⟨w.heap.size + 1 + 1, 1, none⟩ = some (.int .i16 (h1 : Int)) := ((HY3.out.below H4.out).below hC).at 1
      clear hK hd hC
      go_simp
      exact HK.out _ _ ⟨_, rfl, HC.out, Below.refl _ _, rfl⟩
    simp only [Act.put, List.setIfInBounds_toArray, List.set_cons_zero, List.set_cons_succ]
    refine wpRelI_cons (fun _ _ _ _ _ h => h) (fun V hC hd => relOblI_intro fun K hK => ?_) (fun v47 => ?_)
    · have HK := Lib.hid hK
      have HC := Lib.hid hC
      obtain ⟨q, rfl, hq⟩ := (show ∃ q, v44 = netV (sn : Int) (yn : Int) q ∧ ReadsLa V q (woL (x : Int) ps) from hd 2 rfl _ rfl)
      obtain rfl : v45 = Value.agg #[.int .i8 (s0 : Int), .int .i16 (h0 : Int)] := hd 3 rfl _ rfl
      obtain rfl : v46 = Value.agg #[.int .i8 (s1 : Int), .int .i16 (h1 : Int)] := hd 4 rfl _ rfl
      have HQ := Lib.hid hq
      clear hK hd hC hq
      go_simp
      refine (CallsIn.inRound l ((callsIn_wide (n := _)).2 (HGO.out V _ HQ.out))).mono ?_
      rintro e V5 ⟨rfl, b5⟩
      exact HK.out _ _ ⟨_, rfl, blink HC.out b5, b5, rfl⟩
    simp only [Act.put, List.setIfInBounds_toArray, List.set_cons_zero, List.set_cons_succ]
    refine wpRelI_cons (fun _ _ _ _ _ h => h) (fun V hC hd => relOblI_intro fun K hK => ?_) (fun v41 => ?_)
    · have HK := Lib.hid hK
      have HC := Lib.hid hC
      obtain rfl : v47 = Value.tuple #[.bool r, .int .i64 0] := hd 5 rfl _ rfl
      clear hK hd hC
      go_simp
      exact HK.out _ _ ⟨_, rfl, HC.out, Below.refl _ _, rfl⟩
    simp only [Act.put, List.setIfInBounds_toArray, List.set_cons_zero, List.set_cons_succ]
    refine wpRelI_cons (fun _ _ _ _ _ h => h) (fun V hC hd => relOblI_intro fun K hK => ?_) (fun v48 => ?_)
    · have HK := Lib.hid hK
      have HC := Lib.hid hC
      obtain rfl : v41 = Value.tuple #[.bool r, .int .i64 0] := hd 6 rfl _ rfl
      clear hK hd hC
      go_simp
      exact HK.out _ _ ⟨_, rfl, HC.out, Below.refl _ _, rfl⟩
    simp only [Act.put, List.setIfInBounds_toArray, List.set_cons_zero, List.set_cons_succ]
    refine wpRelI_cons (fun _ _ _ _ _ h => h) (fun V hC hd => relOblI_intro fun K hK => ?_) (fun v49 => ?_)
    · have HK := Lib.hid hK
      have HC := Lib.hid hC
      obtain rfl : v41 = Value.tuple #[.bool r, .int .i64 0] := hd 6 rfl _ rfl
      clear hK hd hC
      go_simp
      exact HK.out _ _ ⟨_, rfl, HC.out, Below.refl _ _, rfl⟩
    simp only [Act.put, List.setIfInBounds_toArray, List.set_cons_zero, List.set_cons_succ]
    refine wpRelI_cons (fun _ _ _ _ _ h => h) (fun V hC hd => relOblI_intro fun K hK => ?_) (fun v12 => ?_)
    · have HK := Lib.hid hK
      have HC := Lib.hid hC
      obtain rfl : v48 = Value.bool r := hd 7 rfl _ rfl
      clear hK hd hC
      go_simp
      exact HK.out _ _ ⟨_, rfl, HC.out, Below.refl _ _, rfl⟩
    simp only [Act.put, List.setIfInBounds_toArray, List.set_cons_zero, List.set_cons_succ]
    refine wpRelI_cons (fun _ _ _ _ _ h => h) (fun V hC hd => relOblI_intro fun K hK => ?_) (fun v13 => ?_)
    · have HK := Lib.hid hK
      have HC := Lib.hid hC
      obtain rfl : v49 = Value.int .i64 0 := hd 8 rfl _ rfl
      clear hK hd hC
      go_simp
      exact HK.out _ _ ⟨_, rfl, HC.out, Below.refl _ _, rfl⟩
    simp only [Act.put, List.setIfInBounds_toArray, List.set_cons_zero, List.set_cons_succ]
    refine wpRelI_nil fun V hC hd => ?_
    obtain rfl : v12 = Value.bool r := hd 9 _ rfl
    have HC := Lib.hid hC
    have hVs : W.heap.size ≤ V.heap.size := hC.size
    clear hd hC c0 d0 u1 u2
    have HKV : Hid (KeepsOthers W V) := Lib.hid ⟨HC.out.size, fun k o hk _ => (HC.out.block k (Array.getElem?_eq_some_iff.1 hk).1).trans hk⟩
    cases r
    · have HYS := Lib.hid (HYES.out (by rw [HM.out]; rfl))
      have HOV := Lib.hid (ownRow_below H3.out HC.out)
      have HLV := Lib.hid (H2.out.below HC.out)
      have HBV := Lib.hid (blink H4.out HC.out)
      have c0 : V.cell? ⟨w3.heap.size, 0, none⟩ = some v := HLV.out.at 0
      clear HYES HNO HSAME HM
      gi_wp2_with (gi_at_builtin; refine wpListIn_append_own _ rfl _ _ 30 rfl (w3.heap.size + 1) 2 i0 (.int .i64 0) 1 8 Try.underlying30 hi hz0 hz1 hz2 rfl (by decide) _ _ _ rfl (HOV.out.alloc _) ⟨V.heap.size, 0, none⟩ 1 1 [.int .i64 (x : Int)] rfl rfl (cell_one_new _ _ _) (ints_oneCell .i64 [(x : Int)]) ?c3 ?c4 ?c5 ?_)
      case c3 => unfold maxLen; omega
      case c4 => omega
      case c5 => first | omega | (simp; omega)
      intro v' V2 hown' hgrow _
      obtain ⟨gv, cv, rfl⟩ : ∃ gv cv, v' = .slice (some ⟨gv, 0, none⟩) (ls.length + 1) cv := by
        rcases hown'.2 with ⟨_, h0⟩ | ⟨gu, cu, cur, h1, _⟩
        · omega
        · exact ⟨gu, cu, h1⟩
      obtain ⟨v', hv'⟩ : ∃ v', Value.slice (some ⟨gv, 0, none⟩) (ls.length + 1) cv = v' := ⟨_, rfl⟩
      have HV' := Lib.hid hv'
      rw [hv'] at hown'
      have hbl2 : BlkA V2 w3.heap.size 30 #[v] := (hgrow.block _ (by simp; omega) (fun e => by have := (HOV.out.lt _ e.symm).1; omega)).trans (HLV.out.alloc _)
      have hb2 : Below w3.heap.size w3 V2 := (HBV.out.alloc (by omega) _).grown hgrow (by simp; omega) (fun k e => by have := (HOV.out.lt _ e).1; omega)
      have hko : KeepsOthers W V2 := HKV.out.trans (KeepsOthers.trans (KeepsOthers.alloc V _) (KeepsOthers.of_grownBy hgrow (fun j o hj ho => by
        have h := (HOV.out.alloc (.cells #[.int .i64 (x : Int)] 2)).2
        rcases h with ⟨rfl, _⟩ | ⟨g, cap', cur, rfl, _, hg, _⟩
        · cases hj
        · simp [Value.ownBlock] at hj; subst hj; rw [hg] at ho; cases ho; rfl)))
      have hsz2 := hgrow.size
      have c0 : V2.cell? ⟨w3.heap.size, 0, none⟩ = some v := hbl2.at 0
      have f0 : V2.frozen? ⟨w3.heap.size, 0, none⟩ = false := hbl2.frozen 0
      have HFIN : Hid (MpInv w3 (mpF ps (yn : Int) s0 h0 s1 h1) ys (V2.setCell ⟨w3.heap.size, 0, none⟩ v')) := Lib.hid ⟨⟨v', by have := hbl2.set 0 v'; simpa using this, row_other (by rw [HYS.out, List.map_append, List.length_append]; exact hown') _ _ (by simp)⟩, hb2.setCell (by simp) _, by simp at hsz2 ⊢; omega⟩
      have HKO : Hid (KeepsOthers W (V2.setCell ⟨w3.heap.size, 0, none⟩ v')) := Lib.hid (hko.trans (KeepsOthers.setCell _ _ _))
      rw [← HV'.out] at HKO HFIN
      clear hown' hgrow hbl2 hb2 hko hv'
      gi_wp2
      exact ⟨HKO.out, trivial, HFIN.out⟩
    · have HFIN := Lib.hid (HSAME.out (by rw [HM.out]; rfl) V HC.out)
      clear HYES HNO HSAME HM
      gi_wp2
      exact ⟨HKV.out, trivial, HFIN.out⟩
  case done =>
    rintro D xs W hD hxs ⟨⟨v, h2, h3⟩, h4, h5⟩ hK
    have c0 : W.cell? ⟨w3.heap.size, 0, none⟩ = some v := h2.at 0
    have HK := Lib.hid hK
    have HO := Lib.hid (row_kept h3 (grownBy_putObj' W D (.deferred none)) (fun r e => by cases e; exact ⟨_, hK, rfl⟩))
    have HL : Hid (mpF ps (yn : Int) s0 h0 s1 h1 xs = mpL ps (yn : Int) s0 h0 s1 h1 sn) := Lib.hid (mpF_all hxs)
    have HB := Lib.hid ((HB3.out.trans (h4.mono (by omega))).trans (belowK_b (w := w) (Nat.le_refl _) W D _ (.deferred none) (by have := HB7.out.size; omega) hK rfl rfl))
    have hl5 : w.heap.size ≤ w3.heap.size + 1 := by omega
    clear h2 h3 h4 hK hxs
    gi_wp2
    refine ⟨by simp, .inl ⟨_, _, rfl, run_takeDeferred HK.out, ?_⟩⟩
    refine ⟨.tuple #[v, .int .i64 0], by simp [results, Try.results21, go_sem], v, rfl, ?_, HB.out⟩
    rw [← HL.out]
    exact (show OwnI (w3.heap.size + 1) _ v _ from HO.out).mono hl5

set_option maxHeartbeats 2000000 in
set_option maxRecDepth 100000 in
theorem imp_any (st sy : Int) (v : Value) (ps : List Lan) (x0 x1 y0 y1 : Int) (w : World) (hn : FitN st sy ps) (hx : FitSc (x0, x1)) (hy : FitSc (y0, y1)) (hv : ReadsLa w v ps) :
    Calls Try.prog 21 #[netV st sy v, .agg #[.int .i8 x0, .int .i16 x1], .agg #[.int .i8 y0, .int .i16 y1]] w (RetL1 w.heap.size w (mpR st sy ps x0 x1 y0 y1) (mpC st sy ps x0 x1 y0 y1)) := by
  by_cases hz : cgC st sy ps x0 x1 y0 y1 = 0 ∧ cgR st sy ps x0 x1 y0 y1 = true
  · have hak := askC_ok (show askC st sy ps (scB st x0 x1 && scB st y0 y1) = 0 from hz.1)
    have hok := vldN_spec hak.1
    rw [Bool.and_eq_true] at hak
    obtain ⟨a, cap, rfl, ha⟩ := hv
    obtain ⟨sn, yn, rfl, rfl⟩ := net_nat hok
    obtain ⟨s0, h0, rfl, rfl, hs0, hh0⟩ := scan_nats hok.1.2 hak.2.1
    obtain ⟨s1, h1, rfl, rfl, hs1, hh1⟩ := scan_nats hok.1.2 hak.2.2
    have hmc : mpC (sn : Int) (yn : Int) ps s0 h0 s1 h1 = 0 := by unfold mpC; rw [if_pos hz.1, if_pos hz.2]
    refine (callsIn_wide.1 (imp_in sn yn a ps.length cap ps s0 h0 s1 h1 w hok hn hz.1 hz.2 hs0 hs1 hx hy ⟨a, cap, rfl, ha⟩ rfl)).mono ?_
    rintro e w2 ⟨u, rfl, o, b⟩
    refine ⟨u, ret_pair hmc.symm, ?_, b⟩
    unfold mpR
    rw [if_pos hmc, Int.toNat_natCast]
    exact o
  · have HV := Lib.hid hv
    have HN := Lib.hid hn
    have HX := Lib.hid hx
    have HY := Lib.hid hy
    obtain ⟨a, cap, rfl, ha⟩ := hv
    obtain ⟨len, hlen⟩ : ∃ m, ps.length = m := ⟨_, rfl⟩
    have hb1 : Below w.heap.size w (((w.alloc (.cells #[.int .i8 st, .int .i16 sy, .slice a len cap] 35)).alloc (.cells #[.int .i8 x0, .int .i16 x1] 37)).alloc (.cells #[.int .i8 y0, .int .i16 y1] 37)) := (((Below.refl _ _).alloc (Nat.le_refl _) _).alloc (by simp) _).alloc (by simp; omega) _
    rw [hlen] at HV ⊢
    clear ha hlen hn hx hy
    obtain ⟨W1, hW⟩ : ∃ W, (((w.alloc (.cells #[.int .i8 st, .int .i16 sy, .slice a len cap] 35)).alloc (.cells #[.int .i8 x0, .int .i16 x1] 37)).alloc (.cells #[.int .i8 y0, .int .i16 y1] 37)) = W := ⟨_, rfl⟩
    rw [hW] at hb1
    have HB1 := Lib.hid hb1
    have HV1 := Lib.hid (HV.out.below hb1)
    have HW1 := Lib.hid hW
    clear hW hb1
    obtain ⟨c, hc⟩ : ∃ c, cgC st sy ps x0 x1 y0 y1 = c := ⟨_, rfl⟩
    obtain ⟨r, hr⟩ : ∃ r, cgR st sy ps x0 x1 y0 y1 = r := ⟨_, rfl⟩
    have HCD := Lib.hid hc
    have HRD := Lib.hid hr
    rw [hc, hr] at hz
    have HCG : Hid (Calls Try.prog 58 #[netV st sy (.slice a len cap), .agg #[.int .i8 x0, .int .i16 x1], .agg #[.int .i8 y0, .int .i16 y1]] W1 (RetCg W1 r c)) := Lib.hid (by
      have h := icg_any st sy (.slice a len cap) ps x0 x1 y0 y1 W1 HN.out HX.out HY.out HV1.out
      rwa [hc, hr] at h)
    clear hc hr
    go_enter Try.func21, Try.ntmps21
    go_wp2_with fail
    rw [HW1.out]
    refine HCG.out.mono ?_
    rintro e w3 ⟨rfl, b3⟩
    have HB3 := Lib.hid (blink HB1.out b3)
    clear b3
    by_cases h0 : c = 0
    · have hr0 : r = false := by
        cases r
        · rfl
        · exact absurd ⟨h0, rfl⟩ hz
      subst h0
      subst hr0
      have HMC : Hid (mpC st sy ps x0 x1 y0 y1 = 6) := Lib.hid (by unfold mpC; rw [if_pos HCD.out, HRD.out, if_neg (by decide)])
      have HR : Hid (mpR st sy ps x0 x1 y0 y1 = []) := Lib.hid (by unfold mpR; rw [HMC.out, if_neg (by decide)])
      clear hz
      go_wp2_with fail
      go_ret2
      exact ⟨_, ret_pair HMC.out.symm, by rw [HR.out]; exact World.ownsRow_nil _ _ _ _, HB3.out⟩
    · have t0 : (c == 0) = false := by simp [h0]
      have t1 : (c != 0) = true := by simp [h0]
      have HMC : Hid (mpC st sy ps x0 x1 y0 y1 = c) := Lib.hid (by unfold mpC; rw [HCD.out, if_neg h0])
      have HR : Hid (mpR st sy ps x0 x1 y0 y1 = []) := Lib.hid (by unfold mpR; rw [HMC.out, if_neg h0])
      clear hz h0
      go_wp2_with fail
      go_ret2
      exact ⟨_, ret_pair HMC.out.symm, by rw [HR.out]; exact World.ownsRow_nil _ _ _ _, HB3.out⟩
end Go.Proofs.Ytlempmahkeilpaa
/-
  The walk of FnExactMustPass: program and model answer the same at every argument; neither writes into its arguments, and what is answered lies in new memory.
-/
namespace Go.Proofs.Ytlempmahkeilpaa.fnExactMustPass
open Go Go.RowKit
set_option linter.unusedVariables false

set_option maxHeartbeats 16000000 in
set_option maxRecDepth 100000 in
theorem walk (st0 sy0 : Int) (a0 : Option Addr) (len0 cap0 : Nat) (ps0 : List Lan) (x10 x11 : Int) (x20 x21 : Int) (w : World) (hh0 : (IsRowLa w a0 len0 cap0 ps0 ∧ FitsLa ps0) ∧ (-128 ≤ st0 ∧ st0 ≤ 127) ∧ (-32768 ≤ sy0 ∧ sy0 ≤ 32767)) (hv1 : FitSc (x10, x11)) (hv2 : FitSc (x20, x21)) :
    Calls Try.prog 5 #[.agg #[.int .i8 st0, .int .i16 sy0, .slice a0 len0 cap0], .agg #[.int .i8 x10, .int .i16 x11], .agg #[.int .i8 x20, .int .i16 x21]] w fun e w' => e = .returned (.bool true) ∧ Below w.heap.size w w' := by
  obtain ⟨⟨hr0, hf0⟩, hst0, hsy0⟩ := hh0
  have HFQ0 := Lib.hid hf0
  have HST0 := Lib.hid hst0
  have HSY0 := Lib.hid hsy0
  have HN0 := Lib.hid hr0.len_ok
  clear hf0 hst0 hsy0
  have HV1 := Lib.hid hv1
  clear hv1
  have HV2 := Lib.hid hv2
  clear hv2
  by_cases hm0 : 0 ≤ 1048576 - (len0 : Int)
  rotate_left
  · have t0 : decide (1048576 - (len0 : Int) < 0) = true := decide_eq_true (by omega)
    go_enter Try.func5, Try.ntmps5
    go_wp2_with fail
    have b1 : Below w.heap.size w (((w.alloc (.cells #[.int .i8 st0, .int .i16 sy0, .slice a0 len0 cap0] 26)).alloc (.cells #[.int .i8 x10, .int .i16 x11] 28)).alloc (.cells #[.int .i8 x20, .int .i16 x21] 28)) := ((((Below.refl _ _).alloc (Nat.le_refl _) _).alloc (by simp) _).alloc (by simp; omega) _)
    have BX0 : BlkA (((w.alloc (.cells #[.int .i8 st0, .int .i16 sy0, .slice a0 len0 cap0] 26)).alloc (.cells #[.int .i8 x10, .int .i16 x11] 28)).alloc (.cells #[.int .i8 x20, .int .i16 x21] 28)) (w.heap.size) 26 #[.int .i8 st0, .int .i16 sy0, .slice a0 len0 cap0] := (((BlkA.new rfl _ _).alloc _).alloc _)
    have BX1 : BlkA (((w.alloc (.cells #[.int .i8 st0, .int .i16 sy0, .slice a0 len0 cap0] 26)).alloc (.cells #[.int .i8 x10, .int .i16 x11] 28)).alloc (.cells #[.int .i8 x20, .int .i16 x21] 28)) (w.heap.size + 1) 28 #[.int .i8 x10, .int .i16 x11] := ((BlkA.new (by simp) _ _).alloc _)
    have BX2 : BlkA (((w.alloc (.cells #[.int .i8 st0, .int .i16 sy0, .slice a0 len0 cap0] 26)).alloc (.cells #[.int .i8 x10, .int .i16 x11] 28)).alloc (.cells #[.int .i8 x20, .int .i16 x21] 28)) (w.heap.size + 1 + 1) 28 #[.int .i8 x20, .int .i16 x21] := (BlkA.new (by simp) _ _)
    generalize (((w.alloc (.cells #[.int .i8 st0, .int .i16 sy0, .slice a0 len0 cap0] 26)).alloc (.cells #[.int .i8 x10, .int .i16 x11] 28)).alloc (.cells #[.int .i8 x20, .int .i16 x21] 28)) = w1 at b1 BX0 BX1 BX2 ⊢
    have c1 := b1
    have hs1 : w.heap.size ≤ w1.heap.size := b1.size
    have hb0 : w.heap.size < w1.heap.size := BX0.lt
    have hb1 : w.heap.size + 1 < w1.heap.size := BX1.lt
    have hb2 : w.heap.size + 1 + 1 < w1.heap.size := BX2.lt
    have va0_0_1 : w1.cell? ⟨w.heap.size, 0, none⟩ = some (.int .i8 st0) := (BX0).at 0
    have va0_1_1 : w1.cell? ⟨w.heap.size, 1, none⟩ = some (.int .i16 sy0) := (BX0).at 1
    have va0_2_1 : w1.cell? ⟨w.heap.size, 2, none⟩ = some (.slice a0 len0 cap0) := (BX0).at 2
    have la0_1 : w.heap.size < w1.heap.size := (BX0).lt
    go_wp2_with fail
    refine (szNet_big st0 sy0 a0 len0 cap0 1048576 (by omega) (by omega) (by omega) HN0.out _).mono ?_
    rintro e w2 ⟨rfl, b2⟩
    have c2 : Below w.heap.size w w2 := blink c1 b2
    have hs2 : w1.heap.size ≤ w2.heap.size := b2.size
    go_wp2_with fail
    go_ret
    exact ⟨rfl, c2⟩
  have t0 : decide (1048576 - (len0 : Int) < 0) = false := decide_eq_false (by omega)
  have hlq0 : ps0.length = len0 := hr0.len_eq
  have HX0 : Hid (ps0.length ≤ 1048576) := Lib.hid (by omega)
  have HL0 : Hid (len0 ≤ 1048576) := Lib.hid (by omega)
  have hxb0 : ps0.length ≤ 1048576 := HX0.out
  clear hlq0
  have HF0 : Hid (FitN st0 sy0 ps0) := Lib.hid ⟨HST0.out, HSY0.out, HFQ0.out, HX0.out⟩
  have hlb0 := mpR_len st0 sy0 ps0 x10 x11 x20 x21
  have HLB0 : Hid ((mpR st0 sy0 ps0 x10 x11 x20 x21).length ≤ 1048576) := Lib.hid (by omega)
  go_enter Try.func5, Try.ntmps5
  go_wp2_with fail
  have b1 : Below w.heap.size w (((w.alloc (.cells #[.int .i8 st0, .int .i16 sy0, .slice a0 len0 cap0] 26)).alloc (.cells #[.int .i8 x10, .int .i16 x11] 28)).alloc (.cells #[.int .i8 x20, .int .i16 x21] 28)) := ((((Below.refl _ _).alloc (Nat.le_refl _) _).alloc (by simp) _).alloc (by simp; omega) _)
  have BX0 : BlkA (((w.alloc (.cells #[.int .i8 st0, .int .i16 sy0, .slice a0 len0 cap0] 26)).alloc (.cells #[.int .i8 x10, .int .i16 x11] 28)).alloc (.cells #[.int .i8 x20, .int .i16 x21] 28)) (w.heap.size) 26 #[.int .i8 st0, .int .i16 sy0, .slice a0 len0 cap0] := (((BlkA.new rfl _ _).alloc _).alloc _)
  have BX1 : BlkA (((w.alloc (.cells #[.int .i8 st0, .int .i16 sy0, .slice a0 len0 cap0] 26)).alloc (.cells #[.int .i8 x10, .int .i16 x11] 28)).alloc (.cells #[.int .i8 x20, .int .i16 x21] 28)) (w.heap.size + 1) 28 #[.int .i8 x10, .int .i16 x11] := ((BlkA.new (by simp) _ _).alloc _)
  have BX2 : BlkA (((w.alloc (.cells #[.int .i8 st0, .int .i16 sy0, .slice a0 len0 cap0] 26)).alloc (.cells #[.int .i8 x10, .int .i16 x11] 28)).alloc (.cells #[.int .i8 x20, .int .i16 x21] 28)) (w.heap.size + 1 + 1) 28 #[.int .i8 x20, .int .i16 x21] := (BlkA.new (by simp) _ _)
  generalize (((w.alloc (.cells #[.int .i8 st0, .int .i16 sy0, .slice a0 len0 cap0] 26)).alloc (.cells #[.int .i8 x10, .int .i16 x11] 28)).alloc (.cells #[.int .i8 x20, .int .i16 x21] 28)) = w1 at b1 BX0 BX1 BX2 ⊢
  have c1 := b1
  have hs1 : w.heap.size ≤ w1.heap.size := b1.size
  have hb0 : w.heap.size < w1.heap.size := BX0.lt
  have hb1 : w.heap.size + 1 < w1.heap.size := BX1.lt
  have hb2 : w.heap.size + 1 + 1 < w1.heap.size := BX2.lt
  have va0_0_1 : w1.cell? ⟨w.heap.size, 0, none⟩ = some (.int .i8 st0) := (BX0).at 0
  have va0_1_1 : w1.cell? ⟨w.heap.size, 1, none⟩ = some (.int .i16 sy0) := (BX0).at 1
  have va0_2_1 : w1.cell? ⟨w.heap.size, 2, none⟩ = some (.slice a0 len0 cap0) := (BX0).at 2
  have la0_1 : w.heap.size < w1.heap.size := (BX0).lt
  go_wp2_with fail
  refine (szNet_fit st0 sy0 a0 len0 cap0 1048576 (by omega) (by omega) _).mono ?_
  rintro e w2 ⟨rfl, b2⟩
  have c2 : Below w.heap.size w w2 := blink c1 b2
  have hs2 : w1.heap.size ≤ w2.heap.size := b2.size
  have CD2 : Below w.heap.size w w2.drew := Below.drew c2
  have BD2 : Below w2.heap.size w2 w2.drew := (Below.refl _ _).drew
  have SD2 : w2.drew.cell? ⟨w.heap.size, 0, none⟩ = some (.int .i8 st0) ∧ w2.drew.cell? ⟨w.heap.size, 1, none⟩ = some (.int .i16 sy0) ∧ w2.drew.cell? ⟨w.heap.size, 2, none⟩ = some (.slice a0 len0 cap0) ∧ w2.drew.cell? ⟨w.heap.size + 1, 0, none⟩ = some (.int .i8 x10) ∧ w2.drew.cell? ⟨w.heap.size + 1, 1, none⟩ = some (.int .i16 x11) ∧ w2.drew.cell? ⟨w.heap.size + 1 + 1, 0, none⟩ = some (.int .i8 x20) ∧ w2.drew.cell? ⟨w.heap.size + 1 + 1, 1, none⟩ = some (.int .i16 x21) := ⟨cbl BD2 (((BX0).below b2).at 0), cbl BD2 (((BX0).below b2).at 1), cbl BD2 (((BX0).below b2).at 2), cbl BD2 (((BX1).below b2).at 0), cbl BD2 (((BX1).below b2).at 1), cbl BD2 (((BX2).below b2).at 0), cbl BD2 (((BX2).below b2).at 1)⟩
  go_wp2_with fail
  go_region_held3 (fun v => v.cell? ⟨w.heap.size, 0, none⟩ = some (.int .i8 st0) ∧ v.cell? ⟨w.heap.size, 1, none⟩ = some (.int .i16 sy0) ∧ v.cell? ⟨w.heap.size, 2, none⟩ = some (.slice a0 len0 cap0) ∧ v.cell? ⟨w.heap.size + 1, 0, none⟩ = some (.int .i8 x10) ∧ v.cell? ⟨w.heap.size + 1, 1, none⟩ = some (.int .i16 x11) ∧ v.cell? ⟨w.heap.size + 1 + 1, 0, none⟩ = some (.int .i8 x20) ∧ v.cell? ⟨w.heap.size + 1 + 1, 1, none⟩ = some (.int .i16 x21)) (first | exact zS6 | exact zS5 | exact zS4 | exact zS3 | exact SD2) (first | (go_at_call 10; (with_reducible refine (toNet_any st0 sy0 a0 len0 cap0 ps0 _ (hr0.below CD2) HL0.out).mono ?_); rintro e w3 ⟨g3, rfl, o3, d3⟩; have b3 : Below w2.heap.size w2 w3 := BD2.trans (d3.mono (Nat.le_refl _)); have zS3 : w3.cell? ⟨w.heap.size, 0, none⟩ = some (.int .i8 st0) ∧ w3.cell? ⟨w.heap.size, 1, none⟩ = some (.int .i16 sy0) ∧ w3.cell? ⟨w.heap.size, 2, none⟩ = some (.slice a0 len0 cap0) ∧ w3.cell? ⟨w.heap.size + 1, 0, none⟩ = some (.int .i8 x10) ∧ w3.cell? ⟨w.heap.size + 1, 1, none⟩ = some (.int .i16 x11) ∧ w3.cell? ⟨w.heap.size + 1 + 1, 0, none⟩ = some (.int .i8 x20) ∧ w3.cell? ⟨w.heap.size + 1 + 1, 1, none⟩ = some (.int .i16 x21) := ⟨cbl d3 SD2.1, cbl d3 SD2.2.1, cbl d3 SD2.2.2.1, cbl d3 SD2.2.2.2.1, cbl d3 SD2.2.2.2.2.1, cbl d3 SD2.2.2.2.2.2.1, cbl d3 SD2.2.2.2.2.2.2⟩) | (go_at_call 11; (with_reducible refine (toScan_one x10 x11 _).mono ?_); rintro e w4 ⟨rfl, b4⟩; have zS4 : w4.cell? ⟨w.heap.size, 0, none⟩ = some (.int .i8 st0) ∧ w4.cell? ⟨w.heap.size, 1, none⟩ = some (.int .i16 sy0) ∧ w4.cell? ⟨w.heap.size, 2, none⟩ = some (.slice a0 len0 cap0) ∧ w4.cell? ⟨w.heap.size + 1, 0, none⟩ = some (.int .i8 x10) ∧ w4.cell? ⟨w.heap.size + 1, 1, none⟩ = some (.int .i16 x11) ∧ w4.cell? ⟨w.heap.size + 1 + 1, 0, none⟩ = some (.int .i8 x20) ∧ w4.cell? ⟨w.heap.size + 1 + 1, 1, none⟩ = some (.int .i16 x21) := ⟨cbl b4 zS3.1, cbl b4 zS3.2.1, cbl b4 zS3.2.2.1, cbl b4 zS3.2.2.2.1, cbl b4 zS3.2.2.2.2.1, cbl b4 zS3.2.2.2.2.2.1, cbl b4 zS3.2.2.2.2.2.2⟩) | (go_at_call 11; (with_reducible refine (toScan_one x20 x21 _).mono ?_); rintro e w5 ⟨rfl, b5⟩; have zS5 : w5.cell? ⟨w.heap.size, 0, none⟩ = some (.int .i8 st0) ∧ w5.cell? ⟨w.heap.size, 1, none⟩ = some (.int .i16 sy0) ∧ w5.cell? ⟨w.heap.size, 2, none⟩ = some (.slice a0 len0 cap0) ∧ w5.cell? ⟨w.heap.size + 1, 0, none⟩ = some (.int .i8 x10) ∧ w5.cell? ⟨w.heap.size + 1, 1, none⟩ = some (.int .i16 x11) ∧ w5.cell? ⟨w.heap.size + 1 + 1, 0, none⟩ = some (.int .i8 x20) ∧ w5.cell? ⟨w.heap.size + 1 + 1, 1, none⟩ = some (.int .i16 x21) := ⟨cbl b5 zS4.1, cbl b5 zS4.2.1, cbl b5 zS4.2.2.1, cbl b5 zS4.2.2.2.1, cbl b5 zS4.2.2.2.2.1, cbl b5 zS4.2.2.2.2.2.1, cbl b5 zS4.2.2.2.2.2.2⟩) | (go_at_call 20; (with_reducible refine (smp_any _ _ _ ps0 _ _ _ _ _ HF0.out HV1.out HV2.out ((o3.below b4).below b5).reads).mono ?_); rintro e w6 ⟨sv0, rfl, so0, b6⟩; have zS6 : w6.cell? ⟨w.heap.size, 0, none⟩ = some (.int .i8 st0) ∧ w6.cell? ⟨w.heap.size, 1, none⟩ = some (.int .i16 sy0) ∧ w6.cell? ⟨w.heap.size, 2, none⟩ = some (.slice a0 len0 cap0) ∧ w6.cell? ⟨w.heap.size + 1, 0, none⟩ = some (.int .i8 x10) ∧ w6.cell? ⟨w.heap.size + 1, 1, none⟩ = some (.int .i16 x11) ∧ w6.cell? ⟨w.heap.size + 1 + 1, 0, none⟩ = some (.int .i8 x20) ∧ w6.cell? ⟨w.heap.size + 1 + 1, 1, none⟩ = some (.int .i16 x21) := ⟨cbl b6 zS5.1, cbl b6 zS5.2.1, cbl b6 zS5.2.2.1, cbl b6 zS5.2.2.2.1, cbl b6 zS5.2.2.2.2.1, cbl b6 zS5.2.2.2.2.2.1, cbl b6 zS5.2.2.2.2.2.2⟩))
  have c3 : Below w.heap.size w w3 := blink c2 b3
  have hs3 : w2.heap.size ≤ w3.heap.size := b3.size
  have c4 : Below w.heap.size w w4 := blink c3 b4
  have hs4 : w3.heap.size ≤ w4.heap.size := b4.size
  have c5 : Below w.heap.size w w5 := blink c4 b5
  have hs5 : w4.heap.size ≤ w5.heap.size := b5.size
  have c6 : Below w.heap.size w w6 := blink c5 b6
  have hs6 : w5.heap.size ≤ w6.heap.size := b6.size
  clear zS3 zS4 zS5 zS6 SD2 CD2 BD2
  have lso0 : Hid (∀ k, Value.ownBlock sv0 = some k → w5.heap.size ≤ k ∧ k < w6.heap.size) := Lib.hid so0.block
  have va0_0_6 : w6.cell? ⟨w.heap.size, 0, none⟩ = some (.int .i8 st0) := ((((((BX0).below b2).below b3).below b4).below b5).below b6).at 0
  have va0_1_6 : w6.cell? ⟨w.heap.size, 1, none⟩ = some (.int .i16 sy0) := ((((((BX0).below b2).below b3).below b4).below b5).below b6).at 1
  have va0_2_6 : w6.cell? ⟨w.heap.size, 2, none⟩ = some (.slice a0 len0 cap0) := ((((((BX0).below b2).below b3).below b4).below b5).below b6).at 2
  have la0_6 : w.heap.size < w6.heap.size := ((((((BX0).below b2).below b3).below b4).below b5).below b6).lt
  go_wp2_with fail
  refine (toNet_any st0 sy0 a0 len0 cap0 ps0 _ (hr0.below c6) HL0.out).mono ?_
  rintro e w7 ⟨g7, rfl, o7, b7⟩
  have c7 : Below w.heap.size w w7 := blink c6 b7
  have hs7 : w6.heap.size ≤ w7.heap.size := b7.size
  have lo7 : Hid (∀ k, Value.ownBlock (.slice (some ⟨g7, 0, none⟩) len0 len0) = some k → w6.heap.size ≤ k ∧ k < w7.heap.size) := Lib.hid o7.block
  have va0_0_7 : w7.cell? ⟨w.heap.size, 0, none⟩ = some (.int .i8 st0) := (((((((BX0).below b2).below b3).below b4).below b5).below b6).below b7).at 0
  have va0_1_7 : w7.cell? ⟨w.heap.size, 1, none⟩ = some (.int .i16 sy0) := (((((((BX0).below b2).below b3).below b4).below b5).below b6).below b7).at 1
  have va0_2_7 : w7.cell? ⟨w.heap.size, 2, none⟩ = some (.slice a0 len0 cap0) := (((((((BX0).below b2).below b3).below b4).below b5).below b6).below b7).at 2
  have la0_7 : w.heap.size < w7.heap.size := (((((((BX0).below b2).below b3).below b4).below b5).below b6).below b7).lt
  have va1_0_7 : w7.cell? ⟨w.heap.size + 1, 0, none⟩ = some (.int .i8 x10) := (((((((BX1).below b2).below b3).below b4).below b5).below b6).below b7).at 0
  have va1_1_7 : w7.cell? ⟨w.heap.size + 1, 1, none⟩ = some (.int .i16 x11) := (((((((BX1).below b2).below b3).below b4).below b5).below b6).below b7).at 1
  have la1_7 : w.heap.size + 1 < w7.heap.size := (((((((BX1).below b2).below b3).below b4).below b5).below b6).below b7).lt
  have va2_0_7 : w7.cell? ⟨w.heap.size + 1 + 1, 0, none⟩ = some (.int .i8 x20) := (((((((BX2).below b2).below b3).below b4).below b5).below b6).below b7).at 0
  have va2_1_7 : w7.cell? ⟨w.heap.size + 1 + 1, 1, none⟩ = some (.int .i16 x21) := (((((((BX2).below b2).below b3).below b4).below b5).below b6).below b7).at 1
  have la2_7 : w.heap.size + 1 + 1 < w7.heap.size := (((((((BX2).below b2).below b3).below b4).below b5).below b6).below b7).lt
  go_wp2_with fail
  have b8 : Below w7.heap.size w7 (w7.alloc (.cells #[.int .i8 st0, .int .i16 sy0, .slice (some ⟨g7, 0, none⟩) len0 len0] 35)) := (Below.refl _ _).alloc (Nat.le_refl _) _
  have BY0 : BlkA (w7.alloc (.cells #[.int .i8 st0, .int .i16 sy0, .slice (some ⟨g7, 0, none⟩) len0 len0] 35)) w7.heap.size 35 #[.int .i8 st0, .int .i16 sy0, .slice (some ⟨g7, 0, none⟩) len0 len0] := BlkA.new rfl _ _
  generalize (w7.alloc (.cells #[.int .i8 st0, .int .i16 sy0, .slice (some ⟨g7, 0, none⟩) len0 len0] 35)) = w8 at b8 BY0 ⊢
  have c8 : Below w.heap.size w w8 := blink c7 b8
  have hs8 : w7.heap.size ≤ w8.heap.size := b8.size
  have hx0 : w7.heap.size < w8.heap.size := BY0.lt
  have CD8 : Below w.heap.size w w8.drew := Below.drew c8
  have BD8 : Below w8.heap.size w8 w8.drew := (Below.refl _ _).drew
  have SD8 : w8.drew.cell? ⟨w.heap.size, 0, none⟩ = some (.int .i8 st0) ∧ w8.drew.cell? ⟨w.heap.size, 1, none⟩ = some (.int .i16 sy0) ∧ w8.drew.cell? ⟨w.heap.size, 2, none⟩ = some (.slice a0 len0 cap0) ∧ w8.drew.cell? ⟨w.heap.size + 1, 0, none⟩ = some (.int .i8 x10) ∧ w8.drew.cell? ⟨w.heap.size + 1, 1, none⟩ = some (.int .i16 x11) ∧ w8.drew.cell? ⟨w.heap.size + 1 + 1, 0, none⟩ = some (.int .i8 x20) ∧ w8.drew.cell? ⟨w.heap.size + 1 + 1, 1, none⟩ = some (.int .i16 x21) ∧ w8.drew.cell? ⟨w7.heap.size, 0, none⟩ = some (.int .i8 st0) ∧ w8.drew.cell? ⟨w7.heap.size, 1, none⟩ = some (.int .i16 sy0) ∧ w8.drew.cell? ⟨w7.heap.size, 2, none⟩ = some (.slice (some ⟨g7, 0, none⟩) len0 len0) := ⟨cbl BD8 (((((((((BX0).below b2).below b3).below b4).below b5).below b6).below b7).below b8).at 0), cbl BD8 (((((((((BX0).below b2).below b3).below b4).below b5).below b6).below b7).below b8).at 1), cbl BD8 (((((((((BX0).below b2).below b3).below b4).below b5).below b6).below b7).below b8).at 2), cbl BD8 (((((((((BX1).below b2).below b3).below b4).below b5).below b6).below b7).below b8).at 0), cbl BD8 (((((((((BX1).below b2).below b3).below b4).below b5).below b6).below b7).below b8).at 1), cbl BD8 (((((((((BX2).below b2).below b3).below b4).below b5).below b6).below b7).below b8).at 0), cbl BD8 (((((((((BX2).below b2).below b3).below b4).below b5).below b6).below b7).below b8).at 1), cbl BD8 ((BY0).at 0), cbl BD8 ((BY0).at 1), cbl BD8 ((BY0).at 2)⟩
  go_wp2_with fail
  go_region_held3 (fun v => v.cell? ⟨w.heap.size, 0, none⟩ = some (.int .i8 st0) ∧ v.cell? ⟨w.heap.size, 1, none⟩ = some (.int .i16 sy0) ∧ v.cell? ⟨w.heap.size, 2, none⟩ = some (.slice a0 len0 cap0) ∧ v.cell? ⟨w.heap.size + 1, 0, none⟩ = some (.int .i8 x10) ∧ v.cell? ⟨w.heap.size + 1, 1, none⟩ = some (.int .i16 x11) ∧ v.cell? ⟨w.heap.size + 1 + 1, 0, none⟩ = some (.int .i8 x20) ∧ v.cell? ⟨w.heap.size + 1 + 1, 1, none⟩ = some (.int .i16 x21) ∧ v.cell? ⟨w7.heap.size, 0, none⟩ = some (.int .i8 st0) ∧ v.cell? ⟨w7.heap.size, 1, none⟩ = some (.int .i16 sy0) ∧ v.cell? ⟨w7.heap.size, 2, none⟩ = some (.slice (some ⟨g7, 0, none⟩) len0 len0)) (first | exact zS11 | exact zS10 | exact zS9 | exact SD8) (first | (go_at_call 11; (with_reducible refine (toScan_one x10 x11 _).mono ?_); rintro e w9 ⟨rfl, d9⟩; have b9 : Below w8.heap.size w8 w9 := BD8.trans (d9.mono (Nat.le_refl _)); have zS9 : w9.cell? ⟨w.heap.size, 0, none⟩ = some (.int .i8 st0) ∧ w9.cell? ⟨w.heap.size, 1, none⟩ = some (.int .i16 sy0) ∧ w9.cell? ⟨w.heap.size, 2, none⟩ = some (.slice a0 len0 cap0) ∧ w9.cell? ⟨w.heap.size + 1, 0, none⟩ = some (.int .i8 x10) ∧ w9.cell? ⟨w.heap.size + 1, 1, none⟩ = some (.int .i16 x11) ∧ w9.cell? ⟨w.heap.size + 1 + 1, 0, none⟩ = some (.int .i8 x20) ∧ w9.cell? ⟨w.heap.size + 1 + 1, 1, none⟩ = some (.int .i16 x21) ∧ w9.cell? ⟨w7.heap.size, 0, none⟩ = some (.int .i8 st0) ∧ w9.cell? ⟨w7.heap.size, 1, none⟩ = some (.int .i16 sy0) ∧ w9.cell? ⟨w7.heap.size, 2, none⟩ = some (.slice (some ⟨g7, 0, none⟩) len0 len0) := ⟨cbl d9 SD8.1, cbl d9 SD8.2.1, cbl d9 SD8.2.2.1, cbl d9 SD8.2.2.2.1, cbl d9 SD8.2.2.2.2.1, cbl d9 SD8.2.2.2.2.2.1, cbl d9 SD8.2.2.2.2.2.2.1, cbl d9 SD8.2.2.2.2.2.2.2.1, cbl d9 SD8.2.2.2.2.2.2.2.2.1, cbl d9 SD8.2.2.2.2.2.2.2.2.2⟩) | (go_at_call 11; (with_reducible refine (toScan_one x20 x21 _).mono ?_); rintro e w10 ⟨rfl, b10⟩; have zS10 : w10.cell? ⟨w.heap.size, 0, none⟩ = some (.int .i8 st0) ∧ w10.cell? ⟨w.heap.size, 1, none⟩ = some (.int .i16 sy0) ∧ w10.cell? ⟨w.heap.size, 2, none⟩ = some (.slice a0 len0 cap0) ∧ w10.cell? ⟨w.heap.size + 1, 0, none⟩ = some (.int .i8 x10) ∧ w10.cell? ⟨w.heap.size + 1, 1, none⟩ = some (.int .i16 x11) ∧ w10.cell? ⟨w.heap.size + 1 + 1, 0, none⟩ = some (.int .i8 x20) ∧ w10.cell? ⟨w.heap.size + 1 + 1, 1, none⟩ = some (.int .i16 x21) ∧ w10.cell? ⟨w7.heap.size, 0, none⟩ = some (.int .i8 st0) ∧ w10.cell? ⟨w7.heap.size, 1, none⟩ = some (.int .i16 sy0) ∧ w10.cell? ⟨w7.heap.size, 2, none⟩ = some (.slice (some ⟨g7, 0, none⟩) len0 len0) := ⟨cbl b10 zS9.1, cbl b10 zS9.2.1, cbl b10 zS9.2.2.1, cbl b10 zS9.2.2.2.1, cbl b10 zS9.2.2.2.2.1, cbl b10 zS9.2.2.2.2.2.1, cbl b10 zS9.2.2.2.2.2.2.1, cbl b10 zS9.2.2.2.2.2.2.2.1, cbl b10 zS9.2.2.2.2.2.2.2.2.1, cbl b10 zS9.2.2.2.2.2.2.2.2.2⟩) | (go_at_call 21; (with_reducible refine (imp_any _ _ _ ps0 _ _ _ _ _ HF0.out HV1.out HV2.out (((((o7).below b8).below BD8).below d9).below b10).reads).mono ?_); rintro e w11 ⟨gv0, rfl, go0, b11⟩; have zS11 : w11.cell? ⟨w.heap.size, 0, none⟩ = some (.int .i8 st0) ∧ w11.cell? ⟨w.heap.size, 1, none⟩ = some (.int .i16 sy0) ∧ w11.cell? ⟨w.heap.size, 2, none⟩ = some (.slice a0 len0 cap0) ∧ w11.cell? ⟨w.heap.size + 1, 0, none⟩ = some (.int .i8 x10) ∧ w11.cell? ⟨w.heap.size + 1, 1, none⟩ = some (.int .i16 x11) ∧ w11.cell? ⟨w.heap.size + 1 + 1, 0, none⟩ = some (.int .i8 x20) ∧ w11.cell? ⟨w.heap.size + 1 + 1, 1, none⟩ = some (.int .i16 x21) ∧ w11.cell? ⟨w7.heap.size, 0, none⟩ = some (.int .i8 st0) ∧ w11.cell? ⟨w7.heap.size, 1, none⟩ = some (.int .i16 sy0) ∧ w11.cell? ⟨w7.heap.size, 2, none⟩ = some (.slice (some ⟨g7, 0, none⟩) len0 len0) := ⟨cbl b11 zS10.1, cbl b11 zS10.2.1, cbl b11 zS10.2.2.1, cbl b11 zS10.2.2.2.1, cbl b11 zS10.2.2.2.2.1, cbl b11 zS10.2.2.2.2.2.1, cbl b11 zS10.2.2.2.2.2.2.1, cbl b11 zS10.2.2.2.2.2.2.2.1, cbl b11 zS10.2.2.2.2.2.2.2.2.1, cbl b11 zS10.2.2.2.2.2.2.2.2.2⟩))
  have c9 : Below w.heap.size w w9 := blink c8 b9
  have hs9 : w8.heap.size ≤ w9.heap.size := b9.size
  have c10 : Below w.heap.size w w10 := blink c9 b10
  have hs10 : w9.heap.size ≤ w10.heap.size := b10.size
  have c11 : Below w.heap.size w w11 := blink c10 b11
  have hs11 : w10.heap.size ≤ w11.heap.size := b11.size
  clear zS9 zS10 zS11 SD8 CD8 BD8
  have lgo0 : Hid (∀ k, Value.ownBlock gv0 = some k → w10.heap.size ≤ k ∧ k < w11.heap.size) := Lib.hid go0.block
  go_wp2_with fail
  refine (eqI_any _ _ (mpR st0 sy0 ps0 x10 x11 x20 x21) (mpR st0 sy0 ps0 x10 x11 x20 x21) _ (go0).reads ((((((so0).below b7).below b8).below b9).below b10).below b11).reads (HLB0.out) (HLB0.out)).mono ?_
  rintro e w12 ⟨rfl, b12⟩
  have c12 : Below w.heap.size w w12 := blink c11 b12
  have hs12 : w11.heap.size ≤ w12.heap.size := b12.size
  rw [eqB_true rfl]
  have CD12 : Below w.heap.size w w12.drew := Below.drew c12
  have BD12 : Below w12.heap.size w12 w12.drew := (Below.refl _ _).drew
  have SD12 : w12.drew.cell? ⟨w.heap.size, 0, none⟩ = some (.int .i8 st0) ∧ w12.drew.cell? ⟨w.heap.size, 1, none⟩ = some (.int .i16 sy0) ∧ w12.drew.cell? ⟨w.heap.size, 2, none⟩ = some (.slice a0 len0 cap0) ∧ w12.drew.cell? ⟨w.heap.size + 1, 0, none⟩ = some (.int .i8 x10) ∧ w12.drew.cell? ⟨w.heap.size + 1, 1, none⟩ = some (.int .i16 x11) ∧ w12.drew.cell? ⟨w.heap.size + 1 + 1, 0, none⟩ = some (.int .i8 x20) ∧ w12.drew.cell? ⟨w.heap.size + 1 + 1, 1, none⟩ = some (.int .i16 x21) ∧ w12.drew.cell? ⟨w7.heap.size, 0, none⟩ = some (.int .i8 st0) ∧ w12.drew.cell? ⟨w7.heap.size, 1, none⟩ = some (.int .i16 sy0) ∧ w12.drew.cell? ⟨w7.heap.size, 2, none⟩ = some (.slice (some ⟨g7, 0, none⟩) len0 len0) := ⟨cbl BD12 (((((((((((((BX0).below b2).below b3).below b4).below b5).below b6).below b7).below b8).below b9).below b10).below b11).below b12).at 0), cbl BD12 (((((((((((((BX0).below b2).below b3).below b4).below b5).below b6).below b7).below b8).below b9).below b10).below b11).below b12).at 1), cbl BD12 (((((((((((((BX0).below b2).below b3).below b4).below b5).below b6).below b7).below b8).below b9).below b10).below b11).below b12).at 2), cbl BD12 (((((((((((((BX1).below b2).below b3).below b4).below b5).below b6).below b7).below b8).below b9).below b10).below b11).below b12).at 0), cbl BD12 (((((((((((((BX1).below b2).below b3).below b4).below b5).below b6).below b7).below b8).below b9).below b10).below b11).below b12).at 1), cbl BD12 (((((((((((((BX2).below b2).below b3).below b4).below b5).below b6).below b7).below b8).below b9).below b10).below b11).below b12).at 0), cbl BD12 (((((((((((((BX2).below b2).below b3).below b4).below b5).below b6).below b7).below b8).below b9).below b10).below b11).below b12).at 1), cbl BD12 ((((((BY0).below b9).below b10).below b11).below b12).at 0), cbl BD12 ((((((BY0).below b9).below b10).below b11).below b12).at 1), cbl BD12 ((((((BY0).below b9).below b10).below b11).below b12).at 2)⟩
  go_wp2_with fail
  go_region_held3 (fun v => v.cell? ⟨w.heap.size, 0, none⟩ = some (.int .i8 st0) ∧ v.cell? ⟨w.heap.size, 1, none⟩ = some (.int .i16 sy0) ∧ v.cell? ⟨w.heap.size, 2, none⟩ = some (.slice a0 len0 cap0) ∧ v.cell? ⟨w.heap.size + 1, 0, none⟩ = some (.int .i8 x10) ∧ v.cell? ⟨w.heap.size + 1, 1, none⟩ = some (.int .i16 x11) ∧ v.cell? ⟨w.heap.size + 1 + 1, 0, none⟩ = some (.int .i8 x20) ∧ v.cell? ⟨w.heap.size + 1 + 1, 1, none⟩ = some (.int .i16 x21) ∧ v.cell? ⟨w7.heap.size, 0, none⟩ = some (.int .i8 st0) ∧ v.cell? ⟨w7.heap.size, 1, none⟩ = some (.int .i16 sy0) ∧ v.cell? ⟨w7.heap.size, 2, none⟩ = some (.slice (some ⟨g7, 0, none⟩) len0 len0)) (first | exact zS14 | exact zS13 | exact SD12) (first | (go_at_call 10; (with_reducible refine (toNet_any st0 sy0 a0 len0 cap0 ps0 _ (hr0.below CD12) HL0.out).mono ?_); rintro e w13 ⟨g13, rfl, o13, d13⟩; have b13 : Below w12.heap.size w12 w13 := BD12.trans (d13.mono (Nat.le_refl _)); have zS13 : w13.cell? ⟨w.heap.size, 0, none⟩ = some (.int .i8 st0) ∧ w13.cell? ⟨w.heap.size, 1, none⟩ = some (.int .i16 sy0) ∧ w13.cell? ⟨w.heap.size, 2, none⟩ = some (.slice a0 len0 cap0) ∧ w13.cell? ⟨w.heap.size + 1, 0, none⟩ = some (.int .i8 x10) ∧ w13.cell? ⟨w.heap.size + 1, 1, none⟩ = some (.int .i16 x11) ∧ w13.cell? ⟨w.heap.size + 1 + 1, 0, none⟩ = some (.int .i8 x20) ∧ w13.cell? ⟨w.heap.size + 1 + 1, 1, none⟩ = some (.int .i16 x21) ∧ w13.cell? ⟨w7.heap.size, 0, none⟩ = some (.int .i8 st0) ∧ w13.cell? ⟨w7.heap.size, 1, none⟩ = some (.int .i16 sy0) ∧ w13.cell? ⟨w7.heap.size, 2, none⟩ = some (.slice (some ⟨g7, 0, none⟩) len0 len0) := ⟨cbl d13 SD12.1, cbl d13 SD12.2.1, cbl d13 SD12.2.2.1, cbl d13 SD12.2.2.2.1, cbl d13 SD12.2.2.2.2.1, cbl d13 SD12.2.2.2.2.2.1, cbl d13 SD12.2.2.2.2.2.2.1, cbl d13 SD12.2.2.2.2.2.2.2.1, cbl d13 SD12.2.2.2.2.2.2.2.2.1, cbl d13 SD12.2.2.2.2.2.2.2.2.2⟩) | (go_at_call 14; (with_reducible refine (eqNet_eq st0 sy0 _ _ ps0 _ ((((((((o7).below b8).below b9).below b10).below b11).below b12).below BD12).below d13).reads o13.reads HX0.out).mono ?_); rintro e w14 ⟨rfl, b14⟩; have zS14 : w14.cell? ⟨w.heap.size, 0, none⟩ = some (.int .i8 st0) ∧ w14.cell? ⟨w.heap.size, 1, none⟩ = some (.int .i16 sy0) ∧ w14.cell? ⟨w.heap.size, 2, none⟩ = some (.slice a0 len0 cap0) ∧ w14.cell? ⟨w.heap.size + 1, 0, none⟩ = some (.int .i8 x10) ∧ w14.cell? ⟨w.heap.size + 1, 1, none⟩ = some (.int .i16 x11) ∧ w14.cell? ⟨w.heap.size + 1 + 1, 0, none⟩ = some (.int .i8 x20) ∧ w14.cell? ⟨w.heap.size + 1 + 1, 1, none⟩ = some (.int .i16 x21) ∧ w14.cell? ⟨w7.heap.size, 0, none⟩ = some (.int .i8 st0) ∧ w14.cell? ⟨w7.heap.size, 1, none⟩ = some (.int .i16 sy0) ∧ w14.cell? ⟨w7.heap.size, 2, none⟩ = some (.slice (some ⟨g7, 0, none⟩) len0 len0) := ⟨cbl b14 zS13.1, cbl b14 zS13.2.1, cbl b14 zS13.2.2.1, cbl b14 zS13.2.2.2.1, cbl b14 zS13.2.2.2.2.1, cbl b14 zS13.2.2.2.2.2.1, cbl b14 zS13.2.2.2.2.2.2.1, cbl b14 zS13.2.2.2.2.2.2.2.1, cbl b14 zS13.2.2.2.2.2.2.2.2.1, cbl b14 zS13.2.2.2.2.2.2.2.2.2⟩))
  have c13 : Below w.heap.size w w13 := blink c12 b13
  have hs13 : w12.heap.size ≤ w13.heap.size := b13.size
  have c14 : Below w.heap.size w w14 := blink c13 b14
  have hs14 : w13.heap.size ≤ w14.heap.size := b14.size
  clear zS13 zS14 SD12 CD12 BD12
  have vx0_0_14 : w14.cell? ⟨w7.heap.size, 0, none⟩ = some (.int .i8 st0) := (((((((BY0).below b9).below b10).below b11).below b12).below b13).below b14).at 0
  have vx0_1_14 : w14.cell? ⟨w7.heap.size, 1, none⟩ = some (.int .i16 sy0) := (((((((BY0).below b9).below b10).below b11).below b12).below b13).below b14).at 1
  have vx0_2_14 : w14.cell? ⟨w7.heap.size, 2, none⟩ = some (.slice (some ⟨g7, 0, none⟩) len0 len0) := (((((((BY0).below b9).below b10).below b11).below b12).below b13).below b14).at 2
  have lx0_14 : w7.heap.size < w14.heap.size := (((((((BY0).below b9).below b10).below b11).below b12).below b13).below b14).lt
  go_wp2_with fail
  refine (markNet_any _ _ st0 sy0 _ ps0 _ _ ((((((((o7).below b8).below b9).below b10).below b11).below b12).below b13).below b14) (by omega) (by omega) HX0.out).mono ?_
  rintro e w15 ⟨rfl, mk1, G15⟩
  have K15 : KeepsOut w6.heap.size w7.heap.size w14 w15 := G15 _ _ (fun k hk => by have := lo7.out k hk; omega)
  have c15 : Below w.heap.size w w15 := kout_below c14 K15 (by omega) (by omega)
  have hs15 : w14.heap.size ≤ w15.heap.size := K15.size
  go_wp2_with fail
  refine (eqI_any _ _ (mpR st0 sy0 ps0 x10 x11 x20 x21) (mpR st0 sy0 ps0 x10 x11 x20 x21) _ (((((go0).below b12).below b13).below b14).out K15 (fun k hk => by have := lgo0.out k hk; omega)).reads ((((((((((so0).below b7).below b8).below b9).below b10).below b11).below b12).below b13).below b14).out K15 (fun k hk => by have := lso0.out k hk; omega)).reads (HLB0.out) (HLB0.out)).mono ?_
  rintro e w16 ⟨rfl, b16⟩
  have c16 : Below w.heap.size w w16 := blink c15 b16
  have hs16 : w15.heap.size ≤ w16.heap.size := b16.size
  rw [eqB_true rfl]
  go_wp2_with fail
  refine (mark_any _ _ (mpR st0 sy0 ps0 x10 x11 x20 x21) _ _ ((((((go0).below b12).below b13).below b14).out K15 (fun k hk => by have := lgo0.out k hk; omega)).below b16) (by omega) (by omega) (HLB0.out)).mono ?_
  rintro e w17 ⟨rfl, mk2, g17⟩
  have K17 : KeepsOut w10.heap.size w11.heap.size w16 w17 := keepsOut_grown g17 (fun k hk => by have := lgo0.out k hk; omega)
  have c17 : Below w.heap.size w w17 := kout_below c16 K17 (by omega) (by omega)
  have hs17 : w16.heap.size ≤ w17.heap.size := K17.size
  have lmk2 : Hid (∀ k, Value.ownBlock gv0 = some k → w10.heap.size ≤ k ∧ k < w11.heap.size) := lgo0
  go_wp2_with fail
  refine (held_any _ _ _ _ (mk2).reads (by omega) (by omega) (HLB0.out)).mono ?_
  rintro e w18 ⟨rfl, b18⟩
  have c18 : Below w.heap.size w w18 := blink c17 b18
  have hs18 : w17.heap.size ≤ w18.heap.size := b18.size
  have CD18 : Below w.heap.size w w18.drew := Below.drew c18
  have BD18 : Below w18.heap.size w18 w18.drew := (Below.refl _ _).drew
  have SD18 : w18.drew.cell? ⟨w.heap.size, 0, none⟩ = some (.int .i8 st0) ∧ w18.drew.cell? ⟨w.heap.size, 1, none⟩ = some (.int .i16 sy0) ∧ w18.drew.cell? ⟨w.heap.size, 2, none⟩ = some (.slice a0 len0 cap0) ∧ w18.drew.cell? ⟨w.heap.size + 1, 0, none⟩ = some (.int .i8 x10) ∧ w18.drew.cell? ⟨w.heap.size + 1, 1, none⟩ = some (.int .i16 x11) ∧ w18.drew.cell? ⟨w.heap.size + 1 + 1, 0, none⟩ = some (.int .i8 x20) ∧ w18.drew.cell? ⟨w.heap.size + 1 + 1, 1, none⟩ = some (.int .i16 x21) ∧ w18.drew.cell? ⟨w7.heap.size, 0, none⟩ = some (.int .i8 st0) ∧ w18.drew.cell? ⟨w7.heap.size, 1, none⟩ = some (.int .i16 sy0) ∧ w18.drew.cell? ⟨w7.heap.size, 2, none⟩ = some (.slice (some ⟨g7, 0, none⟩) len0 len0) := ⟨cbl BD18 (((((((((((((((((((BX0).below b2).below b3).below b4).below b5).below b6).below b7).below b8).below b9).below b10).below b11).below b12).below b13).below b14).out K15 (by omega)).below b16).out K17 (by omega)).below b18).at 0), cbl BD18 (((((((((((((((((((BX0).below b2).below b3).below b4).below b5).below b6).below b7).below b8).below b9).below b10).below b11).below b12).below b13).below b14).out K15 (by omega)).below b16).out K17 (by omega)).below b18).at 1), cbl BD18 (((((((((((((((((((BX0).below b2).below b3).below b4).below b5).below b6).below b7).below b8).below b9).below b10).below b11).below b12).below b13).below b14).out K15 (by omega)).below b16).out K17 (by omega)).below b18).at 2), cbl BD18 (((((((((((((((((((BX1).below b2).below b3).below b4).below b5).below b6).below b7).below b8).below b9).below b10).below b11).below b12).below b13).below b14).out K15 (by omega)).below b16).out K17 (by omega)).below b18).at 0), cbl BD18 (((((((((((((((((((BX1).below b2).below b3).below b4).below b5).below b6).below b7).below b8).below b9).below b10).below b11).below b12).below b13).below b14).out K15 (by omega)).below b16).out K17 (by omega)).below b18).at 1), cbl BD18 (((((((((((((((((((BX2).below b2).below b3).below b4).below b5).below b6).below b7).below b8).below b9).below b10).below b11).below b12).below b13).below b14).out K15 (by omega)).below b16).out K17 (by omega)).below b18).at 0), cbl BD18 (((((((((((((((((((BX2).below b2).below b3).below b4).below b5).below b6).below b7).below b8).below b9).below b10).below b11).below b12).below b13).below b14).out K15 (by omega)).below b16).out K17 (by omega)).below b18).at 1), cbl BD18 ((((((((((((BY0).below b9).below b10).below b11).below b12).below b13).below b14).out K15 (by omega)).below b16).out K17 (by omega)).below b18).at 0), cbl BD18 ((((((((((((BY0).below b9).below b10).below b11).below b12).below b13).below b14).out K15 (by omega)).below b16).out K17 (by omega)).below b18).at 1), cbl BD18 ((((((((((((BY0).below b9).below b10).below b11).below b12).below b13).below b14).out K15 (by omega)).below b16).out K17 (by omega)).below b18).at 2)⟩
  go_wp2_with fail
  go_region_held3 (fun v => v.cell? ⟨w.heap.size, 0, none⟩ = some (.int .i8 st0) ∧ v.cell? ⟨w.heap.size, 1, none⟩ = some (.int .i16 sy0) ∧ v.cell? ⟨w.heap.size, 2, none⟩ = some (.slice a0 len0 cap0) ∧ v.cell? ⟨w.heap.size + 1, 0, none⟩ = some (.int .i8 x10) ∧ v.cell? ⟨w.heap.size + 1, 1, none⟩ = some (.int .i16 x11) ∧ v.cell? ⟨w.heap.size + 1 + 1, 0, none⟩ = some (.int .i8 x20) ∧ v.cell? ⟨w.heap.size + 1 + 1, 1, none⟩ = some (.int .i16 x21) ∧ v.cell? ⟨w7.heap.size, 0, none⟩ = some (.int .i8 st0) ∧ v.cell? ⟨w7.heap.size, 1, none⟩ = some (.int .i16 sy0) ∧ v.cell? ⟨w7.heap.size, 2, none⟩ = some (.slice (some ⟨g7, 0, none⟩) len0 len0)) (first | exact zS22 | exact zS21 | exact zS20 | exact zS19 | exact SD18) (first | (go_at_call 10; (with_reducible refine (toNet_any st0 sy0 a0 len0 cap0 ps0 _ (hr0.below CD18) HL0.out).mono ?_); rintro e w19 ⟨g19, rfl, o19, d19⟩; have b19 : Below w18.heap.size w18 w19 := BD18.trans (d19.mono (Nat.le_refl _)); have zS19 : w19.cell? ⟨w.heap.size, 0, none⟩ = some (.int .i8 st0) ∧ w19.cell? ⟨w.heap.size, 1, none⟩ = some (.int .i16 sy0) ∧ w19.cell? ⟨w.heap.size, 2, none⟩ = some (.slice a0 len0 cap0) ∧ w19.cell? ⟨w.heap.size + 1, 0, none⟩ = some (.int .i8 x10) ∧ w19.cell? ⟨w.heap.size + 1, 1, none⟩ = some (.int .i16 x11) ∧ w19.cell? ⟨w.heap.size + 1 + 1, 0, none⟩ = some (.int .i8 x20) ∧ w19.cell? ⟨w.heap.size + 1 + 1, 1, none⟩ = some (.int .i16 x21) ∧ w19.cell? ⟨w7.heap.size, 0, none⟩ = some (.int .i8 st0) ∧ w19.cell? ⟨w7.heap.size, 1, none⟩ = some (.int .i16 sy0) ∧ w19.cell? ⟨w7.heap.size, 2, none⟩ = some (.slice (some ⟨g7, 0, none⟩) len0 len0) := ⟨cbl d19 SD18.1, cbl d19 SD18.2.1, cbl d19 SD18.2.2.1, cbl d19 SD18.2.2.2.1, cbl d19 SD18.2.2.2.2.1, cbl d19 SD18.2.2.2.2.2.1, cbl d19 SD18.2.2.2.2.2.2.1, cbl d19 SD18.2.2.2.2.2.2.2.1, cbl d19 SD18.2.2.2.2.2.2.2.2.1, cbl d19 SD18.2.2.2.2.2.2.2.2.2⟩) | (go_at_call 11; (with_reducible refine (toScan_one x10 x11 _).mono ?_); rintro e w20 ⟨rfl, b20⟩; have zS20 : w20.cell? ⟨w.heap.size, 0, none⟩ = some (.int .i8 st0) ∧ w20.cell? ⟨w.heap.size, 1, none⟩ = some (.int .i16 sy0) ∧ w20.cell? ⟨w.heap.size, 2, none⟩ = some (.slice a0 len0 cap0) ∧ w20.cell? ⟨w.heap.size + 1, 0, none⟩ = some (.int .i8 x10) ∧ w20.cell? ⟨w.heap.size + 1, 1, none⟩ = some (.int .i16 x11) ∧ w20.cell? ⟨w.heap.size + 1 + 1, 0, none⟩ = some (.int .i8 x20) ∧ w20.cell? ⟨w.heap.size + 1 + 1, 1, none⟩ = some (.int .i16 x21) ∧ w20.cell? ⟨w7.heap.size, 0, none⟩ = some (.int .i8 st0) ∧ w20.cell? ⟨w7.heap.size, 1, none⟩ = some (.int .i16 sy0) ∧ w20.cell? ⟨w7.heap.size, 2, none⟩ = some (.slice (some ⟨g7, 0, none⟩) len0 len0) := ⟨cbl b20 zS19.1, cbl b20 zS19.2.1, cbl b20 zS19.2.2.1, cbl b20 zS19.2.2.2.1, cbl b20 zS19.2.2.2.2.1, cbl b20 zS19.2.2.2.2.2.1, cbl b20 zS19.2.2.2.2.2.2.1, cbl b20 zS19.2.2.2.2.2.2.2.1, cbl b20 zS19.2.2.2.2.2.2.2.2.1, cbl b20 zS19.2.2.2.2.2.2.2.2.2⟩) | (go_at_call 11; (with_reducible refine (toScan_one x20 x21 _).mono ?_); rintro e w21 ⟨rfl, b21⟩; have zS21 : w21.cell? ⟨w.heap.size, 0, none⟩ = some (.int .i8 st0) ∧ w21.cell? ⟨w.heap.size, 1, none⟩ = some (.int .i16 sy0) ∧ w21.cell? ⟨w.heap.size, 2, none⟩ = some (.slice a0 len0 cap0) ∧ w21.cell? ⟨w.heap.size + 1, 0, none⟩ = some (.int .i8 x10) ∧ w21.cell? ⟨w.heap.size + 1, 1, none⟩ = some (.int .i16 x11) ∧ w21.cell? ⟨w.heap.size + 1 + 1, 0, none⟩ = some (.int .i8 x20) ∧ w21.cell? ⟨w.heap.size + 1 + 1, 1, none⟩ = some (.int .i16 x21) ∧ w21.cell? ⟨w7.heap.size, 0, none⟩ = some (.int .i8 st0) ∧ w21.cell? ⟨w7.heap.size, 1, none⟩ = some (.int .i16 sy0) ∧ w21.cell? ⟨w7.heap.size, 2, none⟩ = some (.slice (some ⟨g7, 0, none⟩) len0 len0) := ⟨cbl b21 zS20.1, cbl b21 zS20.2.1, cbl b21 zS20.2.2.1, cbl b21 zS20.2.2.2.1, cbl b21 zS20.2.2.2.2.1, cbl b21 zS20.2.2.2.2.2.1, cbl b21 zS20.2.2.2.2.2.2.1, cbl b21 zS20.2.2.2.2.2.2.2.1, cbl b21 zS20.2.2.2.2.2.2.2.2.1, cbl b21 zS20.2.2.2.2.2.2.2.2.2⟩) | (go_at_call 21; (with_reducible refine (imp_any _ _ _ ps0 _ _ _ _ _ HF0.out HV1.out HV2.out ((o19.below b20).below b21).reads).mono ?_); rintro e w22 ⟨hv0, rfl, ho0, b22⟩; have zS22 : w22.cell? ⟨w.heap.size, 0, none⟩ = some (.int .i8 st0) ∧ w22.cell? ⟨w.heap.size, 1, none⟩ = some (.int .i16 sy0) ∧ w22.cell? ⟨w.heap.size, 2, none⟩ = some (.slice a0 len0 cap0) ∧ w22.cell? ⟨w.heap.size + 1, 0, none⟩ = some (.int .i8 x10) ∧ w22.cell? ⟨w.heap.size + 1, 1, none⟩ = some (.int .i16 x11) ∧ w22.cell? ⟨w.heap.size + 1 + 1, 0, none⟩ = some (.int .i8 x20) ∧ w22.cell? ⟨w.heap.size + 1 + 1, 1, none⟩ = some (.int .i16 x21) ∧ w22.cell? ⟨w7.heap.size, 0, none⟩ = some (.int .i8 st0) ∧ w22.cell? ⟨w7.heap.size, 1, none⟩ = some (.int .i16 sy0) ∧ w22.cell? ⟨w7.heap.size, 2, none⟩ = some (.slice (some ⟨g7, 0, none⟩) len0 len0) := ⟨cbl b22 zS21.1, cbl b22 zS21.2.1, cbl b22 zS21.2.2.1, cbl b22 zS21.2.2.2.1, cbl b22 zS21.2.2.2.2.1, cbl b22 zS21.2.2.2.2.2.1, cbl b22 zS21.2.2.2.2.2.2.1, cbl b22 zS21.2.2.2.2.2.2.2.1, cbl b22 zS21.2.2.2.2.2.2.2.2.1, cbl b22 zS21.2.2.2.2.2.2.2.2.2⟩))
  have c19 : Below w.heap.size w w19 := blink c18 b19
  have hs19 : w18.heap.size ≤ w19.heap.size := b19.size
  have c20 : Below w.heap.size w w20 := blink c19 b20
  have hs20 : w19.heap.size ≤ w20.heap.size := b20.size
  have c21 : Below w.heap.size w w21 := blink c20 b21
  have hs21 : w20.heap.size ≤ w21.heap.size := b21.size
  have c22 : Below w.heap.size w w22 := blink c21 b22
  have hs22 : w21.heap.size ≤ w22.heap.size := b22.size
  clear zS19 zS20 zS21 zS22 SD18 CD18 BD18
  have lho0 : Hid (∀ k, Value.ownBlock hv0 = some k → w21.heap.size ≤ k ∧ k < w22.heap.size) := Lib.hid ho0.block
  go_wp2_with fail
  refine (eqI_any _ _ (mpR st0 sy0 ps0 x10 x11 x20 x21) (mpR st0 sy0 ps0 x10 x11 x20 x21) _ (ho0).reads (((((((((((((((((so0).below b7).below b8).below b9).below b10).below b11).below b12).below b13).below b14).out K15 (fun k hk => by have := lso0.out k hk; omega)).below b16).out K17 (fun k hk => by have := lso0.out k hk; omega)).below b18).below b19).below b20).below b21).below b22).reads (HLB0.out) (HLB0.out)).mono ?_
  rintro e w23 ⟨rfl, b23⟩
  have c23 : Below w.heap.size w w23 := blink c22 b23
  have hs23 : w22.heap.size ≤ w23.heap.size := b23.size
  rw [eqB_true rfl]
  go_wp2_with fail
  refine (held_any _ _ _ _ (((((((mk2).below b18).below b19).below b20).below b21).below b22).below b23).reads (by omega) (by omega) (HLB0.out)).mono ?_
  rintro e w24 ⟨rfl, b24⟩
  have c24 : Below w.heap.size w w24 := blink c23 b24
  have hs24 : w23.heap.size ≤ w24.heap.size := b24.size
  go_wp2_with fail
  go_ret
  exact ⟨rfl, c24⟩
end Go.Proofs.Ytlempmahkeilpaa.fnExactMustPass
namespace Go.Proofs.Ytlempmahkeilpaa.fnExactMustPass
open Go.ChangeShapes Go.WideShapes Go.ChangeAt Go.RowKit
open Go.ChangeMaps (open_string shut_string)
set_option linter.unusedVariables false

theorem own : ownKnob Try.prog.godebug = none := by kernel_rfl
theorem laidOut : laidOutB Try.prog = true := by kernel_rfl

set_option maxHeartbeats 1000000 in
set_option maxRecDepth 100000 in
theorem lifted (os : Os) (started : os.Started) (H : Type) (enc : TypeId × Value → H) :
    ReturnsInHanded {} Try.checked os 5 .any (Rows.fnExactMustPassSpec.pre6 enc Try.prog Try.f5 Rows.fnExactMustPassRow.domain false) (Rows.fnExactMustPassSpec.post enc Try.prog Try.f5 false true false false) := by
  refine returnsInHanded_of_change (C := Try.checked) own started (by kernel_rfl) Try.func5
    (ChangeSpec.witness6 (enc := enc) (C := Try.checked) false ⟨#[], #[.agg #[.int .i8 0, .int .i16 0, .slice none 0 0], .agg #[.int .i8 0, .int .i16 0], .agg #[.int .i8 0, .int .i16 0]], []⟩ 8 (by kernel_rfl) (by kernel_rfl) (by kernel_rfl) (by kernel_rfl)) ?_
  intro W base args ds gs before hval0 hW hcnd _
  have hval : ∀ (j : Nat) t v, Try.f5.params[j]? = some t → args[j]? = some v → Value.okWide Try.prog W .any base t v := hval0
  have hW' := hW
  obtain ⟨p, q, hA0, hV, rfl, hfz, hnd⟩ := hW
  have hA : DataW.TrodAll enc Try.prog W 0 (fun _ => true) true Try.f5.params.toList args.toList ds p := hA0
  rw [Try.params5] at hA hval
  obtain ⟨v0, vs0, d0, ds0, p0, q0, hargs, rfl, rfl, h0, r0⟩ := trodAll_cons hA
  obtain ⟨v1, vs1, d1, ds1, p1, q1, rfl, rfl, rfl, h1, r1⟩ := trodAll_cons r0
  obtain ⟨v2, vs2, d2, ds2, p2, q2, rfl, rfl, rfl, h2, r2⟩ := trodAll_cons r1
  obtain ⟨rfl, rfl, rfl⟩ := trodAll_nil r2
  obtain rfl : args = #[v0, v1, v2] := by cases args; simp_all
  obtain ⟨rfl, rfl⟩ := trodVars_none hV
  have k0 := h0
  have lt0 : ∀ x ∈ p0, x.block < W.heap.size := by obtain ⟨m, hm⟩ := k0; exact DataW.trod_lt m _ _ _ hm
  obtain ⟨u00, u01, u02, y00, y01, y02, n0, rfl, rfl, rfl, t00, t01, t02⟩ := Go.Joins.open_agg3 Try.underlying26 (by kernel_rfl) (by kernel_rfl) (hval 0 26 v0 rfl rfl) h0
  obtain ⟨x00, e00, _, wf00⟩ := DataW.trod_int Try.underlying22 t00
  simp only [List.cons.injEq, and_true] at e00
  subst e00
  obtain ⟨x01, e01, _, wf01⟩ := DataW.trod_int Try.underlying23 t01
  simp only [List.cons.injEq, and_true] at e01
  subst e01
  obtain ⟨a0, len0, cap0, z0, rfl, w0⟩ := openNetLanes t02
  have wn0 : (-128 ≤ x00 ∧ x00 ≤ 127) ∧ (-32768 ≤ x01 ∧ x01 ≤ 32767) := by
    simp [Lit.wf, IntKind.min, IntKind.max, IntKind.signed, IntKind.bits] at wf00 wf01
    omega
  have k1 := h1
  have lt1 : ∀ x ∈ p1, x.block < W.heap.size := by obtain ⟨m, hm⟩ := k1; exact DataW.trod_lt m _ _ _ hm
  obtain ⟨u10, u11, y10, y11, n1, rfl, rfl, rfl, t10, t11⟩ := Go.Joins.open_agg2 Try.underlying28 (by kernel_rfl) (by kernel_rfl) (hval 1 28 v1 rfl rfl) h1
  obtain ⟨x10, e10, _, wf10⟩ := DataW.trod_int Try.underlying22 t10
  simp only [List.cons.injEq, and_true] at e10
  subst e10
  obtain ⟨x11, e11, _, wf11⟩ := DataW.trod_int Try.underlying23 t11
  simp only [List.cons.injEq, and_true] at e11
  subst e11
  have w1 : FitSc (x10, x11) := by
    simp [Lit.wf, IntKind.min, IntKind.max, IntKind.signed, IntKind.bits] at wf10 wf11
    unfold FitSc; simp only; omega
  have k2 := h2
  have lt2 : ∀ x ∈ p2, x.block < W.heap.size := by obtain ⟨m, hm⟩ := k2; exact DataW.trod_lt m _ _ _ hm
  obtain ⟨u20, u21, y20, y21, n2, rfl, rfl, rfl, t20, t21⟩ := Go.Joins.open_agg2 Try.underlying28 (by kernel_rfl) (by kernel_rfl) (hval 2 28 v2 rfl rfl) h2
  obtain ⟨x20, e20, _, wf20⟩ := DataW.trod_int Try.underlying22 t20
  simp only [List.cons.injEq, and_true] at e20
  subst e20
  obtain ⟨x21, e21, _, wf21⟩ := DataW.trod_int Try.underlying23 t21
  simp only [List.cons.injEq, and_true] at e21
  subst e21
  have w2 : FitSc (x20, x21) := by
    simp [Lit.wf, IntKind.min, IntKind.max, IntKind.signed, IntKind.bits] at wf20 wf21
    unfold FitSc; simp only; omega
  clear hA0 hval0
  refine (walk (w := W) x00 x01 a0 len0 cap0 z0 x10 x11 x20 x21 ⟨w0, wn0⟩ w1 w2).mono fun e W' ⟨he, bel⟩ => ?_
  subst he
  exact ⟨_, rfl, _, _, _, [], _, [], hW', trodAll_mk1 (shut_bool Try.underlying4 _), (trodAll_cons_mk (Below.trod laidOut (by kernel_rfl) (of_decide_eq_true (by kernel_rfl)) k0 bel lt0) (trodAll_cons_mk (Below.trod laidOut (by kernel_rfl) (of_decide_eq_true (by kernel_rfl)) k1 bel lt1) (trodAll_cons_mk (Below.trod laidOut (by kernel_rfl) (of_decide_eq_true (by kernel_rfl)) k2 bel lt2) trodAll_mk0))), rfl, bel.frame _, fun h => by cases h⟩

theorem over : Rows.fnExactMustPassRow.holds Try.pinned (OpenSpec.ofChange Rows.fnExactMustPassSpec) :=
  OpenClaim.holds_of_wide 5 Try.f5 rfl rfl rfl rfl rfl rfl rfl ⟨rfl, rfl, rfl, rfl, rfl⟩ rfl rfl rfl rfl rfl (by kernel_rfl) Try.func5 (by kernel_rfl)
    (of_decide_eq_true (by kernel_rfl)) (by unfold Func.isWrapper; first | (rw [if_pos (by decide +kernel)]; kernel_rfl) | (rw [if_neg (by decide +kernel)]; exact ⟨rfl, rfl⟩))
    (fun os started H enc _ => lifted os started H enc)

theorem proved : Rows.FnExactMustPassSaid := over
#print axioms proved
end Go.Proofs.Ytlempmahkeilpaa.fnExactMustPass
