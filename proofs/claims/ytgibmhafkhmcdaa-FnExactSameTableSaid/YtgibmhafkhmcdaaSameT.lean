/-
  Both SameTable.
-/
import Derived.Test.YtgibmhafkhmcdaaTabK
namespace Go.Proofs.Ytgibmhafkhmcdaa
open Go Go.RowKit
set_option linter.unusedVariables false

/-- Whether two lists of rows are equal, behind a name that the walk leaves alone. -/
def eqRB (R Q : List (List Int)) : Bool := decide (R = Q)
theorem eqRB_true {R Q : List (List Int)} (h : R = Q) : eqRB R Q = true := decide_eq_true h
theorem eqRB_false {R Q : List (List Int)} (h : R ≠ Q) : eqRB R Q = false := decide_eq_false h
theorem takeR_step {R Q : List (List Int)} {k : Nat} (hx : k < R.length) (hy : k < Q.length) (h : R.take k = Q.take k) (he : R.getD k [] = Q.getD k []) : R.take (k + 1) = Q.take (k + 1) := by
  rw [List.take_succ_eq_append_getElem hx, List.take_succ_eq_append_getElem hy, h]
  simp only [List.getD, List.getElem?_eq_getElem hx, List.getElem?_eq_getElem hy, Option.getD_some] at he
  rw [he]
def sameTB (S : List Int) (R : List (List Int)) (S' : List Int) (R' : List (List Int)) : Bool := eqB S S' && eqRB R R'

set_option maxHeartbeats 1000000 in
/-- sameH tells whether two slices read as the same list. -/
theorem sameH_row (b c len cap cap2 : Nat) (xs ys : List Int) (hx : xs.length = len) (hy : ys.length = len) (hm : len ≤ 1048576) (w : World) (hcx : CellsH w b xs) (hcy : CellsH w c ys) :
    Calls Try.prog 29 #[.slice (some ⟨b, 0, none⟩) len cap, .slice (some ⟨c, 0, none⟩) len cap2] w fun e w' => e = .returned (.bool (eqB xs ys)) ∧ Below w.heap.size w w' := by
  go_enter Try.func29, Try.ntmps29
  go_wp2
  go_loopw [5] (fun i wr => ∃ k : Nat, k ≤ len ∧ i = .int .i64 k ∧ xs.take k = ys.take k ∧ Below w.heap.size w wr) (fun i _ => len - (intOf i).toNat)
  case atStart => exact ⟨0, Nat.zero_le _, rfl, by simp, Below.refl _ _⟩
  case round =>
    obtain ⟨k, hk, rfl, htk, hnx⟩ := hrel
    have HT := Lib.hid htk
    have HB := Lib.hid hnx
    have HX := Lib.hid hx
    have HY := Lib.hid hy
    by_cases hlt : k < len
    · have cx := hcx.below hnx k (by omega)
      have cy := hcy.below hnx k (by omega)
      obtain ⟨x, hxk⟩ : ∃ x, xs.getD k 0 = x := ⟨_, rfl⟩
      obtain ⟨y, hyk⟩ : ∃ y, ys.getD k 0 = y := ⟨_, rfl⟩
      rw [hxk] at cx
      rw [hyk] at cy
      have HXK := Lib.hid hxk
      have HYK := Lib.hid hyk
      have HCX := Lib.hid hcx
      have HCY := Lib.hid hcy
      clear hcx hcy hx hy htk hnx hxk hyk
      have hkl : (k : Int) < (len : Int) := by omega
      by_cases hxy : x = y
      · subst hxy
        go_wp2
        go_quiet (fail)
        go_wp2
        go_roundw
        case rel => exact ⟨k + 1, by omega, by go_num, take_step (by have := HX.out; omega) (by have := HY.out; omega) HT.out (HXK.out.trans HYK.out.symm), below_drewN HB.out _⟩
        case measure => simp [intOf]; omega
      · go_wp2
        go_quiet (fail)
        go_wp2
        go_ret
        exact ⟨ret_bool (eqB_false (fun h => hxy (by rw [← HXK.out, ← HYK.out, h]))).symm, below_drewN HB.out _⟩
    · clear hcx hcy hx hy htk hnx
      have hke : k = len := by omega
      have HE := Lib.hid hke
      clear hke
      go_wp2
      go_ret
      refine ⟨ret_bool (eqB_true ?_).symm, HB.out⟩
      have h := HT.out
      rw [HE.out, List.take_of_length_le (by rw [HX.out]; omega), List.take_of_length_le (by rw [HY.out]; omega)] at h
      exact h

set_option maxHeartbeats 1000000 in
theorem sameH_differ (a c : Option Addr) (l m cap cap2 : Nat) (hne : l ≠ m) (hl : l ≤ 1048576) (hm : m ≤ 1048576) (w : World) :
    Calls Try.prog 29 #[.slice a l cap, .slice c m cap2] w fun e w' => e = .returned (.bool false) ∧ Below w.heap.size w w' := by
  have hb : ((l : Int) != (m : Int)) = true := by simp; omega
  go_enter Try.func29, Try.ntmps29
  go_wp2
  go_ret
  exact ⟨rfl, Below.refl _ _⟩

set_option maxHeartbeats 1000000 in
theorem sameH_empty (a c : Option Addr) (cap cap2 : Nat) (w : World) :
    Calls Try.prog 29 #[.slice a 0 cap, .slice c 0 cap2] w fun e w' => e = .returned (.bool true) ∧ Below w.heap.size w w' := by
  go_enter Try.func29, Try.ntmps29
  go_wp2
  refine wp_loop_rounds 1 ?_
  rw [rounds_succ]
  go_wp2
  go_ret
  exact ⟨rfl, Below.refl _ _⟩

/-- sameH on any two slices that read as lists. -/
theorem sameH_any (v u : Value) (xs ys : List Int) (w : World) (hv : ReadsH w v xs) (hu : ReadsH w u ys) (hx : xs.length ≤ 1048576) (hy : ys.length ≤ 1048576) :
    Calls Try.prog 29 #[v, u] w fun e w' => e = .returned (.bool (eqB xs ys)) ∧ Below w.heap.size w w' := by
  obtain ⟨a, cap, rfl, ha⟩ := hv
  obtain ⟨c, cap2, rfl, hc⟩ := hu
  by_cases hl : xs.length = ys.length
  · by_cases h0 : xs = []
    · subst h0
      have h1 : ys = [] := List.eq_nil_of_length_eq_zero hl.symm
      subst h1
      exact sameH_empty a c cap cap2 w
    · have h1 : ys ≠ [] := fun h => h0 (List.eq_nil_of_length_eq_zero (by rw [hl, h]; rfl))
      obtain ⟨b1, rfl, c1⟩ := ha h0
      obtain ⟨b2, rfl, c2⟩ := hc h1
      rw [← hl]
      exact sameH_row b1 b2 xs.length cap cap2 xs ys rfl hl.symm hx w c1 c2
  · rw [eqB_false (fun h => hl (by rw [h]))]
    exact sameH_differ a c xs.length ys.length cap cap2 hl hx hy w

set_option maxHeartbeats 1000000 in
/-- equalH tells whether two slices read as the same list. -/
theorem equalH_row (b c len cap cap2 : Nat) (xs ys : List Int) (hx : xs.length = len) (hy : ys.length = len) (hm : len ≤ 1048576) (w : World) (hcx : CellsH w b xs) (hcy : CellsH w c ys) :
    Calls Try.prog 30 #[.slice (some ⟨b, 0, none⟩) len cap, .slice (some ⟨c, 0, none⟩) len cap2] w fun e w' => e = .returned (.bool (eqB xs ys)) ∧ Below w.heap.size w w' := by
  go_enter Try.func30, Try.ntmps30
  go_wp2
  go_loopw [13] (fun i wr => ∃ k : Nat, k ≤ len ∧ i = .int .i64 k ∧ xs.take k = ys.take k ∧ Below w.heap.size w wr) (fun i _ => len - (intOf i).toNat)
  case atStart => exact ⟨0, Nat.zero_le _, rfl, by simp, Below.refl _ _⟩
  case round =>
    obtain ⟨k, hk, rfl, htk, hnx⟩ := hrel
    have HT := Lib.hid htk
    have HB := Lib.hid hnx
    have HX := Lib.hid hx
    have HY := Lib.hid hy
    by_cases hlt : k < len
    · have cx := hcx.below hnx k (by omega)
      have cy := hcy.below hnx k (by omega)
      obtain ⟨x, hxk⟩ : ∃ x, xs.getD k 0 = x := ⟨_, rfl⟩
      obtain ⟨y, hyk⟩ : ∃ y, ys.getD k 0 = y := ⟨_, rfl⟩
      rw [hxk] at cx
      rw [hyk] at cy
      have HXK := Lib.hid hxk
      have HYK := Lib.hid hyk
      have HCX := Lib.hid hcx
      have HCY := Lib.hid hcy
      clear hcx hcy hx hy htk hnx hxk hyk
      have hkl : (k : Int) < (len : Int) := by omega
      by_cases hxy : x = y
      · subst hxy
        go_wp2
        go_quiet (fail)
        go_wp2
        go_roundw
        case rel => exact ⟨k + 1, by omega, by go_num, take_step (by have := HX.out; omega) (by have := HY.out; omega) HT.out (HXK.out.trans HYK.out.symm), below_drewN HB.out _⟩
        case measure => simp [intOf]; omega
      · go_wp2
        go_quiet (fail)
        go_wp2
        go_ret
        exact ⟨ret_bool (eqB_false (fun h => hxy (by rw [← HXK.out, ← HYK.out, h]))).symm, below_drewN HB.out _⟩
    · clear hcx hcy hx hy htk hnx
      have hke : k = len := by omega
      have HE := Lib.hid hke
      clear hke
      go_wp2
      go_ret
      refine ⟨ret_bool (eqB_true ?_).symm, HB.out⟩
      have h := HT.out
      rw [HE.out, List.take_of_length_le (by rw [HX.out]; omega), List.take_of_length_le (by rw [HY.out]; omega)] at h
      exact h

set_option maxHeartbeats 1000000 in
theorem equalH_differ (a c : Option Addr) (l m cap cap2 : Nat) (hne : l ≠ m) (hl : l ≤ 1048576) (hm : m ≤ 1048576) (w : World) :
    Calls Try.prog 30 #[.slice a l cap, .slice c m cap2] w fun e w' => e = .returned (.bool false) ∧ Below w.heap.size w w' := by
  have hb : ((l : Int) != (m : Int)) = true := by simp; omega
  go_enter Try.func30, Try.ntmps30
  go_wp2
  go_ret
  exact ⟨rfl, Below.refl _ _⟩

set_option maxHeartbeats 1000000 in
theorem equalH_empty (a c : Option Addr) (cap cap2 : Nat) (w : World) :
    Calls Try.prog 30 #[.slice a 0 cap, .slice c 0 cap2] w fun e w' => e = .returned (.bool true) ∧ Below w.heap.size w w' := by
  go_enter Try.func30, Try.ntmps30
  go_wp2
  refine wp_loop_rounds 1 ?_
  rw [rounds_succ]
  go_wp2
  go_ret
  exact ⟨rfl, Below.refl _ _⟩

/-- equalH on any two slices that read as lists. -/
theorem equalH_any (v u : Value) (xs ys : List Int) (w : World) (hv : ReadsH w v xs) (hu : ReadsH w u ys) (hx : xs.length ≤ 1048576) (hy : ys.length ≤ 1048576) :
    Calls Try.prog 30 #[v, u] w fun e w' => e = .returned (.bool (eqB xs ys)) ∧ Below w.heap.size w w' := by
  obtain ⟨a, cap, rfl, ha⟩ := hv
  obtain ⟨c, cap2, rfl, hc⟩ := hu
  by_cases hl : xs.length = ys.length
  · by_cases h0 : xs = []
    · subst h0
      have h1 : ys = [] := List.eq_nil_of_length_eq_zero hl.symm
      subst h1
      exact equalH_empty a c cap cap2 w
    · have h1 : ys ≠ [] := fun h => h0 (List.eq_nil_of_length_eq_zero (by rw [hl, h]; rfl))
      obtain ⟨b1, rfl, c1⟩ := ha h0
      obtain ⟨b2, rfl, c2⟩ := hc h1
      rw [← hl]
      exact equalH_row b1 b2 xs.length cap cap2 xs ys rfl hl.symm hx w c1 c2
  · rw [eqB_false (fun h => hl (by rw [h]))]
    exact equalH_differ a c xs.length ys.length cap cap2 hl hx hy w

set_option maxHeartbeats 4000000 in
set_option maxRecDepth 100000 in
theorem equalM_row (b c len cap cap2 : Nat) (R Q : List (List Int)) (hl : R.length = len) (hl2 : Q.length = len) (hm : len ≤ 1048576) (hr : ∀ j, j < R.length → (R.getD j []).length ≤ 1048576) (hr2 : ∀ j, j < Q.length → (Q.getD j []).length ≤ 1048576) (w : World)
    (hcx : ∀ j, j < R.length → ∃ u, w.cell? ⟨b, j, none⟩ = some u ∧ ReadsH w u (R.getD j [])) (hcy : ∀ j, j < Q.length → ∃ u, w.cell? ⟨c, j, none⟩ = some u ∧ ReadsH w u (Q.getD j [])) :
    Calls Try.prog 31 #[.slice (some ⟨b, 0, none⟩) len cap, .slice (some ⟨c, 0, none⟩) len cap2, .func (.func 30) #[] #[]] w fun e w' => e = .returned (.bool (eqRB R Q)) ∧ Below w.heap.size w w' := by
  have HL := Lib.hid hl
  have HL2 := Lib.hid hl2
  have HX := Lib.hid hcx
  have HY := Lib.hid hcy
  have HR := Lib.hid hr
  have HR2 := Lib.hid hr2
  clear hl hl2 hcx hcy hr hr2
  go_enter Try.func31, Try.ntmps31
  go_wp2_with fail
  go_loopw [17] (fun i wr => ∃ k : Nat, k ≤ len ∧ i = .int .i64 k ∧ R.take k = Q.take k ∧ Below w.heap.size w wr) (fun i _ => len - (intOf i).toNat)
  case atStart => exact ⟨0, Nat.zero_le _, rfl, by simp, Below.refl _ _⟩
  case round =>
    obtain ⟨k, hk, rfl, htk, hnx⟩ := hrel
    have HB := Lib.hid hnx
    have HT := Lib.hid htk
    by_cases hlt : k < len
    · obtain ⟨u, c0, r0⟩ := HX.out k (by have := HL.out; omega)
      obtain ⟨v, d0, s0⟩ := HY.out k (by have := HL2.out; omega)
      have c0' : wr.cell? ⟨b, k, none⟩ = some u := by rw [hnx.cell (p := ⟨b, k, none⟩) (World.block_lt_of_cell? w _ c0)]; exact c0
      have d0' : wr.cell? ⟨c, k, none⟩ = some v := by rw [hnx.cell (p := ⟨c, k, none⟩) (World.block_lt_of_cell? w _ d0)]; exact d0
      have HU := Lib.hid (r0.below hnx)
      have HV := Lib.hid (s0.below hnx)
      have HRK := Lib.hid (HR.out k (by have := HL.out; omega))
      have HQK := Lib.hid (HR2.out k (by have := HL2.out; omega))
      have HSTEP : Hid (R.getD k [] = Q.getD k [] → R.take (k + 1) = Q.take (k + 1)) := Lib.hid (takeR_step (by have := HL.out; omega) (by have := HL2.out; omega) HT.out)
      have HBAD : Hid (R.getD k [] ≠ Q.getD k [] → eqRB R Q = false) := Lib.hid (fun h => eqRB_false (fun e => h (by rw [e])))
      have hwr : w.heap.size ≤ wr.heap.size := hnx.size
      have hkl : (k : Int) < (len : Int) := by omega
      obtain ⟨xs, hxs⟩ : ∃ xs, R.getD k [] = xs := ⟨_, rfl⟩
      obtain ⟨ys, hys⟩ : ∃ ys, Q.getD k [] = ys := ⟨_, rfl⟩
      rw [hxs] at HU HRK
      rw [hys] at HV HQK
      rw [hxs, hys] at HSTEP HBAD
      clear c0 d0 r0 s0 hnx hxs hys htk
      by_cases hxy : xs = ys
      · have HE := Lib.hid hxy
        clear hxy
        go_wp2_with fail
        refine (equalH_any _ _ xs ys _ HU.out HV.out HRK.out HQK.out).mono ?_
        rintro e w2 ⟨rfl, b2⟩
        rw [eqB_true HE.out]
        have HB2 : Hid (Below w.heap.size w w2) := Lib.hid (HB.out.trans (b2.mono hwr))
        clear b2
        go_wp2_with fail
        go_roundw
        case rel => exact ⟨k + 1, by omega, by go_num, HSTEP.out HE.out, HB2.out⟩
        case measure => simp [intOf]; omega
      · have HE := Lib.hid hxy
        clear hxy
        go_wp2_with fail
        refine (equalH_any _ _ xs ys _ HU.out HV.out HRK.out HQK.out).mono ?_
        rintro e w2 ⟨rfl, b2⟩
        rw [eqB_false HE.out]
        have HB2 : Hid (Below w.heap.size w w2) := Lib.hid (HB.out.trans (b2.mono hwr))
        clear b2
        go_wp2_with fail
        go_ret
        exact ⟨(ret_bool (HBAD.out HE.out)).symm, HB2.out⟩
    · have hk' : k = len := by omega
      have HEQ : Hid (eqRB R Q = true) := Lib.hid (eqRB_true (by
        have h := htk
        rw [hk', List.take_of_length_le (by rw [HL.out]; omega), List.take_of_length_le (by rw [HL2.out]; omega)] at h
        exact h))
      clear hnx htk hk'
      go_wp2_with fail
      go_ret
      exact ⟨(ret_bool HEQ.out).symm, HB.out⟩

set_option maxHeartbeats 1000000 in
theorem equalM_empty (a c : Option Addr) (cap cap2 : Nat) (w : World) :
    Calls Try.prog 31 #[.slice a 0 cap, .slice c 0 cap2, .func (.func 30) #[] #[]] w fun e w' => e = .returned (.bool true) ∧ Below w.heap.size w w' := by
  go_enter Try.func31, Try.ntmps31
  go_wp2
  refine wp_loop_rounds 1 ?_
  rw [rounds_succ]
  go_wp2
  go_ret
  exact ⟨rfl, Below.refl _ _⟩
set_option maxHeartbeats 1000000 in
theorem equalM_differ (a c : Option Addr) (l m cap cap2 : Nat) (hne : l ≠ m) (hl : l ≤ 1048576) (hm : m ≤ 1048576) (w : World) :
    Calls Try.prog 31 #[.slice a l cap, .slice c m cap2, .func (.func 30) #[] #[]] w fun e w' => e = .returned (.bool false) ∧ Below w.heap.size w w' := by
  have hb : ((l : Int) != (m : Int)) = true := by simp; omega
  go_enter Try.func31, Try.ntmps31
  go_wp2
  go_ret
  exact ⟨rfl, Below.refl _ _⟩
theorem equalM_any (v u : Value) (R Q : List (List Int)) (w : World) (hv : ReadsM w v R) (hu : ReadsM w u Q) (hx : R.length ≤ 1048576) (hy : Q.length ≤ 1048576) (hr : ∀ j, j < R.length → (R.getD j []).length ≤ 1048576) (hr2 : ∀ j, j < Q.length → (Q.getD j []).length ≤ 1048576) :
    Calls Try.prog 31 #[v, u, .func (.func 30) #[] #[]] w fun e w' => e = .returned (.bool (eqRB R Q)) ∧ Below w.heap.size w w' := by
  obtain ⟨a, cap, rfl, ha⟩ := hv
  obtain ⟨c, cap2, rfl, hc⟩ := hu
  by_cases hl : R.length = Q.length
  · by_cases h0 : R = []
    · subst h0
      have h1 : Q = [] := List.eq_nil_of_length_eq_zero hl.symm
      subst h1
      rw [eqRB_true rfl]
      exact equalM_empty a c cap cap2 w
    · have h1 : Q ≠ [] := fun h => h0 (List.eq_nil_of_length_eq_zero (by rw [hl, h]; rfl))
      obtain ⟨b1, rfl, c1⟩ := ha h0
      obtain ⟨b2, rfl, c2⟩ := hc h1
      rw [← hl]
      exact equalM_row b1 b2 R.length cap cap2 R Q rfl hl.symm hx hr hr2 w c1 c2
  · rw [eqRB_false (fun h => hl (by rw [h]))]
    exact equalM_differ a c R.length Q.length cap cap2 hl hx hy w


set_option maxHeartbeats 4000000 in
set_option maxRecDepth 100000 in
theorem isameT_ok (v u : Value) (S : List Int) (R : List (List Int)) (S' : List Int) (R' : List (List Int)) (w : World) (hv : ReadsT w v S R) (hu : ReadsT w u S' R') (k : TabOk S R) (k' : TabOk S' R') :
    Calls Try.prog 13 #[v, u] w fun e w' => e = .returned (.bool (sameTB S R S' R')) ∧ Below w.heap.size w w' := by
  obtain ⟨v1, v2, rfl, h1, h2⟩ := hv
  obtain ⟨u1, u2, rfl, h3, h4⟩ := hu
  have H1 := Lib.hid h1
  have H2 := Lib.hid h2
  have H3 := Lib.hid h3
  have H4 := Lib.hid h4
  have K := Lib.hid k
  have K' := Lib.hid k'
  clear h1 h2 h3 h4 k k'
  by_cases hs : S = S'
  · have HS : Hid (sameTB S R S' R' = eqRB R R') := Lib.hid (by unfold sameTB; rw [eqB_true hs]; rfl)
    have HE := Lib.hid hs
    clear hs
    go_enter Try.func13, Try.ntmps13
    go_wp2_with fail
    refine (equalH_any _ _ S S' _ (H1.out.below (by repeat (first | exact Below.refl _ _ | refine Below.setCell ?_ (by first | (simp; done) | (simp; omega)) _ | refine Below.alloc ?_ (by first | (simp; done) | (simp; omega) | omega) _))) (H3.out.below (by repeat (first | exact Below.refl _ _ | refine Below.setCell ?_ (by first | (simp; done) | (simp; omega)) _ | refine Below.alloc ?_ (by first | (simp; done) | (simp; omega) | omega) _))) K.out.sl K'.out.sl).mono ?_
    rintro e w2 ⟨rfl, b2⟩
    rw [eqB_true HE.out]
    have q0 := ((Blk2.new (n := w.heap.size) (by simp) _ _ _).alloc _).below b2
    have q1 := ((Blk2.new (n := w.heap.size + 1) (by simp) _ _ _)).below b2
    have c2 : Below w.heap.size w w2 := Below.trans (by repeat (first | exact Below.refl _ _ | refine Below.setCell ?_ (by first | (simp; done) | (simp; omega)) _ | refine Below.alloc ?_ (by first | (simp; done) | (simp; omega) | omega) _)) (b2.mono (by simp; omega))
    have z1 := q0.at1
    have y1 := q1.at1
    have HC := Lib.hid c2
    clear q0 q1 c2 b2
    go_wp2_with fail
    refine (equalM_any _ _ R R' _ (H2.out.below HC.out) (H4.out.below HC.out) K.out.rl K'.out.rl K.out.rr K'.out.rr).mono ?_
    rintro e w3 ⟨rfl, b3⟩
    go_wp2_with fail
    go_ret
    exact ⟨(ret_bool HS.out).symm, blink HC.out b3⟩
  · have HS : Hid (sameTB S R S' R' = false) := Lib.hid (by unfold sameTB; rw [eqB_false hs]; rfl)
    have HE := Lib.hid hs
    clear hs
    go_enter Try.func13, Try.ntmps13
    go_wp2_with fail
    refine (equalH_any _ _ S S' _ (H1.out.below (by repeat (first | exact Below.refl _ _ | refine Below.setCell ?_ (by first | (simp; done) | (simp; omega)) _ | refine Below.alloc ?_ (by first | (simp; done) | (simp; omega) | omega) _))) (H3.out.below (by repeat (first | exact Below.refl _ _ | refine Below.setCell ?_ (by first | (simp; done) | (simp; omega)) _ | refine Below.alloc ?_ (by first | (simp; done) | (simp; omega) | omega) _))) K.out.sl K'.out.sl).mono ?_
    rintro e w2 ⟨rfl, b2⟩
    rw [eqB_false HE.out]
    have c2 : Below w.heap.size w w2 := Below.trans (by repeat (first | exact Below.refl _ _ | refine Below.setCell ?_ (by first | (simp; done) | (simp; omega)) _ | refine Below.alloc ?_ (by first | (simp; done) | (simp; omega) | omega) _)) (b2.mono (by simp; omega))
    have HC := Lib.hid c2
    clear c2 b2
    go_wp2_with fail
    go_ret
    exact ⟨(ret_bool HS.out).symm, HC.out⟩

set_option maxHeartbeats 4000000 in
set_option maxRecDepth 100000 in
theorem ssameT_ok (v u : Value) (S : List Int) (R : List (List Int)) (S' : List Int) (Q : List (List Int)) (w : World) (hv : ReadsT w v S R) (hu : ReadsT w u S' Q) (k : TabOk S R) (k' : TabOk S' Q) :
    Calls Try.prog 12 #[v, u] w fun e w' => e = .returned (.bool (sameTB S R S' Q)) ∧ Below w.heap.size w w' := by
  obtain ⟨v1, v2, rfl, h1, ⟨b, cb, rfl, hb⟩⟩ := hv
  obtain ⟨u1, u2, rfl, h3, ⟨c, cc, rfl, hc⟩⟩ := hu
  have H1 := Lib.hid h1
  have H3 := Lib.hid h3
  have HX := Lib.hid hb
  have HY := Lib.hid hc
  have K := Lib.hid k
  have K' := Lib.hid k'
  obtain ⟨m, hm'⟩ : ∃ m, R.length = m := ⟨_, rfl⟩
  obtain ⟨q, hq'⟩ : ∃ q, Q.length = q := ⟨_, rfl⟩
  have hm : m ≤ 1048576 := by have := k.rl; omega
  have hq : q ≤ 1048576 := by have := k'.rl; omega
  rw [hm', hq']
  have HL := Lib.hid hm'
  have HL2 := Lib.hid hq'
  clear h1 h3 hb hc k k' hm' hq'
  by_cases hs : S = S'
  · have HS : Hid (sameTB S R S' Q = eqRB R Q) := Lib.hid (by unfold sameTB; rw [eqB_true hs]; rfl)
    have HE := Lib.hid hs
    clear hs
    by_cases hl : m = q
    · subst hl
      go_enter Try.func12, Try.ntmps12
      go_wp2_with fail
      refine (sameH_any _ _ S S' _ (H1.out.below (by repeat (first | exact Below.refl _ _ | refine Below.setCell ?_ (by first | (simp; done) | (simp; omega)) _ | refine Below.alloc ?_ (by first | (simp; done) | (simp; omega) | omega) _))) (H3.out.below (by repeat (first | exact Below.refl _ _ | refine Below.setCell ?_ (by first | (simp; done) | (simp; omega)) _ | refine Below.alloc ?_ (by first | (simp; done) | (simp; omega) | omega) _))) K.out.sl K'.out.sl).mono ?_
      rintro e w2 ⟨rfl, b2⟩
      rw [eqB_true HE.out]
      have q0 := ((Blk2.new (n := w.heap.size) (by simp) _ _ _).alloc _).below b2
      have q1 := ((Blk2.new (n := w.heap.size + 1) (by simp) _ _ _)).below b2
      have c2 : Below w.heap.size w w2 := Below.trans (by repeat (first | exact Below.refl _ _ | refine Below.setCell ?_ (by first | (simp; done) | (simp; omega)) _ | refine Below.alloc ?_ (by first | (simp; done) | (simp; omega) | omega) _)) (b2.mono (by simp; omega))
      have z1 := q0.at1
      have y1 := q1.at1
      have HD : Hid (∀ z : World, Below w2.heap.size w2 z → z.cell? ⟨w.heap.size, 1, none⟩ = some (.slice b m cb) ∧ z.cell? ⟨w.heap.size + 1, 1, none⟩ = some (.slice c m cc)) := Lib.hid (fun z hz => ⟨(q0.below hz).at1, (q1.below hz).at1⟩)
      have HC := Lib.hid c2
      clear q0 q1 c2 b2
      go_wp2_with fail
      clear z1 y1
      go_loopw [5] (fun i wr => ∃ k : Nat, k ≤ m ∧ i = .int .i64 k ∧ R.take k = Q.take k ∧ Below w2.heap.size w2 wr) (fun i _ => m - (intOf i).toNat)
      case atStart => exact ⟨0, Nat.zero_le _, rfl, by simp, Below.refl _ _⟩
      case round =>
        obtain ⟨k, hk, rfl, htk, hnx⟩ := hrel
        have HB := Lib.hid hnx
        have HT := Lib.hid htk
        obtain ⟨z1, y1⟩ := HD.out _ hnx
        by_cases hlt : k < m
        · obtain ⟨gb, rfl, hcx⟩ := HX.out (by intro e; have := HL.out; rw [e] at this; simp at this; omega)
          obtain ⟨gc, rfl, hcy⟩ := HY.out (by intro e; have := HL2.out; rw [e] at this; simp at this; omega)
          obtain ⟨u, c0, r0⟩ := hcx k (by have := HL.out; omega)
          obtain ⟨v, d0, s0⟩ := hcy k (by have := HL2.out; omega)
          have hh := blink HC.out hnx
          have c0' : wr.cell? ⟨gb, k, none⟩ = some u := by rw [hh.cell (p := ⟨gb, k, none⟩) (World.block_lt_of_cell? w _ c0)]; exact c0
          have d0' : wr.cell? ⟨gc, k, none⟩ = some v := by rw [hh.cell (p := ⟨gc, k, none⟩) (World.block_lt_of_cell? w _ d0)]; exact d0
          have r1 := r0.below hh
          have s1 := s0.below hh
          obtain ⟨ua, uc, rfl, ru⟩ := r1
          obtain ⟨va, vc, rfl, rv⟩ := s1
          have HU : Hid (ReadsH wr (.slice ua (R.getD k []).length uc) (R.getD k [])) := Lib.hid ⟨ua, uc, rfl, ru⟩
          have HV : Hid (ReadsH wr (.slice va (Q.getD k []).length vc) (Q.getD k [])) := Lib.hid ⟨va, vc, rfl, rv⟩
          have HRK := Lib.hid (K.out.rr k (by have := HL.out; omega))
          have HQK := Lib.hid (K'.out.rr k (by have := HL2.out; omega))
          have HSTEP : Hid (R.getD k [] = Q.getD k [] → R.take (k + 1) = Q.take (k + 1)) := Lib.hid (takeR_step (by have := HL.out; omega) (by have := HL2.out; omega) HT.out)
          have HBAD : Hid (R.getD k [] ≠ Q.getD k [] → eqRB R Q = false) := Lib.hid (fun h => eqRB_false (fun e => h (by rw [e])))
          have hwr : w2.heap.size ≤ wr.heap.size := hnx.size
          have hkl : (k : Int) < (m : Int) := by omega
          obtain ⟨xs, hxs⟩ : ∃ xs, R.getD k [] = xs := ⟨_, rfl⟩
          obtain ⟨ys, hys⟩ : ∃ ys, Q.getD k [] = ys := ⟨_, rfl⟩
          rw [hxs] at HU HRK c0'
          rw [hys] at HV HQK d0'
          rw [hxs, hys] at HSTEP HBAD
          clear hcx hcy c0 d0 r0 s0 ru rv hnx hxs hys htk hh
          by_cases hxy : xs = ys
          · have HEE := Lib.hid hxy
            clear hxy
            go_wp2_with fail
            go_still_tail 10, (by kernel_rfl)
            change wpList _ _ _ _ _ wr.drew
            have HBD : Hid (Below w2.heap.size w2 wr.drew) := Lib.hid HB.out.drew
            have HUD : Hid (ReadsH wr.drew (.slice ua xs.length uc) xs) := Lib.hid (HU.out.below (Below.refl _ _).drew)
            have HVD : Hid (ReadsH wr.drew (.slice va ys.length vc) ys) := Lib.hid (HV.out.below (Below.refl _ _).drew)
            have hwd : w2.heap.size ≤ wr.drew.heap.size := hwr
            generalize wr.drew = wd at HBD HUD HVD hwd ⊢
            go_wp2_with fail
            refine (sameH_any _ _ xs ys _ HUD.out HVD.out HRK.out HQK.out).mono ?_
            rintro e w3 ⟨rfl, b2⟩
            rw [eqB_true HEE.out]
            have HB2 : Hid (Below w2.heap.size w2 w3) := Lib.hid (HBD.out.trans (b2.mono hwd))
            clear b2
            go_wp2_with fail
            go_roundw
            case rel => exact ⟨k + 1, by omega, by go_num, HSTEP.out HEE.out, HB2.out⟩
            case measure => simp [intOf]; omega
          · have HEE := Lib.hid hxy
            clear hxy
            go_wp2_with fail
            go_still_tail 10, (by kernel_rfl)
            change wpList _ _ _ _ _ wr.drew
            have HBD : Hid (Below w2.heap.size w2 wr.drew) := Lib.hid HB.out.drew
            have HUD : Hid (ReadsH wr.drew (.slice ua xs.length uc) xs) := Lib.hid (HU.out.below (Below.refl _ _).drew)
            have HVD : Hid (ReadsH wr.drew (.slice va ys.length vc) ys) := Lib.hid (HV.out.below (Below.refl _ _).drew)
            have hwd : w2.heap.size ≤ wr.drew.heap.size := hwr
            generalize wr.drew = wd at HBD HUD HVD hwd ⊢
            go_wp2_with fail
            refine (sameH_any _ _ xs ys _ HUD.out HVD.out HRK.out HQK.out).mono ?_
            rintro e w3 ⟨rfl, b2⟩
            rw [eqB_false HEE.out]
            have HB2 : Hid (Below w2.heap.size w2 w3) := Lib.hid (HBD.out.trans (b2.mono hwd))
            clear b2
            go_wp2_with fail
            go_ret
            exact ⟨ret_bool (by rw [HS.out, HBAD.out HEE.out]), blink HC.out HB2.out⟩
        · have hk' : k = m := by omega
          have HEQ : Hid (eqRB R Q = true) := Lib.hid (eqRB_true (by
            have h := htk
            rw [hk', List.take_of_length_le (by rw [HL.out]; omega), List.take_of_length_le (by rw [HL2.out]; omega)] at h
            exact h))
          clear hnx htk hk'
          go_wp2_with fail
          go_ret
          exact ⟨ret_bool (by rw [HS.out, HEQ.out]), blink HC.out HB.out⟩
    · have t1 : ((m : Int) != (q : Int)) = true := by simp; omega
      have HF : Hid (eqRB R Q = false) := Lib.hid (eqRB_false (fun e => hl (by rw [← HL.out, ← HL2.out, e])))
      clear hl
      go_enter Try.func12, Try.ntmps12
      go_wp2_with fail
      refine (sameH_any _ _ S S' _ (H1.out.below (by repeat (first | exact Below.refl _ _ | refine Below.setCell ?_ (by first | (simp; done) | (simp; omega)) _ | refine Below.alloc ?_ (by first | (simp; done) | (simp; omega) | omega) _))) (H3.out.below (by repeat (first | exact Below.refl _ _ | refine Below.setCell ?_ (by first | (simp; done) | (simp; omega)) _ | refine Below.alloc ?_ (by first | (simp; done) | (simp; omega) | omega) _))) K.out.sl K'.out.sl).mono ?_
      rintro e w2 ⟨rfl, b2⟩
      rw [eqB_true HE.out]
      have q0 := ((Blk2.new (n := w.heap.size) (by simp) _ _ _).alloc _).below b2
      have q1 := ((Blk2.new (n := w.heap.size + 1) (by simp) _ _ _)).below b2
      have c2 : Below w.heap.size w w2 := Below.trans (by repeat (first | exact Below.refl _ _ | refine Below.setCell ?_ (by first | (simp; done) | (simp; omega)) _ | refine Below.alloc ?_ (by first | (simp; done) | (simp; omega) | omega) _)) (b2.mono (by simp; omega))
      have z1 := q0.at1
      have y1 := q1.at1
      have HC := Lib.hid c2
      clear q0 q1 c2 b2
      go_wp2_with fail
      go_ret
      exact ⟨ret_bool (by rw [HS.out, HF.out]), HC.out⟩
  · have HS : Hid (sameTB S R S' Q = false) := Lib.hid (by unfold sameTB; rw [eqB_false hs]; rfl)
    have HE := Lib.hid hs
    clear hs
    go_enter Try.func12, Try.ntmps12
    go_wp2_with fail
    refine (sameH_any _ _ S S' _ (H1.out.below (by repeat (first | exact Below.refl _ _ | refine Below.setCell ?_ (by first | (simp; done) | (simp; omega)) _ | refine Below.alloc ?_ (by first | (simp; done) | (simp; omega) | omega) _))) (H3.out.below (by repeat (first | exact Below.refl _ _ | refine Below.setCell ?_ (by first | (simp; done) | (simp; omega)) _ | refine Below.alloc ?_ (by first | (simp; done) | (simp; omega) | omega) _))) K.out.sl K'.out.sl).mono ?_
    rintro e w2 ⟨rfl, b2⟩
    rw [eqB_false HE.out]
    have c2 : Below w.heap.size w w2 := Below.trans (by repeat (first | exact Below.refl _ _ | refine Below.setCell ?_ (by first | (simp; done) | (simp; omega)) _ | refine Below.alloc ?_ (by first | (simp; done) | (simp; omega) | omega) _)) (b2.mono (by simp; omega))
    have HC := Lib.hid c2
    clear c2 b2
    go_wp2_with fail
    go_ret
    exact ⟨(ret_bool HS.out).symm, HC.out⟩

end Go.Proofs.Ytgibmhafkhmcdaa
