/-
  The program's shifts: impl.checkShift, impl.copied, and both public functions.
-/
import Derived.Test.YtadhoodddedjjabShI
import Derived.Test.YtadhoodddedjjabBgV
import Derived.IntWalk
namespace Go.Proofs.Ytadhoodddedjjab
open Go Go.RowKit
set_option linter.unusedVariables false

set_option maxHeartbeats 4000000 in
set_option maxRecDepth 100000 in
theorem check_any (v : Value) (R : List (List Int)) (f t : Int) (w : World) (hv : ReadsS w v R) (h1 : 1 ≤ R.length) (h4 : R.length ≤ 4) (h6 : ∀ j, j < R.length → (R.getD j []).length ≤ 6) (hf1 : -128 ≤ f) (hf2 : f ≤ 127) (ht1 : -128 ≤ t) (ht2 : t ≤ 127) :
    Calls Try.prog 46 #[v, .agg #[.int .i8 f, .int .i8 t]] w fun e w' => e = .returned (.int .i64 (shC R f t)) ∧ Below w.heap.size w w' := by
  obtain ⟨b, cap, rfl, g1, g2, g3, hc⟩ := hv
  have HC := Lib.hid hc
  have H6 := Lib.hid h6
  obtain ⟨n, hn⟩ : ∃ n, R.length = n := ⟨_, rfl⟩
  have HN := Lib.hid hn
  rw [hn] at h1 h4 g1 ⊢
  clear hc h6 hn
  have hw8 : IntKind.i8.wrap ((n : Int) - 1) = (n : Int) - 1 := IntWalk.i8_in _ (by omega)
  by_cases hlt : f < t
  · have a1 : decide (f < t) = true := decide_eq_true hlt
    have a2 : decide (t < f) = false := decide_eq_false (by omega)
    by_cases hf : f < 0
    · have a3 : decide (f < 0) = true := decide_eq_true hf
      go_enter Try.func46, Try.ntmps46
      go_wp2_with fail
      go_ret
      exact ⟨(ret_int (shC_2 (by rw [HN.out]; omega))).symm, (by repeat (first | exact Below.refl _ _ | refine Below.alloc ?_ (by first | (simp; done) | (simp; omega)) _))⟩
    · have a3 : decide (f < 0) = false := decide_eq_false hf
      by_cases ht : (n : Int) - 1 < t
      · have a4 : decide ((n : Int) - 1 < t) = true := decide_eq_true ht
        go_enter Try.func46, Try.ntmps46
        go_wp2_with fail
        go_ret
        exact ⟨(ret_int (shC_2 (by rw [HN.out]; omega))).symm, (by repeat (first | exact Below.refl _ _ | refine Below.alloc ?_ (by first | (simp; done) | (simp; omega)) _))⟩
      · have a4 : decide ((n : Int) - 1 < t) = false := decide_eq_false ht
        obtain ⟨f', rfl⟩ : ∃ f' : Nat, f = f' := ⟨f.toNat, by omega⟩
        obtain ⟨t', rfl⟩ : ∃ t' : Nat, t = t' := ⟨t.toNat, by omega⟩
        have hfR : f' < R.length := by have := HN.out; omega
        have htR : t' < R.length := by have := HN.out; omega
        have hne : f' ≠ t' := by omega
        have hbe : ((f' : Int) == (t' : Int)) = false := by simp; omega
        have hfn : (f' : Int) < (n : Int) := by omega
        have htn : (t' : Int) < (n : Int) := by omega
        obtain ⟨u, c0, r0⟩ := HC.out f' hfR
        obtain ⟨u', c1, r1⟩ := HC.out t' htR
        obtain ⟨fa, fc, rfl, _⟩ := r0.is
        obtain ⟨ta, tc, rfl, _⟩ := r1.is
        have hf6 := H6.out f' hfR
        have ht6 := H6.out t' htR
        have H60 := Lib.hid (fun (h : (R.getD f' []).length = 0) => shC_6 hfR htR hne h)
        have H30 := Lib.hid (fun (h : (R.getD f' []).length ≠ 0) (h2 : (R.getD t' []).length = 6) => shC_3 hfR htR hne h h2)
        have H00 := Lib.hid (fun (h : (R.getD f' []).length ≠ 0) (h2 : (R.getD t' []).length ≠ 6) => shC_0 hfR htR hne h h2)
        obtain ⟨lf, hlf⟩ : ∃ l, (R.getD f' []).length = l := ⟨_, rfl⟩
        obtain ⟨lt', hlt'⟩ : ∃ l, (R.getD t' []).length = l := ⟨_, rfl⟩
        rw [hlf] at c0 hf6 H60 H30 H00
        rw [hlt'] at c1 ht6 H30 H00
        clear r0 r1 hlf hlt'
        by_cases e0 : lf = 0
        · have HC6 := Lib.hid (H60.out e0)
          subst e0
          go_enter Try.func46, Try.ntmps46
          go_wp2_with fail
          go_ret
          exact ⟨(ret_int HC6.out).symm, (by repeat (first | exact Below.refl _ _ | refine Below.alloc ?_ (by first | (simp; done) | (simp; omega)) _))⟩
        · have b0 : ((lf : Int) == 0) = false := by simp; omega
          by_cases e6 : lt' = 6
          · have HC3 := Lib.hid (H30.out e0 e6)
            subst e6
            go_enter Try.func46, Try.ntmps46
            go_wp2_with fail
            go_ret
            exact ⟨(ret_int HC3.out).symm, (by repeat (first | exact Below.refl _ _ | refine Below.alloc ?_ (by first | (simp; done) | (simp; omega)) _))⟩
          · have b6 : ((lt' : Int) == 6) = false := by simp; omega
            have HC0 := Lib.hid (H00.out e0 e6)
            go_enter Try.func46, Try.ntmps46
            go_wp2_with fail
            go_ret
            exact ⟨(ret_int HC0.out).symm, (by repeat (first | exact Below.refl _ _ | refine Below.alloc ?_ (by first | (simp; done) | (simp; omega)) _))⟩
  · by_cases hgt : t < f
    · have a1 : decide (f < t) = false := decide_eq_false hlt
      have a2 : decide (t < f) = true := decide_eq_true hgt
      by_cases hf : t < 0
      · have a3 : decide (t < 0) = true := decide_eq_true hf
        go_enter Try.func46, Try.ntmps46
        go_wp2_with fail
        go_ret
        exact ⟨(ret_int (shC_2 (by rw [HN.out]; omega))).symm, (by repeat (first | exact Below.refl _ _ | refine Below.alloc ?_ (by first | (simp; done) | (simp; omega)) _))⟩
      · have a3 : decide (t < 0) = false := decide_eq_false hf
        by_cases ht : (n : Int) - 1 < f
        · have a4 : decide ((n : Int) - 1 < f) = true := decide_eq_true ht
          go_enter Try.func46, Try.ntmps46
          go_wp2_with fail
          go_ret
          exact ⟨(ret_int (shC_2 (by rw [HN.out]; omega))).symm, (by repeat (first | exact Below.refl _ _ | refine Below.alloc ?_ (by first | (simp; done) | (simp; omega)) _))⟩
        · have a4 : decide ((n : Int) - 1 < f) = false := decide_eq_false ht
          obtain ⟨f', rfl⟩ : ∃ f' : Nat, f = f' := ⟨f.toNat, by omega⟩
          obtain ⟨t', rfl⟩ : ∃ t' : Nat, t = t' := ⟨t.toNat, by omega⟩
          have hfR : f' < R.length := by have := HN.out; omega
          have htR : t' < R.length := by have := HN.out; omega
          have hne : f' ≠ t' := by omega
          have hbe : ((f' : Int) == (t' : Int)) = false := by simp; omega
          have hfn : (f' : Int) < (n : Int) := by omega
          have htn : (t' : Int) < (n : Int) := by omega
          obtain ⟨u, c0, r0⟩ := HC.out f' hfR
          obtain ⟨u', c1, r1⟩ := HC.out t' htR
          obtain ⟨fa, fc, rfl, _⟩ := r0.is
          obtain ⟨ta, tc, rfl, _⟩ := r1.is
          have hf6 := H6.out f' hfR
          have ht6 := H6.out t' htR
          have H60 := Lib.hid (fun (h : (R.getD f' []).length = 0) => shC_6 hfR htR hne h)
          have H30 := Lib.hid (fun (h : (R.getD f' []).length ≠ 0) (h2 : (R.getD t' []).length = 6) => shC_3 hfR htR hne h h2)
          have H00 := Lib.hid (fun (h : (R.getD f' []).length ≠ 0) (h2 : (R.getD t' []).length ≠ 6) => shC_0 hfR htR hne h h2)
          obtain ⟨lf, hlf⟩ : ∃ l, (R.getD f' []).length = l := ⟨_, rfl⟩
          obtain ⟨lt', hlt'⟩ : ∃ l, (R.getD t' []).length = l := ⟨_, rfl⟩
          rw [hlf] at c0 hf6 H60 H30 H00
          rw [hlt'] at c1 ht6 H30 H00
          clear r0 r1 hlf hlt'
          by_cases e0 : lf = 0
          · have HC6 := Lib.hid (H60.out e0)
            subst e0
            go_enter Try.func46, Try.ntmps46
            go_wp2_with fail
            go_ret
            exact ⟨(ret_int HC6.out).symm, (by repeat (first | exact Below.refl _ _ | refine Below.alloc ?_ (by first | (simp; done) | (simp; omega)) _))⟩
          · have b0 : ((lf : Int) == 0) = false := by simp; omega
            by_cases e6 : lt' = 6
            · have HC3 := Lib.hid (H30.out e0 e6)
              subst e6
              go_enter Try.func46, Try.ntmps46
              go_wp2_with fail
              go_ret
              exact ⟨(ret_int HC3.out).symm, (by repeat (first | exact Below.refl _ _ | refine Below.alloc ?_ (by first | (simp; done) | (simp; omega)) _))⟩
            · have b6 : ((lt' : Int) == 6) = false := by simp; omega
              have HC0 := Lib.hid (H00.out e0 e6)
              go_enter Try.func46, Try.ntmps46
              go_wp2_with fail
              go_ret
              exact ⟨(ret_int HC0.out).symm, (by repeat (first | exact Below.refl _ _ | refine Below.alloc ?_ (by first | (simp; done) | (simp; omega)) _))⟩
    · obtain rfl : f = t := by omega
      have a1 : decide (f < f) = false := decide_eq_false hlt
      by_cases hf : f < 0
      · have a3 : decide (f < 0) = true := decide_eq_true hf
        go_enter Try.func46, Try.ntmps46
        go_wp2_with fail
        go_ret
        exact ⟨(ret_int (shC_2 (by rw [HN.out]; omega))).symm, (by repeat (first | exact Below.refl _ _ | refine Below.alloc ?_ (by first | (simp; done) | (simp; omega)) _))⟩
      · have a3 : decide (f < 0) = false := decide_eq_false hf
        by_cases ht : (n : Int) - 1 < f
        · have a4 : decide ((n : Int) - 1 < f) = true := decide_eq_true ht
          go_enter Try.func46, Try.ntmps46
          go_wp2_with fail
          go_ret
          exact ⟨(ret_int (shC_2 (by rw [HN.out]; omega))).symm, (by repeat (first | exact Below.refl _ _ | refine Below.alloc ?_ (by first | (simp; done) | (simp; omega)) _))⟩
        · have a4 : decide ((n : Int) - 1 < f) = false := decide_eq_false ht
          go_enter Try.func46, Try.ntmps46
          go_wp2_with fail
          go_ret
          exact ⟨(ret_int (shC_2 (by rw [HN.out]; omega))).symm, (by repeat (first | exact Below.refl _ _ | refine Below.alloc ?_ (by first | (simp; done) | (simp; omega)) _))⟩

set_option maxHeartbeats 4000000 in
set_option maxRecDepth 100000 in
theorem copied_any (v : Value) (R : List (List Int)) (w : World) (hv : ReadsS w v R) (h4 : R.length ≤ 4) (h6 : ∀ j, j < R.length → (R.getD j []).length ≤ 6) :
    Calls Try.prog 48 #[v] w (RetMD w R) := by
  obtain ⟨i0, hi, hz0, hz1, hz2⟩ := info_parts info_rows
  obtain ⟨b, cap, rfl, g1, g2, g3, hc⟩ := hv
  have HC := Lib.hid hc
  have H6 := Lib.hid h6
  obtain ⟨n, hn⟩ : ∃ n, R.length = n := ⟨_, rfl⟩
  have HN := Lib.hid hn
  rw [hn] at h4 g1 ⊢
  clear hc h6 hn
  go_enter Try.func48, Try.ntmps48
  go_wp2_with (refine wpList_make_full _ rfl _ _ 22 rfl w.heap.size 52 i0 (.slice none 0 0) 1 Try.underlying22 hi hz0 hz1 .i64 .i64 _ _ n rfl rfl rfl rfl (by rw [hz2]; omega) (by unfold maxLen; omega) (Nat.le_refl _) ?_; intro w1 hown1 hg1)
  have hs1 : w.heap.size < w1.heap.size := (hown1.lt w.heap.size rfl).2
  have HO1 := Lib.hid hown1
  have HB1 : Hid (Below w.heap.size w w1) := Lib.hid ((Below.refl _ _).grown hg1 (Nat.le_refl _) (fun k hk => by simp at hk))
  clear hown1 hg1
  go_loopw [11] (fun i wr => ∃ (k : Nat) (us : List Value), k ≤ n ∧ i = .int .i64 k ∧ wr.ownsRow w.heap.size 52 1 (.slice (some ⟨w.heap.size, 0, none⟩) n n) n us ∧ RowsTo (w.heap.size + 1) wr us R k ∧ w.heap.size < wr.heap.size ∧ Below w.heap.size w wr) (fun i _ => n - (intOf i).toNat)
  case atStart => exact ⟨0, _, Nat.zero_le _, rfl, HO1.out, RowsTo.zero _ _ _ _, hs1, HB1.out⟩
  case round =>
    obtain ⟨k, us, hk, rfl, hown, hrows, hsz, hnx⟩ := hrel
    have hus : us.length = n := by simpa using hown.1
    have HU := Lib.hid hus
    have HO := Lib.hid hown
    have HRW := Lib.hid hrows
    have HB := Lib.hid hnx
    by_cases hlt : k < n
    · have hkR : k < R.length := by have := HN.out; omega
      obtain ⟨u, c0, r0⟩ := HC.out k hkR
      have g0 : wr.cell? ⟨b, k, none⟩ = some u := by rw [hnx.cell (p := ⟨b, k, none⟩) (World.block_lt_of_cell? w _ c0)]; exact c0
      have HR0 := Lib.hid (r0.below hnx)
      have hl6 := H6.out k hkR
      have hkn : (k : Int) < (n : Int) := by omega
      clear hus hown hrows hnx c0 r0
      go_wp2_with fail
      refine (clone_any u (R.getD k []) wr HR0.out (by omega)).mono ?_
      rintro e w2 ⟨v2, rfl, o2, b2⟩
      obtain ⟨va, vl, vc, rfl⟩ : ∃ a l c, v2 = .slice a l c := by
        rcases o2.cases with ⟨rfl, _⟩ | ⟨g, cap, rfl, _⟩
        · exact ⟨_, _, _, rfl⟩
        · exact ⟨_, _, _, rfl⟩
      have own2 := row_below HO.out b2
      have f0 := own2.frozenAt k
      have d0 := own2.cellAt k (by omega)
      have S := own2.stored k (.slice va vl vc)
      have rows2 : RowsTo (w.heap.size + 1) (w2.setCell ⟨w.heap.size, k, none⟩ (.slice va vl vc)) (us.set k (.slice va vl vc)) R (k + 1) := by
        refine RowsTo.succ ((HRW.out.below b2).kept S.2 (by omega)) ?_ (by rw [HU.out]; exact hlt) ?_
        · exact (o2.mono (by omega)).kept S.2 (by
            cases e : (Value.slice va vl vc).ownBlock with
            | none => exact .inl rfl
            | some p => exact .inr (fun e2 => by have := (o2.block p e).1; simp at e2; omega))
        · intro j hj p q hp hq
          have h1 := (HRW.out.1 j hj).block p hp
          have h2 := o2.block q hq
          omega
      have HS := Lib.hid S.1
      have HR2 := Lib.hid rows2
      have HB2 : Hid (Below w.heap.size w w2) := Lib.hid (HB.out.trans (b2.mono (Nat.le_of_lt hsz)))
      have hs2 : w.heap.size < w2.heap.size := Nat.lt_of_lt_of_le hsz b2.size
      have hx : ∃ x, us[k]? = some x := ⟨us[k]'(by rw [HU.out]; exact hlt), List.getElem?_eq_getElem _⟩
      obtain ⟨x, hx⟩ := hx
      rw [hx] at d0
      clear own2 S rows2 o2 b2 hx
      go_wp2_with fail
      go_roundw
      case rel => exact ⟨k + 1, _, by omega, by go_num, HS.out, HR2.out, by simpa using hs2, HB2.out.setCell (Nat.le_refl _) _⟩
      case measure => simp [intOf]; omega
    · have hk' : k = R.length := by have := HN.out; omega
      have HM : Hid (OwnM w.heap.size wr (.slice (some ⟨w.heap.size, 0, none⟩) n n) R) := Lib.hid ⟨us, w.heap.size + 1, by omega, by rw [HN.out]; exact hown, by rw [← hk']; exact hrows, fun p hp => by simp [Value.ownBlock] at hp; omega⟩
      clear hk' hus hown hrows hnx
      go_wp2_with fail
      go_ret
      exact ⟨_, rfl, HM.out.toD, HB.out⟩
end Go.Proofs.Ytadhoodddedjjab
