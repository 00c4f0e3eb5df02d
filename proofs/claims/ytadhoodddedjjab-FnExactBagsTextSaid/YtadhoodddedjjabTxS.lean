/-
  Texts of bags: the model's.
-/
import Derived.Test.YtadhoodddedjjabTxP
import Derived.Laws.Concat
namespace Go.Proofs.Ytadhoodddedjjab
open Go Go.RowKit
set_option linter.unusedVariables false

theorem add_strs (a b : List Int) (wx : World) (h : a.length + b.length ≤ 1000) : (Op.stringOp .add (strOfNums a) (strOfNums b)).run Try.prog wx = .ok (.string (strOfNums (a ++ b))) wx := by
  rw [run_string_add_sum wx _ _ (by rw [strOfNums_size, strOfNums_size]; omega), strOfNums_app]

set_option maxHeartbeats 4000000 in
set_option maxRecDepth 100000 in
theorem slet_row (b n cap : Nat) (R : List (List Int)) (hn : R.length = n) (h4 : n ≤ 4) (hok : RowsOk R R.length) (w : World)
    (hc : ∀ j, j < R.length → ∃ u, w.cell? ⟨b, j, none⟩ = some u ∧ ReadsI w u (R.getD j [])) :
    Calls Try.prog 51 #[.slice (some ⟨b, 0, none⟩) n cap] w fun e w' => e = .returned (.string (strOfNums (txtK R R.length))) ∧ Below w.heap.size w w' := by
  have HN := Lib.hid hn
  have HC := Lib.hid hc
  have HOK := Lib.hid hok
  clear hn hc hok
  go_enter Try.func51, Try.ntmps51
  go_wp2_with fail
  go_loopw [3, 4] (fun t i wr => ∃ k : Nat, k ≤ n ∧ i = .int .i64 k ∧ t = .string (strOfNums (txtK R k)) ∧ Below w.heap.size w wr) (fun _ i _ => n - (intOf i).toNat)
  case atStart => exact ⟨0, Nat.zero_le _, rfl, rfl, Below.refl _ _⟩
  case round =>
    obtain ⟨k, hk, rfl, rfl, hnx⟩ := hrel
    have HNX := Lib.hid hnx
    by_cases hlt : k < n
    · have hkR : k < R.length := by have := HN.out; omega
      have hkn : (k : Int) < (n : Int) := by omega
      obtain ⟨a, cp, c0, r0⟩ := ReadsM.row HC.out hkR
      have HRD := Lib.hid r0
      have hr6 := (HOK.out k hkR).1
      have hxv := (HOK.out k hkR).2
      have hbd := txtK_len (fun r hr => HOK.out r (by omega) : RowsOk R k)
      have HS : Hid (txtK R (k + 1) = (txtK R k ++ if 0 < k then [47] else []) ++ digK (R.getD k []) (R.getD k []).length) := Lib.hid rfl
      have HC0 := Lib.hid c0
      obtain ⟨xs, hxs⟩ : ∃ xs, R.getD k [] = xs := ⟨_, rfl⟩
      rw [hxs] at c0 HC0 HRD hr6 hxv HS
      have HXV := Lib.hid hxv
      obtain ⟨t, ht⟩ : ∃ t, txtK R k = t := ⟨_, rfl⟩
      rw [ht] at hbd HS ⊢
      obtain ⟨l, hl⟩ : ∃ l, xs.length = l := ⟨_, rfl⟩
      have HLL := Lib.hid hl
      rw [hl] at c0 HC0 hr6 HS
      obtain ⟨s, hs⟩ : ∃ s, (t ++ if 0 < k then [47] else []) = s := ⟨_, rfl⟩
      have HST := Lib.hid hs
      rw [hs] at HS
      have hsl : s.length ≤ 7 * k + 1 := by
        rw [← hs, List.length_append]
        have h3 : (if 0 < k then [47] else [] : List Int).length ≤ 1 := by split <;> simp
        omega
      have hl6 : l ≤ 6 := hr6
      clear r0 hxs ht hl hxv hnx
      rcases Decidable.em (0 < k) with hk0 | hk0
      have hd : decide ((0 : Int) < (k : Int)) = true := decide_eq_true (by omega)
      have hadd : (Op.stringOp .add (strOfNums t) ⟨#[47]⟩).run Try.prog wr = .ok (.string (strOfNums s)) wr := by
        have h := add_strs t [47] wr (by simp; omega)
        rw [show t ++ [47] = s from by rw [← HST.out, if_pos hk0]] at h
        exact h
      go_wp2_with fail
      clear hadd
      rotate_left
      have hd : decide ((0 : Int) < (k : Int)) = false := decide_eq_false (by omega)
      go_wp2_with fail
      rw [show t = s from by rw [← HST.out, if_neg hk0, List.append_nil]]
      all_goals
        go_loopw [3, 5] (fun t' i wv => ∃ q : Nat, q ≤ l ∧ i = .int .i64 q ∧ t' = .string (strOfNums (s ++ digK xs q)) ∧ Below w.heap.size w wv) (fun _ i _ => l - (intOf i).toNat)
        case atStart => exact ⟨0, Nat.zero_le _, rfl, by simp [digK], HNX.out⟩
        case round =>
          obtain ⟨q, hq, rfl, rfl, hnv⟩ := hrel
          have HNV := Lib.hid hnv
          have c1 := (hnv.cell (p := ⟨b, k, none⟩) (World.block_lt_of_cell? w _ HC0.out)).trans HC0.out
          by_cases hlq : q < l
          · have hqx : q < xs.length := by have := HLL.out; omega
            obtain ⟨b2, hab, hcc⟩ : ∃ b2, a = some ⟨b2, 0, none⟩ ∧ Cells w b2 xs := by
              obtain ⟨a', cap', e1, e2⟩ := HRD.out
              simp only [Value.slice.injEq] at e1
              obtain ⟨rfl, _, rfl⟩ := e1
              exact e2 (fun e => by rw [e] at hqx; simp at hqx)
            subst hab
            have d0 := hcc.below hnv q hqx
            have HXB := HXV.out q hqx
            have HS2 : Hid (s ++ digK xs (q + 1) = (s ++ digK xs q) ++ [48 + xs.getD q 0]) := Lib.hid (by rw [digK, List.append_assoc])
            obtain ⟨x, hx⟩ : ∃ x, xs.getD q 0 = x := ⟨_, rfl⟩
            rw [hx] at d0 HS2 HXB
            have hlen : (s ++ digK xs q).length ≤ 100 := by rw [List.length_append, digK_len]; omega
            have hqi : (q : Int) < (l : Int) := by omega
            obtain ⟨y, hy⟩ : ∃ y, s ++ digK xs q = y := ⟨_, rfl⟩
            rw [hy] at HS2 hlen ⊢
            clear hx hcc hnv hy
            go_wp2_with fail
            refine (dec_any x HXB.1 (by have := HXB.2; have := HN.out; omega) _).mono ?_
            rintro e w5 ⟨rfl, b5⟩
            have HN5 := Lib.hid (blink HNV.out b5)
            have hadd := add_strs y [48 + x] w5 (by simp; omega)
            clear b5
            go_wp2_with fail
            clear hadd
            go_roundw
            case rel => exact ⟨q + 1, by omega, by go_num, by rw [HS2.out], HN5.out⟩
            case measure => simp [intOf]; omega
          · have HE : Hid (q = l) := Lib.hid (by omega)
            clear hnv
            go_wp2_with fail
            go_roundw
            case rel => exact ⟨k + 1, by omega, by go_num, by rw [HS.out, HE.out], HNV.out⟩
            case measure => simp [intOf]; omega
    · have HE : Hid (k = R.length) := Lib.hid (by have := HN.out; omega)
      clear hnx
      go_wp2_with fail
      go_ret
      exact ⟨by rw [HE.out]; rfl, HNX.out⟩

set_option maxHeartbeats 1000000 in
theorem stext_any (v : Value) (R : List (List Int)) (w : World) (hv : ReadsM w v R) (hx : R.length ≤ 1048576) (hr : ∀ j, j < R.length → (R.getD j []).length ≤ 1048576) :
    Calls Try.prog 33 #[v] w fun e w' => e = .returned (.string (txtM R)) ∧ Below w.heap.size w w' := by
  have HV := Lib.hid hv
  cases hvl : vldM R
  · have HE : Hid (txtM R = ⟨#[]⟩) := Lib.hid (by simp [txtM, hvl])
    rw [HE.out]
    go_enter Try.func33, Try.ntmps33
    go_wp2_with fail
    refine (sbags_eq _ R _ HV.out hx hr).mono ?_
    rintro e w2 ⟨rfl, rfl⟩
    rw [hvl]
    go_wp2_with fail
    go_ret
    exact ⟨rfl, Below.refl _ _⟩
  · have HE : Hid (txtM R = strOfNums (txtK R R.length)) := Lib.hid (by simp [txtM, hvl])
    obtain ⟨h1, h4, hok⟩ := vldM_spec hvl
    rw [HE.out]
    obtain ⟨a, cap, rfl, h⟩ := hv
    obtain ⟨b, rfl, hc⟩ := h (fun e => by rw [e] at h1; simp at h1)
    have HC := Lib.hid hc
    have HOK := Lib.hid hok
    clear h hc hok
    go_enter Try.func33, Try.ntmps33
    go_wp2_with fail
    refine (sbags_eq _ R _ HV.out hx hr).mono ?_
    rintro e w2 ⟨rfl, rfl⟩
    rw [hvl]
    go_wp2_with fail
    refine (slet_row b R.length cap R rfl h4 HOK.out w HC.out).mono ?_
    rintro e w2 ⟨rfl, b2⟩
    have HB := Lib.hid b2
    clear b2
    go_wp2_with fail
    go_ret
    exact ⟨rfl, HB.out⟩
end Go.Proofs.Ytadhoodddedjjab
