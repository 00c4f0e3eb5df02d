/-
  Texts of bags: the program's.
-/
import Derived.Test.YtadhoodddedjjabTxS
import Derived.Test.YtadhoodddedjjabShI
namespace Go.Proofs.Ytadhoodddedjjab
open Go Go.RowKit
set_option linter.unusedVariables false

theorem info_u8 : (Try.prog.info? 5).map (fun i => (i.zero, i.size, i.bytes)) = some (some (.int .u8 0), 1, 1) := by kernel_rfl
/-- A row of bytes that the call made. -/
def OwnU (B : Nat) (w : World) (v : Value) (xs : List Int) : Prop := w.ownsRow B 5 1 v xs.length (xs.map (Value.int .u8))
theorem own_str {B : Nat} {w : World} {v : Value} {xs : List Int} (h : OwnU B w v xs) : (convert 79 9 v).run Try.prog w = .ok (.string (strOfNums xs)) w := by
  rcases h.2 with ⟨rfl, h0⟩ | ⟨g, cap, cur, rfl, hb, hg, hn, hm, _, _⟩
  · have e : xs = [] := List.eq_nil_of_length_eq_zero h0
    subst e
    exact run_convert_bytes_nil w 79 5 Try.underlying79 Try.underlying5 0 0 9 Try.underlying9
  · refine run_convert_bytes_arg w 79 5 Try.underlying79 Try.underlying5 g 0 xs.length cap xs rfl (fun i hi => ?_) 9 Try.underlying9
    rw [Nat.zero_add, World.ownsRow.cellAt h i (by simpa using hi)]
    simp [hi, List.getD]

set_option maxHeartbeats 4000000 in
set_option maxRecDepth 100000 in
theorem ilet_row (b n cap : Nat) (R : List (List Int)) (hn : R.length = n) (h4 : n ≤ 4) (hok : RowsOk R R.length) (w : World)
    (hc : ∀ j, j < R.length → ∃ u, w.cell? ⟨b, j, none⟩ = some u ∧ ReadsI w u (R.getD j [])) :
    Calls Try.prog 53 #[.slice (some ⟨b, 0, none⟩) n cap] w fun e w' => e = .returned (.string (strOfNums (txtK R R.length))) ∧ Below w.heap.size w w' := by
  obtain ⟨i0, hi, hz0, hz1, hz2⟩ := info_parts info_u8
  have HN := Lib.hid hn
  have HC := Lib.hid hc
  have HOK := Lib.hid hok
  clear hn hc hok
  go_enter Try.func53, Try.ntmps53
  go_wp2_with fail
  go_loopw [3, 10] (fun t i wr => ∃ k : Nat, k ≤ n ∧ i = .int .i64 k ∧ OwnU w.heap.size wr t (txtK R k) ∧ Below w.heap.size w wr) (fun _ i _ => n - (intOf i).toNat)
  case atStart => exact ⟨0, Nat.zero_le _, rfl, World.ownsRow_nil _ _ _ _, Below.refl _ _⟩
  case round =>
    obtain ⟨k, hk, rfl, hown, hnx⟩ := hrel
    have HNX := Lib.hid hnx
    have HO := Lib.hid hown
    have hwr : w.heap.size ≤ wr.heap.size := hnx.size
    by_cases hlt : k < n
    · have hkR : k < R.length := by have := HN.out; omega
      have hkn : (k : Int) < (n : Int) := by omega
      obtain ⟨a, cp, c0, r0⟩ := ReadsM.row HC.out hkR
      have HRD := Lib.hid r0
      have hr6 := (HOK.out k hkR).1
      have hxv := (HOK.out k hkR).2
      have hbd := txtK_len (fun r hr => HOK.out r (by omega) : RowsOk R k)
      have HS : Hid (txtK R (k + 1) = (txtK R k ++ if 0 < k then [47] else []) ++ digK (R.getD k []) (R.getD k []).length) := Lib.hid rfl
      have c1 := (hnx.cell (p := ⟨b, k, none⟩) (World.block_lt_of_cell? w _ c0)).trans c0
      obtain ⟨xs, hxs⟩ : ∃ xs, R.getD k [] = xs := ⟨_, rfl⟩
      rw [hxs] at c0 c1 HRD hr6 hxv HS
      have HXV := Lib.hid hxv
      obtain ⟨t, ht⟩ : ∃ t, txtK R k = t := ⟨_, rfl⟩
      rw [ht] at hbd HS HO hown
      obtain ⟨l, hl⟩ : ∃ l, xs.length = l := ⟨_, rfl⟩
      have HLL := Lib.hid hl
      rw [hl] at c0 c1 hr6 HS
      obtain ⟨s, hs⟩ : ∃ s, (t ++ if 0 < k then [47] else []) = s := ⟨_, rfl⟩
      have HST := Lib.hid hs
      rw [hs] at HS
      have hsl : s.length ≤ 7 * k + 1 := by
        rw [← hs, List.length_append]
        have h3 : (if 0 < k then [47] else [] : List Int).length ≤ 1 := by split <;> simp
        omega
      have hl6 : l ≤ 6 := hr6
      -- the inner loop's round, once
      rcases Decidable.em (0 < k) with hk0 | hk0
      · have hd : decide ((0 : Int) < (k : Int)) = true := decide_eq_true (by omega)
        have e47 : s = t ++ [47] := by rw [← hs, if_pos hk0]
        have HE47 := Lib.hid e47
        clear r0 hxs ht hl hxv hnx hs e47
        go_wp2_with (at_builtin; refine wpList_append_own _ rfl _ _ 79 rfl w.heap.size 5 i0 (.int .u8 0) 1 1 Try.underlying79 hi hz0 hz1 hz2 rfl (by decide) _ _ _ rfl (hown.alloc _) ⟨wr.heap.size, 0, none⟩ 1 1 [.int .u8 47] rfl rfl (cell_one_new _ _ _) (ints_oneCell .u8 [47]) (by unfold maxLen; omega) (by omega) (by simp; omega) ?_)
        intro v' w3 hown' hgrow _
        have HO3 : Hid (OwnU w.heap.size w3 v' s) := Lib.hid (by
          unfold OwnU; rw [HE47.out, List.map_append, List.length_append]; exact hown')
        have HB3 : Hid (Below w.heap.size w w3) := Lib.hid ((HNX.out.alloc hwr _).grown hgrow (by simp; omega) (fun j hj => (hown.lt j hj).1))
        clear hown' hgrow hown
        go_wp2_with fail
        go_loopw [3, 22] (fun t' i wv => ∃ q : Nat, q ≤ l ∧ i = .int .i64 q ∧ OwnU w.heap.size wv t' (s ++ digK xs q) ∧ Below w.heap.size w wv) (fun _ i _ => l - (intOf i).toNat)
        case atStart => exact ⟨0, Nat.zero_le _, rfl, by rw [digK, List.append_nil]; exact HO3.out, HB3.out⟩
        case round =>
          obtain ⟨q, hq, rfl, hown, hnv⟩ := hrel
          have HNV := Lib.hid hnv
          have HOV := Lib.hid hown
          have hwv : w.heap.size ≤ wr.heap.size := hnv.size
          by_cases hlq : q < l
          · have hqx : q < xs.length := by have := HLL.out; omega
            obtain ⟨b2, hab, hcc⟩ : ∃ b2, a = some ⟨b2, 0, none⟩ ∧ Cells w b2 xs := by
              obtain ⟨a', cap', e1, e2⟩ := HRD.out
              simp only [Value.slice.injEq] at e1
              obtain ⟨rfl, _, rfl⟩ := e1
              exact e2 (fun e => by rw [e] at hqx; simp at hqx)
            subst hab
            have d0 := hcc.below hnv q hqx
            have HXB := HXV.out q hqx
            have HS2 : Hid (s ++ digK xs (q + 1) = (s ++ digK xs q) ++ [48 + xs.getD q 0]) := Lib.hid (by rw [digK, List.append_assoc])
            obtain ⟨x, hx⟩ : ∃ x, xs.getD q 0 = x := ⟨_, rfl⟩
            rw [hx] at d0 HS2 HXB
            have hx0 : 0 ≤ x := HXB.1
            have hx3 : x ≤ 3 := by have := HXB.2; have := HN.out; omega
            have hlen : (s ++ digK xs q).length ≤ 100 := by rw [List.length_append, digK_len]; omega
            have hqi : (q : Int) < (l : Int) := by omega
            obtain ⟨y, hy⟩ : ∃ y, s ++ digK xs q = y := ⟨_, rfl⟩
            rw [hy] at HS2 hlen hown
            clear hx hcc hnv hy HXB HOV
            go_wp2_with (at_builtin; refine wpList_append_own _ rfl _ _ 79 rfl w.heap.size 5 i0 (.int .u8 0) 1 1 Try.underlying79 hi hz0 hz1 hz2 rfl (by decide) _ _ _ rfl (hown.alloc _) ⟨wr.heap.size, 0, none⟩ 1 1 [.int .u8 (48 + x)] rfl rfl (cell_one_new _ _ _) (ints_oneCell .u8 [48 + x]) (by unfold maxLen; omega) (by omega) (by simp; omega) ?_)
            intro v'' w5 hown' hgrow _
            have HO5 : Hid (OwnU w.heap.size w5 v'' (s ++ digK xs (q + 1))) := Lib.hid (by
              unfold OwnU; rw [HS2.out, List.map_append, List.length_append]; exact hown')
            have HB5 : Hid (Below w.heap.size w w5) := Lib.hid ((HNV.out.alloc hwv _).grown hgrow (by simp; omega) (fun j hj => (hown.lt j hj).1))
            clear hown' hgrow hown
            go_wp2_with fail
            go_roundw
            case rel => exact ⟨q + 1, by omega, by go_num, HO5.out, HB5.out⟩
            case measure => simp [intOf]; omega
          · have HE : Hid (q = l) := Lib.hid (by omega)
            have HOW : Hid (OwnU w.heap.size wr u3 (txtK R (k + 1))) := Lib.hid (by rw [HS.out, ← HE.out]; exact HOV.out)
            clear hnv hown
            go_wp2_with fail
            go_roundw
            case rel => exact ⟨k + 1, by omega, by go_num, HOW.out, HNV.out⟩
            case measure => simp [intOf]; omega
      · have hd : decide ((0 : Int) < (k : Int)) = false := decide_eq_false (by omega)
        have e47 : s = t := by rw [← hs, if_neg hk0, List.append_nil]
        have HO3 : Hid (OwnU w.heap.size wr u3 s) := Lib.hid (by rw [e47]; exact hown)
        have HB3 := HNX
        clear r0 hxs ht hl hxv hnx hs e47 hown
        go_wp2_with fail
        go_loopw [3, 22] (fun t' i wv => ∃ q : Nat, q ≤ l ∧ i = .int .i64 q ∧ OwnU w.heap.size wv t' (s ++ digK xs q) ∧ Below w.heap.size w wv) (fun _ i _ => l - (intOf i).toNat)
        case atStart => exact ⟨0, Nat.zero_le _, rfl, by rw [digK, List.append_nil]; exact HO3.out, HB3.out⟩
        case round =>
          obtain ⟨q, hq, rfl, hown, hnv⟩ := hrel
          have HNV := Lib.hid hnv
          have HOV := Lib.hid hown
          have hwv : w.heap.size ≤ wr.heap.size := hnv.size
          by_cases hlq : q < l
          · have hqx : q < xs.length := by have := HLL.out; omega
            obtain ⟨b2, hab, hcc⟩ : ∃ b2, a = some ⟨b2, 0, none⟩ ∧ Cells w b2 xs := by
              obtain ⟨a', cap', e1, e2⟩ := HRD.out
              simp only [Value.slice.injEq] at e1
              obtain ⟨rfl, _, rfl⟩ := e1
              exact e2 (fun e => by rw [e] at hqx; simp at hqx)
            subst hab
            have d0 := hcc.below hnv q hqx
            have HXB := HXV.out q hqx
            have HS2 : Hid (s ++ digK xs (q + 1) = (s ++ digK xs q) ++ [48 + xs.getD q 0]) := Lib.hid (by rw [digK, List.append_assoc])
            obtain ⟨x, hx⟩ : ∃ x, xs.getD q 0 = x := ⟨_, rfl⟩
            rw [hx] at d0 HS2 HXB
            have hx0 : 0 ≤ x := HXB.1
            have hx3 : x ≤ 3 := by have := HXB.2; have := HN.out; omega
            have hlen : (s ++ digK xs q).length ≤ 100 := by rw [List.length_append, digK_len]; omega
            have hqi : (q : Int) < (l : Int) := by omega
            obtain ⟨y, hy⟩ : ∃ y, s ++ digK xs q = y := ⟨_, rfl⟩
            rw [hy] at HS2 hlen hown
            clear hx hcc hnv hy HXB HOV
            go_wp2_with (at_builtin; refine wpList_append_own _ rfl _ _ 79 rfl w.heap.size 5 i0 (.int .u8 0) 1 1 Try.underlying79 hi hz0 hz1 hz2 rfl (by decide) _ _ _ rfl (hown.alloc _) ⟨wr.heap.size, 0, none⟩ 1 1 [.int .u8 (48 + x)] rfl rfl (cell_one_new _ _ _) (ints_oneCell .u8 [48 + x]) (by unfold maxLen; omega) (by omega) (by simp; omega) ?_)
            intro v'' w5 hown' hgrow _
            have HO5 : Hid (OwnU w.heap.size w5 v'' (s ++ digK xs (q + 1))) := Lib.hid (by
              unfold OwnU; rw [HS2.out, List.map_append, List.length_append]; exact hown')
            have HB5 : Hid (Below w.heap.size w w5) := Lib.hid ((HNV.out.alloc hwv _).grown hgrow (by simp; omega) (fun j hj => (hown.lt j hj).1))
            clear hown' hgrow hown
            go_wp2_with fail
            go_roundw
            case rel => exact ⟨q + 1, by omega, by go_num, HO5.out, HB5.out⟩
            case measure => simp [intOf]; omega
          · have HE : Hid (q = l) := Lib.hid (by omega)
            have HOW : Hid (OwnU w.heap.size wr u3 (txtK R (k + 1))) := Lib.hid (by rw [HS.out, ← HE.out]; exact HOV.out)
            clear hnv hown
            go_wp2_with fail
            go_roundw
            case rel => exact ⟨k + 1, by omega, by go_num, HOW.out, HNV.out⟩
            case measure => simp [intOf]; omega
    · have HE : Hid (k = R.length) := Lib.hid (by have := HN.out; omega)
      have hst := own_str hown
      clear hnx hown
      go_wp2_with fail
      go_ret
      exact ⟨by rw [HE.out]; rfl, HNX.out⟩

set_option maxHeartbeats 1000000 in
theorem itext_any (v : Value) (R : List (List Int)) (w : World) (hv : ReadsM w v R) (hx : R.length ≤ 1048576) (hr : ∀ j, j < R.length → (R.getD j []).length ≤ 1048576) :
    Calls Try.prog 34 #[v] w fun e w' => e = .returned (.string (txtM R)) ∧ Below w.heap.size w w' := by
  have HV := Lib.hid hv
  cases hvl : vldM R
  · have HE : Hid (txtM R = ⟨#[]⟩) := Lib.hid (by simp [txtM, hvl])
    rw [HE.out]
    go_enter Try.func34, Try.ntmps34
    go_wp2_with fail
    refine (ivldM_eq _ R _ HV.out hx hr).mono ?_
    rintro e w2 ⟨rfl, rfl⟩
    rw [hvl]
    go_wp2_with fail
    go_ret
    exact ⟨rfl, Below.refl _ _⟩
  · have HE : Hid (txtM R = strOfNums (txtK R R.length)) := Lib.hid (by simp [txtM, hvl])
    obtain ⟨h1, h4, hok⟩ := vldM_spec hvl
    rw [HE.out]
    obtain ⟨a, cap, rfl, h⟩ := hv
    obtain ⟨b, rfl, hc⟩ := h (fun e => by rw [e] at h1; simp at h1)
    have HC := Lib.hid hc
    have HOK := Lib.hid hok
    clear h hc hok
    go_enter Try.func34, Try.ntmps34
    go_wp2_with fail
    refine (ivldM_eq _ R _ HV.out hx hr).mono ?_
    rintro e w2 ⟨rfl, rfl⟩
    rw [hvl]
    go_wp2_with fail
    refine (ilet_row b R.length cap R rfl h4 HOK.out w HC.out).mono ?_
    rintro e w2 ⟨rfl, b2⟩
    have HB := Lib.hid b2
    clear b2
    go_wp2_with fail
    go_ret
    exact ⟨rfl, HB.out⟩
end Go.Proofs.Ytadhoodddedjjab
