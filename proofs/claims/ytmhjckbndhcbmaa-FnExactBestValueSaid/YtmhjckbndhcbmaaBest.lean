/-
  Plain function of BestValue, and the contract of spec.BestValue.
-/
import Derived.Test.YtmhjckbndhcbmaaReach
import Derived.Test.YtmhjckbndhcbmaaHas
namespace Go.Proofs.Ytmhjckbndhcbmaa
open Go Go.RowKit
set_option linter.unusedVariables false

open Classical in
noncomputable def rv (xs : List Int) (s : Nat) : Int := if h : ∃ r, IsReach xs s r then ((Classical.choose h : Nat) : Int) else 0
theorem rv_is {xs : List Int} {s r : Nat} (h : IsReach xs s r) : rv xs s = r := by
  have hx : ∃ r, IsReach xs s r := ⟨r, h⟩
  unfold rv
  rw [dif_pos hx]
  exact congrArg _ ((Classical.choose_spec hx).unique h)
/-- The best value of 1 to k, and its reach. -/
noncomputable def bestK (xs : List Int) (m : Nat) : Nat → Int × Int
  | 0 => (0, -1)
  | k + 1 => if hasB xs ((k : Int) + 1) = true then bestK xs m k else if (bestK xs m k).2 < rv (xs ++ [(k : Int) + 1]) m then ((k : Int) + 1, rv (xs ++ [(k : Int) + 1]) m) else bestK xs m k
theorem bestK_zero (xs : List Int) (m : Nat) : bestK xs m 0 = (0, -1) := rfl
theorem bestK_has {xs : List Int} {m k : Nat} (h : hasB xs ((k : Int) + 1) = true) : bestK xs m (k + 1) = bestK xs m k := by rw [bestK, if_pos h]
theorem bestK_new {xs : List Int} {m k : Nat} {r : Int} (h : hasB xs ((k : Int) + 1) = false) (hr : rv (xs ++ [(k : Int) + 1]) m = r) (g : (bestK xs m k).2 < r) : bestK xs m (k + 1) = ((k : Int) + 1, r) := by
  rw [bestK, if_neg (by rw [h]; simp), hr, if_pos g]
theorem bestK_old {xs : List Int} {m k : Nat} {r : Int} (h : hasB xs ((k : Int) + 1) = false) (hr : rv (xs ++ [(k : Int) + 1]) m = r) (g : ¬ (bestK xs m k).2 < r) : bestK xs m (k + 1) = bestK xs m k := by
  rw [bestK, if_neg (by rw [h]; simp), hr, if_neg g]
theorem vals_more {xs : List Int} {v : Int} (h : Vals xs) (h1 : 1 ≤ v) (h2 : v ≤ 500) : Vals (xs ++ [v]) := by
  intro u hu
  rcases List.mem_append.1 hu with hu | hu
  · exact h u hu
  · rw [List.mem_singleton.1 hu]; exact ⟨h1, h2⟩
/-- The code of BestValue, and its answer. -/
def bestCode (xs : List Int) (n : Int) : Int := if codeOf xs (inB n 0 12) = 0 then (if xs.length = 8 then 3 else 0) else codeOf xs (inB n 0 12)
noncomputable def bestRes (xs : List Int) (n : Int) : Int × Int := if bestCode xs n = 0 then bestK xs n.toNat 500 else (0, 0)
theorem bestCode_err {xs : List Int} {n c : Int} (h : codeOf xs (inB n 0 12) = c) (hc : c ≠ 0) : bestCode xs n = c := by unfold bestCode; rw [h, if_neg hc]
theorem bestCode_full {xs : List Int} {n : Int} (h : codeOf xs (inB n 0 12) = 0) (hc : xs.length = 8) : bestCode xs n = 3 := by unfold bestCode; rw [if_pos h, if_pos hc]
theorem bestCode_ok {xs : List Int} {n : Int} (h : codeOf xs (inB n 0 12) = 0) (hc : xs.length ≠ 8) : bestCode xs n = 0 := by unfold bestCode; rw [if_pos h, if_neg hc]
theorem bestRes_not {xs : List Int} {n c : Int} (h : bestCode xs n = c) (hc : c ≠ 0) : bestRes xs n = (0, 0) := by unfold bestRes; rw [h, if_neg hc]
theorem bestRes_ok {xs : List Int} {m : Nat} (h : bestCode xs (m : Int) = 0) : bestRes xs (m : Int) = bestK xs m 500 := by unfold bestRes; rw [if_pos h, Int.toNat_natCast]
attribute [irreducible] bestK bestRes bestCode rv
theorem ret_best {xs : List Int} {n a b c : Int} (h : bestRes xs n = (a, b)) (g : bestCode xs n = c) : Ending.returned (.tuple #[.int .i64 a, .int .i64 b, .int .i64 c]) = .returned (.tuple #[.int .i64 (bestRes xs n).1, .int .i64 (bestRes xs n).2, .int .i64 (bestCode xs n)]) := by rw [h, g]

set_option maxHeartbeats 400000 in
set_option maxRecDepth 100000 in
theorem sbest_any (v : Value) (xs : List Int) (n : Int) (w : World) (hv : ReadsI w v xs) (hx : xs.length ≤ 1048576) :
    Calls Try.prog 6 #[v, .int .i64 n] w fun e w' => e = .returned (.tuple #[.int .i64 (bestRes xs n).1, .int .i64 (bestRes xs n).2, .int .i64 (bestCode xs n)]) ∧ Below w.heap.size w w' := by
  by_cases h0 : codeOf xs (inB n 0 12) = 0
  · obtain ⟨f1, f8, fr, g0, g1⟩ := code_stamps h0
    obtain ⟨m, rfl⟩ : ∃ m : Nat, n = (m : Int) := ⟨n.toNat, by omega⟩
    obtain ⟨b, cap, rfl, hc⟩ := reads_row hv f1
    have hm1 : m ≤ 12 := by omega
    have HC0 := Lib.hid h0
    by_cases h8 : xs.length = 8
    · have HCD := Lib.hid (bestCode_full h0 h8)
      have HR := Lib.hid (bestRes_not HCD.out (by omega))
      obtain ⟨len, hl⟩ : ∃ len, xs.length = len := ⟨_, rfl⟩
      have HL := Lib.hid hl
      have t8 : ((len : Int) == 8) = true := by simp; omega
      have HHV := Lib.hid hv
      have HX := Lib.hid hx
      rw [hl]
      clear hl h0 h8 hv hx f1 f8
      go_enter Try.func6, Try.ntmps6
      go_wp2_with fail
      refine (stamps_any _ _).mono ?_
      rintro e w2 ⟨rfl, rfl⟩
      go_wp2_with fail
      refine (asked_any _ xs _ _ (by have h := HHV.out; rw [HL.out] at h; exact h) HX.out).mono ?_
      rintro e w2 ⟨rfl, b2⟩
      rw [HC0.out]
      go_wp2
      go_ret3
      exact ⟨ret_best HR.out HCD.out, b2⟩
    · have HCD := Lib.hid (bestCode_ok h0 h8)
      have HR := Lib.hid (bestRes_ok HCD.out)
      obtain ⟨len, hl⟩ : ∃ len, xs.length = len := ⟨_, rfl⟩
      have HL := Lib.hid hl
      have HV := Lib.hid (vals_of_rise fr)
      rw [hl] at hv f8 h8 hx f1 ⊢
      have t8 : ((len : Int) == 8) = false := by simp; omega
      obtain ⟨i0, hi, hz0, hz1, hz2⟩ := info_parts info_i64
      clear hl h0 fr
      go_enter Try.func6, Try.ntmps6
      go_wp2_with fail
      refine (stamps_any _ _).mono ?_
      rintro e w2 ⟨rfl, rfl⟩
      go_wp2_with fail
      refine (asked_any _ xs _ _ hv (by rw [HL.out]; exact hx)).mono ?_
      rintro e w2 ⟨rfl, b2⟩
      have HC := Lib.hid (hc.below b2)
      have HB := Lib.hid b2
      clear hv hc b2
      rw [HC0.out]
      go_wp2_with fail
      go_loopw [8, 9, 10] (fun u v i wr => ∃ k : Nat, k ≤ 500 ∧ i = .int .i64 ((k : Int) + 1) ∧ u = .int .i64 (bestK xs m k).1 ∧ v = .int .i64 (bestK xs m k).2 ∧ Below w.heap.size w wr ∧ Cells wr b xs) (fun _ _ i _ => 501 - (intOf i).toNat)
      case atStart => exact ⟨0, by omega, rfl, by rw [bestK_zero], by rw [bestK_zero], HB.out, HC.out⟩
      case round =>
        obtain ⟨k, hk, rfl, rfl, rfl, hbr, hcr⟩ := hrel
        have HBR := Lib.hid hbr
        have HCR := Lib.hid hcr
        obtain ⟨p, hp⟩ : ∃ p, (bestK xs m k).1 = p := ⟨_, rfl⟩
        obtain ⟨q, hq⟩ : ∃ q, (bestK xs m k).2 = q := ⟨_, rfl⟩
        rw [hp, hq]
        have HP := Lib.hid hp
        have HQ := Lib.hid hq
        have hsz : w.heap.size ≤ wr.heap.size := hbr.size
        clear hbr hcr hp hq
        by_cases hlt : k < 500
        · obtain ⟨hb, hhb⟩ : ∃ hb, hasB xs ((k : Int) + 1) = hb := ⟨_, rfl⟩
          have HHB := Lib.hid hhb
          clear hhb
          go_wp2_with fail
          refine (shas_row b len cap xs _ HL.out (by omega) _ HCR.out).mono ?_
          rintro e w4 ⟨rfl, rfl⟩
          rw [HHB.out]
          cases hb
          · have hb0 : Below wr.heap.size wr (wr.alloc (.cells #[] 2)) := (Below.refl _ _).alloc (Nat.le_refl _) _
            have hc1 := HCR.out.below hb0
            have hnews : ∀ j u, (xs.map (Value.int .i64))[j]? = some u → (wr.alloc (.cells #[] 2)).cell? ((⟨b, 0, none⟩ : Addr).add j) = some u := by
              intro j u hj
              have hjl : j < xs.length := by
                have := (List.getElem?_eq_some_iff.1 hj).1
                simpa using this
              rw [addr_add, Nat.zero_add]
              rw [hc1 j hjl]
              simp [hjl] at hj
              simp [List.getD, hjl, hj]
            have HO : Hid ((wr.alloc (.cells #[] 2)).ownsRow wr.heap.size 2 1 (.slice (some ⟨wr.heap.size, 0, none⟩) 0 0) 0 []) := Lib.hid (World.ownsRow_made wr #[] 0 (Nat.le_refl _) (Nat.zero_le _) rfl)
            have HN := Lib.hid hnews
            have HB0 := Lib.hid hb0
            have HXM : Hid ((xs.map (Value.int .i64)).length = len * 1) := Lib.hid (by rw [List.length_map, HL.out]; omega)
            have HXL : Hid ((xs ++ [(k : Int) + 1]).length = len + 1) := Lib.hid (by rw [List.length_append, HL.out]; rfl)
            clear hb0 hc1 hnews
            go_wp2_with (at_builtin; refine wpList_append_own _ rfl _ _ 22 rfl wr.heap.size 2 i0 (.int .i64 0) 1 8 Try.underlying22 hi hz0 hz1 hz2 rfl (by decide) _ _ _ rfl HO.out ⟨b, 0, none⟩ len cap (xs.map (Value.int .i64)) rfl HXM.out HN.out (ints_oneCell .i64 xs) (by unfold maxLen; omega) (by omega) (by simp) ?_)
            intro v3 w3 hown3 hgrow3 _
            have HO3 : Hid (w3.ownsRow wr.heap.size 2 1 v3 len (xs.map (Value.int .i64))) := Lib.hid (by simpa using hown3)
            have HB3 : Hid (Below wr.heap.size wr w3) := Lib.hid (HB0.out.grown hgrow3 (by simp) (fun j hj => by simp [Value.ownBlock] at hj; omega))
            have hs3 : wr.heap.size ≤ w3.heap.size := HB3.out.size
            clear hown3 hgrow3
            go_wp2_with (at_builtin; refine wpList_append_own _ rfl _ _ 22 rfl wr.heap.size 2 i0 (.int .i64 0) 1 8 Try.underlying22 hi hz0 hz1 hz2 rfl (by decide) _ _ _ rfl (HO3.out.alloc _) ⟨w3.heap.size, 0, none⟩ 1 1 [.int .i64 ((k : Int) + 1)] rfl rfl (cell_one_new _ _ _) (ints_oneCell .i64 [(k : Int) + 1]) (by unfold maxLen; omega) (by omega) (by simp; omega) ?_)
            intro v5 w5 hown5 hgrow5 _
            have o5 : OwnI wr.heap.size w5 v5 (xs ++ [(k : Int) + 1]) := by
              unfold OwnI
              rw [HXL.out, List.map_append]; exact hown5
            have HB5 : Hid (Below wr.heap.size wr w5) := Lib.hid ((HB3.out.alloc hs3 _).grown hgrow5 (by simp; omega) (fun j hj => (HO3.out.lt j hj).1))
            clear hown5 hgrow5
            obtain ⟨b6, cap6, rfl, hc6⟩ := reads_row o5.reads (by rw [HXL.out]; omega)
            have HS := Lib.hid (sreach_row b6 (len + 1) cap6 (xs ++ [(k : Int) + 1]) m HXL.out (by omega) (vals_more HV.out (by omega) (by omega)) hm1 w5 hc6)
            rw [HXL.out]
            clear o5 hc6
            go_wp2_with fail
            refine HS.out.mono ?_
            rintro e w7 ⟨r, rfl, hr, b7⟩
            have HRV := Lib.hid (rv_is hr)
            have hB7 : Below wr.heap.size wr w7 := HB5.out.trans (b7.mono HB5.out.size)
            have HCR7 := Lib.hid (HCR.out.below hB7)
            have HB7 := Lib.hid (HBR.out.trans (hB7.mono hsz))
            clear hr b7 hB7
            by_cases hgt : q < (r : Int)
            · have HK := Lib.hid (bestK_new (m := m) HHB.out HRV.out (by rw [HQ.out]; exact hgt))
              go_wp2_with fail
              go_roundw
              case rel => exact ⟨k + 1, by omega, by go_num, by rw [HK.out], by rw [HK.out], HB7.out, HCR7.out⟩
              case measure => simp [intOf]; omega
            · have HK := Lib.hid (bestK_old (m := m) HHB.out HRV.out (by rw [HQ.out]; exact hgt))
              go_wp2_with fail
              go_roundw
              case rel => exact ⟨k + 1, by omega, by go_num, by rw [HK.out, HP.out], by rw [HK.out, HQ.out], HB7.out, HCR7.out⟩
              case measure => simp [intOf]; omega
          · have HK := Lib.hid (bestK_has (m := m) HHB.out)
            go_wp2_with fail
            go_roundw
            case rel => exact ⟨k + 1, by omega, by go_num, by rw [HK.out, HP.out], by rw [HK.out, HQ.out], HBR.out, HCR.out⟩
            case measure => simp [intOf]; omega
        · have hk5 : k = 500 := by omega
          have HK : Hid (bestRes xs (m : Int) = (p, q)) := Lib.hid (by rw [HR.out, ← hk5, ← HP.out, ← HQ.out])
          go_wp2_with fail
          go_ret3
          exact ⟨ret_best HK.out HCD.out, HBR.out⟩
  · obtain ⟨c, hc⟩ : ∃ c, codeOf xs (inB n 0 12) = c := ⟨_, rfl⟩
    have hne : (c != 0) = true := by rw [← hc]; simpa using h0
    have hcn : c ≠ 0 := by rw [← hc]; exact h0
    have HCD := Lib.hid (bestCode_err hc hcn)
    have HR := Lib.hid (bestRes_not HCD.out hcn)
    have HC := Lib.hid hc
    clear h0
    go_enter Try.func6, Try.ntmps6
    go_wp2_with fail
    refine (stamps_any _ _).mono ?_
    rintro e w2 ⟨rfl, rfl⟩
    go_wp2_with fail
    refine (asked_any _ xs _ _ hv hx).mono ?_
    rintro e w2 ⟨rfl, b2⟩
    go_wp2
    go_ret3
    exact ⟨ret_best HR.out HCD.out, b2⟩
end Go.Proofs.Ytmhjckbndhcbmaa
