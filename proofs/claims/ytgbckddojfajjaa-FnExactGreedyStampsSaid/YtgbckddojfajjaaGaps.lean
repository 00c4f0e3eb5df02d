/-
  Contracts of both GapsUpTo.
-/
import Derived.Test.YtgbckddojfajjaaCan
namespace Go.Proofs.Ytgbckddojfajjaa
open Go Go.RowKit
set_option linter.unusedVariables false

/-- The gaps below k. -/
def gapsK (xs : List Int) : Nat → List Int
  | 0 => []
  | k + 1 => if fewV xs k < 0 then gapsK xs k ++ [(k : Int)] else gapsK xs k
theorem gapsK_hit {xs : List Int} {k : Nat} (h : fewV xs k < 0) : gapsK xs (k + 1) = gapsK xs k ++ [(k : Int)] := if_pos h
theorem gapsK_miss {xs : List Int} {k : Nat} (h : ¬ fewV xs k < 0) : gapsK xs (k + 1) = gapsK xs k := if_neg h
theorem gapsK_len (xs : List Int) (k : Nat) : (gapsK xs k).length ≤ k := by
  induction k with
  | zero => simp [gapsK]
  | succ k ih =>
    rw [gapsK]
    split
    · rw [List.length_append]; simp; exact ih
    · omega
theorem gapsK_one (xs : List Int) : gapsK xs 1 = [] := by
  have h : ¬ fewV xs 0 < 0 := by simp [fewV, fewAt]
  rw [gapsK_miss h]; rfl
theorem gapsK_pos (xs : List Int) (k : Nat) : ∀ x ∈ gapsK xs k, 1 ≤ x := by
  induction k with
  | zero => intro x hx; simp [gapsK] at hx
  | succ k ih =>
    intro x hx
    rw [gapsK] at hx
    split at hx
    · rename_i h
      rcases List.mem_append.1 hx with hx | hx
      · exact ih x hx
      · simp at hx
        have h0 : k ≠ 0 := fun e => by subst e; simp [fewV, fewAt] at h
        omega
    · exact ih x hx
def gapsRes (xs : List Int) (n : Int) : List Int := if codeOf xs (inB n 0 1000) = 0 then gapsK xs (n.toNat + 1) else []
theorem gapsRes_ok {xs : List Int} {n : Nat} (h : codeOf xs (inB (n : Int) 0 1000) = 0) : gapsRes xs (n : Int) = gapsK xs (n + 1) := by rw [gapsRes, if_pos h, Int.toNat_natCast]
theorem gapsRes_not {xs : List Int} {n : Int} (h : codeOf xs (inB n 0 1000) ≠ 0) : gapsRes xs n = [] := if_neg h
theorem gapsRes_len (xs : List Int) (n : Int) : (gapsRes xs n).length ≤ 1001 := by
  by_cases h : codeOf xs (inB n 0 1000) = 0
  · obtain ⟨_, _, _, g0, g1⟩ := code_facts h
    rw [gapsRes, if_pos h]
    have := gapsK_len xs (n.toNat + 1)
    omega
  · rw [gapsRes_not h]; simp

/-- A result: a slice that is the call's own, and a code. -/
def RetRow (B : Nat) (w : World) (xs : List Int) (c : Int) (e : Ending) (w' : World) : Prop := ∃ v, e = .returned (.tuple #[v, .int .i64 c]) ∧ OwnI B w' v xs ∧ Below w.heap.size w w'

theorem OwnI.of_row {B n : Nat} {w : World} {v : Value} {xs : List Int} (h : w.ownsRow B 2 1 v n (xs.map (Value.int .i64))) : OwnI B w v xs := by
  have hl : xs.length = n := by simpa using h.1
  subst hl
  exact h

set_option maxHeartbeats 4000000 in
set_option maxRecDepth 100000 in
theorem igaps_any (v : Value) (xs : List Int) (n : Int) (w : World) (hv : ReadsI w v xs) (hx : xs.length ≤ 1048576) :
    Calls Try.prog 37 #[v, .int .i64 n] w (RetRow w.heap.size w (gapsRes xs n) (codeOf xs (inB n 0 1000))) := by
  by_cases h0 : codeOf xs (inB n 0 1000) = 0
  · obtain ⟨f1, f8, fr, g0, g1⟩ := code_facts h0
    obtain ⟨m, rfl⟩ : ∃ m : Nat, n = (m : Int) := ⟨n.toNat, by omega⟩
    obtain ⟨b, cap, rfl, hc⟩ := reads_row hv f1
    obtain ⟨i0, hi, hz0, hz1, hz2⟩ := info_parts info_i64
    have hm1 : m ≤ 1000 := by omega
    rw [gapsRes_ok h0, h0]
    have HC0 := Lib.hid h0
    go_enter Try.func37, Try.ntmps37
    go_wp2_with fail
    refine (check_any _ xs _ _ hv hx).mono ?_
    rintro e w2 ⟨rfl, rfl⟩
    go_wp2_with fail
    refine (iways_row b xs.length cap xs m rfl f8 fr (by omega) _ hc).mono ?_
    rintro e w2 ⟨rfl, o2, b2⟩
    have HO := Lib.hid o2
    have HB := Lib.hid b2
    have hsz : w.heap.size ≤ w2.heap.size := b2.size
    clear o2 b2 hc hv h0
    go_wp2_with fail
    go_loopw [7, 20] (fun g i wr => ∃ k : Nat, k ≤ m + 1 ∧ i = .int .i64 k ∧ wr.ownsRow w2.heap.size 2 1 g (gapsK xs k).length ((gapsK xs k).map (Value.int .i64)) ∧ Below w2.heap.size w2 wr) (fun _ i _ => m + 1 - (intOf i).toNat)
    case atStart => exact ⟨0, Nat.zero_le _, rfl, World.ownsRow_nil _ _ _ _, Below.refl _ _⟩
    case round =>
      obtain ⟨k, hk, rfl, hown, hnx⟩ := hrel
      have HN := Lib.hid hnx
      have hwr : w2.heap.size ≤ wr.heap.size := hnx.size
      by_cases hlt : k < m + 1
      · have c := (HO.out.below hnx).cell k (by rw [wayAll_length]; omega)
        have hp := ways_pos m (by omega) xs fr f8 k (by omega)
        obtain ⟨q, hq⟩ : ∃ q, (wayAll m xs).getD k 0 = q := ⟨_, rfl⟩
        rw [hq] at c hp
        have HP := Lib.hid hp
        have hkl := gapsK_len xs k
        clear hq hp hnx
        by_cases hz : q = 0
        · have HG := Lib.hid (gapsK_hit (xs := xs) (k := k) (by have := HP.out.1; omega))
          subst hz
          go_wp2_with (at_builtin; refine wpList_append_own _ rfl _ _ 24 rfl w2.heap.size 2 i0 (.int .i64 0) 1 8 Try.underlying24 hi hz0 hz1 hz2 rfl (by decide) _ _ _ rfl (hown.alloc _) ⟨wr.heap.size, 0, none⟩ 1 1 [.int .i64 k] rfl rfl ?c1 ?c2 ?c3 ?c4 ?c5 ?_)
          case c1 =>
            intro j u hj
            match j, hj with
            | 0, hj => simp at hj; subst hj; simp [Addr.add]
          case c2 => intro u hu; simp at hu; subst hu; rfl
          case c3 => unfold maxLen; omega
          case c4 => omega
          case c5 => simp; omega
          intro v' w3 hown' hgrow _
          have HO' : Hid (w3.ownsRow w2.heap.size 2 1 v' (gapsK xs (k + 1)).length ((gapsK xs (k + 1)).map (Value.int .i64))) := Lib.hid (by
            rw [HG.out, List.map_append, List.length_append]; exact hown')
          have HB' : Hid (Below w2.heap.size w2 w3) := Lib.hid ((HN.out.alloc hwr _).grown hgrow (by simp; omega) (fun j hj => (hown.lt j hj).1))
          clear hown' hgrow hown
          go_wp2
          go_roundw
          case rel => exact ⟨k + 1, by omega, by go_num, HO'.out, HB'.out⟩
          case measure => simp [intOf]; omega
        · have t1 : (q == 0) = false := by simpa using hz
          have HG := Lib.hid (gapsK_miss (xs := xs) (k := k) (by have := HP.out; omega))
          have HO2 := Lib.hid hown
          clear hz hown
          go_wp2
          go_roundw
          case rel => exact ⟨k + 1, by omega, by go_num, by rw [HG.out]; exact HO2.out, HN.out⟩
          case measure => simp [intOf]; omega
      · have hk' : k = m + 1 := by omega
        have HO2 : Hid (OwnI w.heap.size wr u7 (gapsK xs (m + 1))) := Lib.hid (by rw [hk'] at hown; exact OwnI.mono hown hsz)
        clear hk' hown hnx
        go_wp2
        go_ret2
        exact ⟨_, rfl, HO2.out, blink HB.out HN.out⟩
  · rw [gapsRes_not h0]
    obtain ⟨c, hc⟩ : ∃ c, codeOf xs (inB n 0 1000) = c := ⟨_, rfl⟩
    rw [hc]
    have hne : (c != 0) = true := by rw [← hc]; simpa using h0
    clear h0
    go_enter Try.func37, Try.ntmps37
    go_wp2_with fail
    refine (check_any _ xs _ _ hv hx).mono ?_
    rintro e w2 ⟨rfl, rfl⟩
    go_wp2
    go_ret2
    exact ⟨_, rfl, World.ownsRow_nil _ _ _ _, Below.refl _ _⟩

set_option maxHeartbeats 4000000 in
set_option maxRecDepth 100000 in
theorem sgaps_any (v : Value) (xs : List Int) (n : Int) (w0 : World) (hv : ReadsI w0 v xs) (hx : xs.length ≤ 1048576) :
    Calls Try.prog 36 #[v, .int .i64 n] w0 (RetRow w0.heap.size w0 (gapsRes xs n) (codeOf xs (inB n 0 1000))) := by
  have hb0 : Below w0.heap.size w0 (w0.alloc (.cells #[] 2)) := (Below.refl _ _).alloc (Nat.le_refl _) _
  have HB0 := Lib.hid hb0
  have hv1 := hv.below hb0
  have HOA : Hid ((w0.alloc (.cells #[] 2)).ownsRow w0.heap.size 2 1 (.slice (some ⟨w0.heap.size, 0, none⟩) 0 0) 0 []) := Lib.hid (World.ownsRow_made w0 #[] 0 (Nat.le_refl _) (Nat.zero_le _) rfl)
  clear hb0
  by_cases h0 : codeOf xs (inB n 0 1000) = 0
  · obtain ⟨f1, f8, fr, g0, g1⟩ := code_facts h0
    obtain ⟨m, rfl⟩ : ∃ m : Nat, n = (m : Int) := ⟨n.toNat, by omega⟩
    obtain ⟨b, cap, rfl, hc⟩ := reads_row hv f1
    obtain ⟨i0, hi, hz0, hz1, hz2⟩ := info_parts info_i64
    have hm1 : m ≤ 1000 := by omega
    rw [gapsRes_ok h0, h0]
    have HC0 := Lib.hid h0
    go_enter Try.func36, Try.ntmps36
    go_wp2_with fail
    refine (postage_any _ _).mono ?_
    rintro e w2 ⟨rfl, rfl⟩
    go_wp2_with fail
    refine (asked_any _ xs _ _ hv1 hx).mono ?_
    rintro e w ⟨rfl, b1⟩
    go_wp2_with fail
    refine (few_row b xs.length cap xs m rfl f8 fr (by omega) _ ((hc.below HB0.out).below b1)).mono ?_
    rintro e w2 ⟨rfl, o2, b2⟩
    have b3 := blink (blink HB0.out b1) b2
    have HOB : Hid (w2.ownsRow w0.heap.size 2 1 (.slice (some ⟨w0.heap.size, 0, none⟩) 0 0) 0 []) := Lib.hid (OwnI.below (xs := []) (OwnI.below (xs := []) HOA.out b1) b2)
    have hlt0 : w0.heap.size < w.heap.size := by have := b1.size; simp at this; omega
    have hsz : w0.heap.size ≤ w2.heap.size := b3.size
    have HO := Lib.hid o2
    have HB := Lib.hid b3
    clear o2 b2 b3 b1 hc hv h0 hv1
    go_wp2_with fail
    go_loopw [6, 9] (fun g i wr => ∃ k : Nat, 1 ≤ k ∧ k ≤ m + 1 ∧ i = .int .i64 k ∧ wr.ownsRow w0.heap.size 2 1 g (gapsK xs k).length ((gapsK xs k).map (Value.int .i64)) ∧ Below w0.heap.size w0 wr ∧ Cells wr w.heap.size (fewTab xs (m + 1)) ∧ g.ownBlock ≠ some w.heap.size) (fun _ i _ => m + 1 - (intOf i).toNat)
    case atStart =>
      refine ⟨1, Nat.le_refl _, by omega, rfl, by rw [gapsK_one]; exact HOB.out, HB.out, fun j hj => HO.out.cell j hj, ?_⟩
      simp [Value.ownBlock]; omega
    case round =>
      obtain ⟨k, hk1, hk, rfl, hown, hnx, hcs, hne⟩ := hrel
      have HN := Lib.hid hnx
      have HCS := Lib.hid hcs
      have HNE := Lib.hid hne
      have hwr : w0.heap.size ≤ wr.heap.size := hnx.size
      by_cases hlt : k < m + 1
      · have c := hcs k (by rw [fewTab_length]; omega)
        rw [fewTab_get _ _ _ (by omega)] at c
        have hwl : w.heap.size < wr.heap.size := World.block_lt_of_cell? wr _ c
        obtain ⟨q, hq⟩ : ∃ q, fewV xs k = q := ⟨_, rfl⟩
        rw [hq] at c
        have HQ := Lib.hid hq
        have hkl := gapsK_len xs k
        clear hq hnx hcs hne
        by_cases hz : q < 0
        · have HG := Lib.hid (gapsK_hit (xs := xs) (k := k) (by rw [HQ.out]; exact hz))
          go_wp2_with (at_builtin; refine wpList_append_own _ rfl _ _ 24 rfl w0.heap.size 2 i0 (.int .i64 0) 1 8 Try.underlying24 hi hz0 hz1 hz2 rfl (by decide) _ _ _ rfl (hown.alloc _) ⟨wr.heap.size, 0, none⟩ 1 1 [.int .i64 k] rfl rfl ?c1 ?c2 ?c3 ?c4 ?c5 ?_)
          case c1 =>
            intro j u hj
            match j, hj with
            | 0, hj => simp at hj; subst hj; simp [Addr.add]
          case c2 => intro u hu; simp at hu; subst hu; rfl
          case c3 => unfold maxLen; omega
          case c4 => omega
          case c5 => simp; omega
          intro v' w3 hown' hgrow _
          have HO' : Hid (w3.ownsRow w0.heap.size 2 1 v' (gapsK xs (k + 1)).length ((gapsK xs (k + 1)).map (Value.int .i64))) := Lib.hid (by
            rw [HG.out, List.map_append, List.length_append]; exact hown')
          have HB' : Hid (Below w0.heap.size w0 w3) := Lib.hid ((HN.out.alloc hwr _).grown hgrow (by simp; omega) (fun j hj => (hown.lt j hj).1))
          have HC' : Hid (Cells w3 w.heap.size (fewTab xs (m + 1))) := Lib.hid (fun i hi => by
            have h1 := HCS.out i hi
            have h2 : (wr.alloc (.cells #[.int .i64 k] 2)).cell? ⟨w.heap.size, i, none⟩ = some (.int .i64 ((fewTab xs (m + 1)).getD i 0)) := by
              rw [World.cell?_alloc_lt]
              · exact h1
              · exact hwl
            exact hgrow.cell h2 (fun e => HNE.out e.symm))
          have HD' : Hid (v'.ownBlock ≠ some w.heap.size) := Lib.hid (by
            intro e
            have hne0 : 0 < (gapsK xs (k + 1)).length := by rw [HG.out]; simp
            rcases OwnI.cases (xs := gapsK xs (k + 1)) HO'.out with ⟨_, h⟩ | ⟨g', cap', rfl, _, _, _, _, hg, _⟩
            · rw [h] at hne0; simp at hne0
            · simp [Value.ownBlock] at e
              subst e
              have h1 := hg 0 hne0
              have h2 := HC'.out 0 (by rw [fewTab_length]; omega)
              rw [h1, fewTab_get _ _ _ (by omega)] at h2
              have h3 := gapsK_pos xs (k + 1) ((gapsK xs (k + 1))[0]'hne0) (List.getElem_mem _)
              simp [List.getD, hne0, fewV, fewAt] at h2
              omega)
          clear hown' hgrow hown
          go_wp2
          go_roundw
          case rel => exact ⟨k + 1, by omega, by omega, by go_num, HO'.out, HB'.out, HC'.out, HD'.out⟩
          case measure => simp [intOf]; omega
        · have HG := Lib.hid (gapsK_miss (xs := xs) (k := k) (by rw [HQ.out]; exact hz))
          have HO2 := Lib.hid hown
          clear hown
          go_wp2
          go_roundw
          case rel => exact ⟨k + 1, by omega, by omega, by go_num, by rw [HG.out]; exact HO2.out, HN.out, HCS.out, HNE.out⟩
          case measure => simp [intOf]; omega
      · have hk' : k = m + 1 := by omega
        have HO2 : Hid (OwnI w0.heap.size wr u6 (gapsK xs (m + 1))) := Lib.hid (by rw [hk'] at hown; exact hown)
        clear hk' hown hnx hcs hne
        go_wp2
        go_ret2
        exact ⟨_, rfl, HO2.out, HN.out⟩
  · rw [gapsRes_not h0]
    obtain ⟨c, hc⟩ : ∃ c, codeOf xs (inB n 0 1000) = c := ⟨_, rfl⟩
    rw [hc]
    have hne : (c != 0) = true := by rw [← hc]; simpa using h0
    clear h0
    go_enter Try.func36, Try.ntmps36
    go_wp2_with fail
    refine (postage_any _ _).mono ?_
    rintro e w2 ⟨rfl, rfl⟩
    go_wp2_with fail
    refine (asked_any _ xs _ _ hv1 hx).mono ?_
    rintro e w2 ⟨rfl, b2⟩
    have HB2 := Lib.hid b2
    clear b2
    go_wp2
    go_ret2
    exact ⟨_, rfl, OwnI.below (xs := []) HOA.out HB2.out, blink HB0.out HB2.out⟩
end Go.Proofs.Ytgbckddojfajjaa
