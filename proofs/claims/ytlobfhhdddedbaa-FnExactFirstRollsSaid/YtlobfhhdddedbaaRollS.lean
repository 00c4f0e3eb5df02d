/-
  The model's FirstRolls.
-/
import Derived.Test.YtlobfhhdddedbaaRollC
import Derived.Test.YtlobfhhdddedbaaToJ
import Derived.Maps.AppendAt
import Derived.StillTailTactics
import Derived.BigRegion
import Derived.Outline
namespace Go.Proofs.Ytlobfhhdddedbaa
open Go Go.RowKit
set_option linter.unusedVariables false

def RetRoll (B : Nat) (w : World) (xs : List Int) (long : Int) (e : Ending) (w' : World) : Prop := ∃ v, e = .returned (.tuple #[v, .int .i64 (rollN xs long), .int .i64 (rollC xs long)]) ∧ OwnI B w' v (rollX xs long) ∧ Below w.heap.size w w'
/-- An own row that lies in a block. -/
def OwnG (B : Nat) (w : World) (v : Value) (xs : List Int) (g : Nat) : Prop := OwnI B w v xs ∧ ∃ c, v = .slice (some ⟨g, 0, none⟩) xs.length c
theorem OwnG.below {B : Nat} {w w' : World} {v : Value} {xs : List Int} {g : Nat} (h : OwnG B w v xs g) (hb : Below w.heap.size w w') : OwnG B w' v xs g := ⟨h.1.below hb, h.2⟩
theorem OwnG.kept {B : Nat} {w w' : World} {v : Value} {xs : List Int} {g r : Nat} (h : OwnG B w v xs g) (hg : w.grownBy w' (some r)) (hne : g ≠ r) : OwnG B w' v xs g := by
  obtain ⟨h1, c, rfl⟩ := h
  exact ⟨h1.kept hg (.inr (by simpa [Value.ownBlock] using hne)), c, rfl⟩
theorem OwnG.lt {B : Nat} {w : World} {v : Value} {xs : List Int} {g : Nat} (h : OwnG B w v xs g) : B ≤ g ∧ g < w.heap.size := by
  obtain ⟨h1, c, rfl⟩ := h
  exact h1.block g rfl
theorem OwnG.own {B : Nat} {w : World} {v : Value} {xs : List Int} {g : Nat} (h : OwnG B w v xs g) : v.ownBlock = some g := by
  obtain ⟨h1, c, rfl⟩ := h
  rfl
theorem OwnG.alloc {B : Nat} {w : World} {v : Value} {xs : List Int} {g : Nat} (h : OwnG B w v xs g) (o : Obj) : OwnG B (w.alloc o) v xs g := h.below ((Below.refl _ _).alloc (Nat.le_refl _) _)
theorem OwnG.made (w : World) : OwnG w.heap.size (w.alloc (.cells #[] 2)) (.slice (some ⟨w.heap.size, 0, none⟩) 0 0) [] w.heap.size :=
  ⟨World.ownsRow_made w #[] 0 (Nat.le_refl _) (Nat.zero_le _) rfl, 0, rfl⟩
/-- What an append of one number leaves. -/
theorem OwnG.appended {B : Nat} {W w3 : World} {v v' : Value} {xs : List Int} {g : Nat} {x : Int} (h : OwnG B W v xs g) (hown : w3.ownsRow B 2 1 v' (xs.length + 1) (xs.map (Value.int .i64) ++ [.int .i64 x])) {n : Nat} (hat : v'.ownBlock = v.ownBlock ∨ v'.ownBlock = some n) :
    ∃ g' c, v' = .slice (some ⟨g', 0, none⟩) (xs.length + 1) c ∧ OwnG B w3 v' (xs ++ [x]) g' ∧ (g' = g ∨ g' = n) := by
  rw [h.own] at hat
  rcases hown.2 with ⟨_, h0⟩ | ⟨g', c, cur, rfl, _⟩
  · omega
  · refine ⟨g', c, rfl, ⟨?_, c, by simp⟩, ?_⟩
    · unfold OwnI
      rw [List.length_append, List.map_append]
      exact hown
    · simpa [Value.ownBlock] using hat
theorem OwnG.mono {B B' : Nat} {w : World} {v : Value} {xs : List Int} {g : Nat} (h : OwnG B w v xs g) (hB : B' ≤ B) : OwnG B' w v xs g := ⟨h.1.mono hB, h.2⟩
theorem OwnG.cell {B : Nat} {w : World} {v : Value} {xs : List Int} {g : Nat} (h : OwnG B w v xs g) (j : Nat) (hj : j < xs.length) : w.cell? ⟨g, j, none⟩ = some (.int .i64 (xs.getD j 0)) := by
  obtain ⟨h1, c, rfl⟩ := h
  exact h1.cell j hj
theorem OwnG.frozen {B : Nat} {w : World} {v : Value} {xs : List Int} {g : Nat} (h : OwnG B w v xs g) (j : Nat) : w.frozen? ⟨g, j, none⟩ = false := by
  obtain ⟨h1, c, rfl⟩ := h
  exact World.ownsRow.frozenAt h1 j
theorem OwnG.set {B : Nat} {w : World} {v : Value} {xs : List Int} {g : Nat} (h : OwnG B w v xs g) (j : Nat) (x : Int) : OwnG B (w.setCell ⟨g, j, none⟩ (.int .i64 x)) v (xs.set j x) g := by
  obtain ⟨h1, c, rfl⟩ := h
  refine ⟨?_, c, by simp⟩
  unfold OwnI
  rw [List.length_set]
  exact own_store h1 j x
theorem grown_set (w : World) (g j : Nat) (u : Value) : w.grownBy (w.setCell ⟨g, j, none⟩ u) (some g) :=
  ⟨rfl, rfl, rfl, by simp [World.setCell], fun k _ hne => heap_setCell_other w ⟨g, j, none⟩ k u (fun e => hne (by rw [e]))⟩

set_option maxHeartbeats 4000000 in
set_option maxRecDepth 100000 in
theorem sroll_any (v : Value) (xs : List Int) (long : Int) (w : World) (hv : ReadsI w v xs) (hn : xs.length ≤ 1048576) :
    Calls Try.prog 7 #[v, .int .i64 long] w (RetRoll w.heap.size w xs long) := by
  have HRD := Lib.hid hv
  obtain ⟨i0, hi, hz0, hz1, hz2⟩ := info_parts info_i64
  by_cases hc0 : rollC xs long = 0
  · obtain ⟨h10, hlong, hbt⟩ := rollC_spec hc0
    have HC := Lib.hid hc0
    have HX := Lib.hid (roll_0 hc0)
    have HBT := Lib.hid hbt
    obtain ⟨hl1, hl2⟩ := hlong
    obtain ⟨a, cap, rfl, ha⟩ := hv
    have HA := Lib.hid ha
    obtain ⟨n, hn'⟩ : ∃ n, xs.length = n := ⟨_, rfl⟩
    rw [hn'] at HRD h10 hn ⊢
    have HN := Lib.hid hn'
    clear hc0 hbt ha hn'
    go_enter Try.func7, Try.ntmps7
    go_wp2_with fail
    refine (srolls_any _ xs long _ HRD.out (by rw [HN.out]; exact hn)).mono ?_
    rintro e w2 ⟨rfl, rfl⟩
    rw [HC.out]
    have HO : Hid (OwnG w.heap.size ((w.alloc (.cells #[] 2)).alloc (.cells #[] 2)) (.slice (some ⟨w.heap.size, 0, none⟩) 0 0) [] w.heap.size) := Lib.hid ((OwnG.made w).alloc _)
    have HL : Hid (OwnG w.heap.size ((w.alloc (.cells #[] 2)).alloc (.cells #[] 2)) (.slice (some ⟨w.heap.size + 1, 0, none⟩) 0 0) [] (w.heap.size + 1)) := Lib.hid (by
      have h := OwnG.made (w.alloc (.cells #[] 2))
      simp only [World.size_alloc] at h
      exact h.mono (by omega))
    have HB0 : Hid (Below w.heap.size w ((w.alloc (.cells #[] 2)).alloc (.cells #[] 2))) := Lib.hid (((Below.refl _ _).alloc (Nat.le_refl _) _).alloc (by simp) _)
    go_wp2_with fail
    go_loopw [8, 9, 10] (fun o l i wr => ∃ (k go gl : Nat) (O L : List Int), k ≤ n ∧ i = .int .i64 k ∧ rollK xs long k = (O, L) ∧ OwnG w.heap.size wr o O go ∧ OwnG w.heap.size wr l (leftR long L) gl ∧ go ≠ gl ∧ Below w.heap.size w wr) (fun _ _ i _ => n - (intOf i).toNat)
    case atStart => exact ⟨0, _, _, [], [], Nat.zero_le _, rfl, rfl, HO.out, HL.out, by omega, HB0.out⟩
    case round =>
      obtain ⟨k, go, gl, O, L, hk, rfl, hrk, hO, hL, hne, hnx⟩ := hrel
      by_cases hlt : k < n
      · obtain ⟨g, rfl, hc⟩ := HA.out (by intro e; have := HN.out; rw [e] at this; simp at this; omega)
        have hbd := rollK_bd HBT.out k (by have := HN.out; omega)
        have hxb := HBT.out k (by have := HN.out; omega)
        have HCW : Hid (∀ W, Below w.heap.size w W → W.cell? ⟨g, k, none⟩ = some (.int .i64 (xs.getD k 0))) := Lib.hid (fun W hW => (hc.below hW) k (by have := HN.out; omega))
        have HGW : Hid (g < w.heap.size) := Lib.hid (World.block_lt_of_cell? w _ (hc k (by have := HN.out; omega)))
        rw [hrk] at hbd
        obtain ⟨bd1, bd2, bd3⟩ := hbd
        simp only at bd1 bd2 bd3
        have HAT := fun a ha => Lib.hid (rollK_at (a := a) hrk rfl ha)
        obtain ⟨c, hcx⟩ : ∃ c, xs.getD k 0 = c := ⟨_, rfl⟩
        rw [hcx] at hxb HCW HAT
        obtain ⟨xb1, xb2⟩ := hxb
        obtain ⟨co, rfl⟩ := hO.2
        obtain ⟨cl, rfl⟩ := hL.2
        obtain ⟨m, hm⟩ : ∃ m, L.length = m := ⟨_, rfl⟩
        have hlm : (leftR long L).length = m := by rw [leftR_len, hm]
        have HLC : Hid (∀ W, Below wr.heap.size wr W → ∀ j, j < m → W.cell? ⟨gl, j, none⟩ = some (.int .i64 (long - L.getD j 0))) := Lib.hid (fun W hW j hj => by
          have h := (hL.below hW).cell j (by rw [hlm]; exact hj)
          rw [leftR_get (by rw [hm]; exact hj)] at h
          exact h)
        rw [hm] at bd2 bd3
        rw [hlm, bd1]
        rw [hlm] at hL
        rw [bd1] at hO
        have BD3 := Lib.hid bd3
        have HO := Lib.hid hO
        have HLO := Lib.hid hL
        have HB := Lib.hid hnx
        have HM := Lib.hid hm
        have HK := Lib.hid bd1
        have HLM := Lib.hid hlm
        have hgo := hO.lt
        have hgl := hL.lt
        clear hO hL hnx hm bd1 bd3 hlm hrk hcx hc
        go_wp2_with fail
        obtain ⟨wo, hwo⟩ : ∃ wo : World, wo = wr := ⟨_, rfl⟩
        rw [← hwo] at HLC HO HLO HB hgo hgl ⊢
        clear hwo
        go_loopw [11] (fun a wi => ∃ j : Nat, j ≤ m ∧ a = .int .i64 j ∧ tight long c L j ∧ Below wo.heap.size wo wi) (fun a _ => m - (intOf a).toNat)
        case atStart => exact ⟨0, Nat.zero_le _, rfl, tight.zero _ _ _, Below.refl _ _⟩
        case round =>
          obtain ⟨j, hj, rfl, htt, hni⟩ := hrel
          have HTT := Lib.hid htt
          have HNI := Lib.hid hni
          have cx := HCW.out wr (blink HB.out hni)
          by_cases hjm : j < m
          · have dl := HLC.out wr hni j hjm
            obtain ⟨lb1, lb2⟩ := BD3.out j hjm
            have HSU : Hid (long < L.getD j 0 + c → tight long c L (j + 1)) := Lib.hid htt.succ
            have HFI : Hid (L.getD j 0 + c ≤ long → fitR long c L = j) := Lib.hid (fitR_eq (by rw [HM.out]; exact hjm) htt)
            obtain ⟨lj, hlj⟩ : ∃ x, L.getD j 0 = x := ⟨_, rfl⟩
            rw [hlj] at dl lb1 lb2 HSU HFI
            have t1 : decide ((j : Int) < (m : Int)) = true := by simp; omega
            have t1n : decide (j < m) = true := by simp; omega
            have HLJ := Lib.hid hlj
            clear htt hni hlj
            by_cases hf : long < lj + c
            · have HS := Lib.hid (HSU.out hf)
              have t2 : decide (long - lj < c) = true := by simp; omega
              have hf2 : long - lj < c := by omega
              clear hf
              go_wp2_with fail
              go_quiet (fail)
              go_wp2_with fail
              go_roundw
              case rel => exact ⟨j + 1, by omega, by go_num, HS.out, below_drewN HNI.out _⟩
              case measure => simp [intOf]; omega
            · have HF := Lib.hid (HFI.out (by omega))
              have t2 : decide (long - lj < c) = false := by simp; omega
              have hf2 : ¬ long - lj < c := by omega
              have t3 : ((j : Int) == (m : Int)) = false := by simp; omega
              have t3n : (j == m) = false := by simp; omega
              clear hf
              go_wp2_with fail
              go_quiet (fail)
              obtain ⟨V, hV, hbV⟩ : ∃ V, wr.drewN nq = V ∧ Below wo.heap.size wo V := ⟨_, rfl, below_drewN HNI.out _⟩
              rw [hV]
              have HBV := Lib.hid hbV
              have dl := HLC.out V hbV j hjm
              rw [HLJ.out] at dl
              have fl := (HLO.out.below hbV).frozen j
              have cx := HCW.out V (blink HB.out hbV)
              clear hV hbV
              go_wp2_with fail
              go_region
              obtain ⟨V2, hV2⟩ : ∃ V2, (V.setCell ⟨gl, j, none⟩ (.int .i64 (long - lj - c))).drew = V2 := ⟨_, rfl⟩
              rw [hV2]
              have hne2 : go ≠ gl := hne
              have RK : Hid (rollK xs long (k + 1) = (O ++ [(j : Int)], L.set j (lj + c))) := Lib.hid (by
                have h := (HAT j HF.out).out
                rw [putR_old (by rw [HM.out]; exact hjm), HLJ.out] at h
                exact h)
              have o2 : OwnG w.heap.size V2 (.slice (some ⟨go, 0, none⟩) k co) O go := by
                rw [← hV2]
                have h := (HO.out.below HBV.out).kept (grown_set V gl j (.int .i64 (long - lj - c))) hne
                exact h
              have l2 : OwnG w.heap.size V2 (.slice (some ⟨gl, 0, none⟩) m cl) (leftR long (L.set j (lj + c))) gl := by
                rw [← hV2, ← leftR_set, show long - lj - c = long - (lj + c) by omega]
                exact (HLO.out.below HBV.out).set j (long - (lj + c))
              have b2 : Below w.heap.size w V2 := by
                rw [← hV2]
                exact ((blink HB.out HBV.out).setCell (p := ⟨gl, j, none⟩) (by show w.heap.size ≤ gl; omega) _).drew
              have O2 := Lib.hid o2
              have L2 := Lib.hid l2
              have B2 := Lib.hid b2
              have hg2 := o2.lt
              have hgl2 := l2.lt
              have hk10 : k < 10 := by omega
              have own2 : V2.ownsRow w.heap.size 2 1 (.slice (some ⟨go, 0, none⟩) k co) k (O.map (Value.int .i64)) := by
                have h := o2.1
                unfold OwnI at h
                rw [HK.out] at h
                exact h
              clear hV2 o2 l2 b2
              go_wp2_with (at_builtin; refine wpList_append_own_at _ rfl _ _ 22 rfl w.heap.size 2 i0 (.int .i64 0) 1 8 Try.underlying22 hi hz0 hz1 hz2 rfl (by decide) _ _ _ rfl (own2.alloc _) ⟨V2.heap.size, 0, none⟩ 1 1 [.int .i64 j] rfl rfl (cell_one_new _ _ _) (ints_oneCell .i64 [j]) (by unfold maxLen; omega) (by omega) (by simp; omega) ?_)
              intro v' w3 hown' hgrow _ hat
              obtain ⟨g', c', rfl, o3, hg'⟩ := OwnG.appended O2.out (by rw [HK.out]; exact hown') hat
              have l3 := (L2.out.alloc _).kept (show World.grownBy _ w3 (some go) from hgrow) (Ne.symm hne2)
              have b3 : Below w.heap.size w w3 := (B2.out.alloc (by omega) _).grown hgrow (by simp; omega) (fun r e => by have h : go = r := (by simpa [Value.ownBlock] using e); omega)
              have hne3 : g' ≠ gl := by
                rcases hg' with h | h
                · rw [h]; exact hne2
                · omega
              rw [HK.out] at o3 ⊢
              have O3 := Lib.hid o3
              have L3 := Lib.hid l3
              have B3 := Lib.hid b3
              clear hown' hgrow hat o3 l3 b3 hg' own2
              go_wp2_with fail
              go_roundw
              case rel => exact ⟨k + 1, g', gl, _, _, by omega, by go_num, RK.out, O3.out, L3.out, hne3, B3.out⟩
              case measure => simp [intOf]; omega
          · have hje : m = j := by omega
            subst hje
            have HF : Hid (fitR long c L = m) := Lib.hid (by
              have h := fitR_none (long := long) (c := c) (L := L) (by rw [HM.out]; exact htt)
              rw [h, HM.out])
            clear htt hni
            go_wp2_with fail
            go_quiet (fail)
            obtain ⟨V, hV, hbV⟩ : ∃ V, wr.drewN nq = V ∧ Below wo.heap.size wo V := ⟨_, rfl, below_drewN HNI.out _⟩
            rw [hV]
            have HBV := Lib.hid hbV
            have LV := Lib.hid (HLO.out.below hbV)
            have OV := Lib.hid (HO.out.below hbV)
            have hov := OV.out.lt
            have hlv := LV.out.lt
            have ownl : V.ownsRow w.heap.size 2 1 (.slice (some ⟨gl, 0, none⟩) m cl) m ((leftR long L).map (Value.int .i64)) := by
              have h := LV.out.1
              unfold OwnI at h
              rw [HLM.out] at h
              exact h
            clear hV hbV
            go_wp2_with (at_builtin; refine wpList_append_own_at _ rfl _ _ 22 rfl w.heap.size 2 i0 (.int .i64 0) 1 8 Try.underlying22 hi hz0 hz1 hz2 rfl (by decide) _ _ _ rfl (ownl.alloc _) ⟨V.heap.size, 0, none⟩ 1 1 [.int .i64 long] rfl rfl (cell_one_new _ _ _) (ints_oneCell .i64 [long]) (by unfold maxLen; omega) (by omega) (by simp; omega) ?_)
            intro v' w4 hown' hgrow _ hat
            obtain ⟨gl2, cl2, rfl, l4, hg4⟩ := OwnG.appended LV.out (by rw [HLM.out]; exact hown') hat
            have o4 := (OV.out.alloc _).kept (show World.grownBy _ w4 (some gl) from hgrow) hne
            have b4 : Below w.heap.size w w4 := ((blink HB.out HBV.out).alloc (by omega) _).grown hgrow (by simp; omega) (fun r e => by have h : gl = r := (by simpa [Value.ownBlock] using e); omega)
            have hne4 : go ≠ gl2 := by
              rcases hg4 with h | h
              · rw [h]; exact hne
              · omega
            rw [HLM.out] at l4 ⊢
            have dl := l4.cell m (by simp [HLM.out])
            have fl := l4.frozen m
            have hlast := leftR_last long L long
            rw [HM.out] at hlast
            rw [hlast] at dl
            have cx := HCW.out w4 b4
            have hm1 : (m : Int) < (m : Int) + 1 := by omega
            have hm2 : m < m + 1 := by omega
            have hgl4 := l4.lt
            have L4 := Lib.hid l4
            have O4 := Lib.hid o4
            have B4 := Lib.hid b4
            clear hown' hgrow hat l4 o4 b4 hg4 hlast ownl
            go_wp2_with fail
            go_region
            obtain ⟨V2, hV2⟩ : ∃ V2, (w4.setCell ⟨gl2, m, none⟩ (.int .i64 (long - c))).drew = V2 := ⟨_, rfl⟩
            rw [hV2]
            have hne2 : go ≠ gl2 := hne4
            have RK : Hid (rollK xs long (k + 1) = (O ++ [(m : Int)], L ++ [c])) := Lib.hid (by
              have h := (HAT m HF.out).out
              rw [show putR L c m = L ++ [c] by rw [← HM.out]; exact putR_new L c] at h
              exact h)
            have o2 : OwnG w.heap.size V2 (.slice (some ⟨go, 0, none⟩) k co) O go := by
              rw [← hV2]
              have h := O4.out.kept (grown_set w4 gl2 m (.int .i64 (long - c))) hne4
              exact h
            have l2 : OwnG w.heap.size V2 (.slice (some ⟨gl2, 0, none⟩) (m + 1) cl2) (leftR long (L ++ [c])) gl2 := by
              rw [← hV2, ← leftR_new, HM.out]
              have h := L4.out.set m (long - c)
              exact h
            have b2 : Below w.heap.size w V2 := by
              rw [← hV2]
              exact (B4.out.setCell (p := ⟨gl2, m, none⟩) (by show w.heap.size ≤ gl2; omega) _).drew
            have O2 := Lib.hid o2
            have L2 := Lib.hid l2
            have B2 := Lib.hid b2
            have hg2 := o2.lt
            have hgl2 := l2.lt
            have hk10 : k < 10 := by omega
            have own2 : V2.ownsRow w.heap.size 2 1 (.slice (some ⟨go, 0, none⟩) k co) k (O.map (Value.int .i64)) := by
              have h := o2.1
              unfold OwnI at h
              rw [HK.out] at h
              exact h
            clear hV2 o2 l2 b2
            go_wp2_with (at_builtin; refine wpList_append_own_at _ rfl _ _ 22 rfl w.heap.size 2 i0 (.int .i64 0) 1 8 Try.underlying22 hi hz0 hz1 hz2 rfl (by decide) _ _ _ rfl (own2.alloc _) ⟨V2.heap.size, 0, none⟩ 1 1 [.int .i64 m] rfl rfl (cell_one_new _ _ _) (ints_oneCell .i64 [m]) (by unfold maxLen; omega) (by omega) (by simp; omega) ?_)
            intro v' w3 hown' hgrow _ hat
            obtain ⟨g', c', rfl, o3, hg'⟩ := OwnG.appended O2.out (by rw [HK.out]; exact hown') hat
            have l3 := (L2.out.alloc _).kept (show World.grownBy _ w3 (some go) from hgrow) (Ne.symm hne2)
            have b3 : Below w.heap.size w w3 := (B2.out.alloc (by omega) _).grown hgrow (by simp; omega) (fun r e => by have h : go = r := (by simpa [Value.ownBlock] using e); omega)
            have hne3 : g' ≠ gl2 := by
              rcases hg' with h | h
              · rw [h]; exact hne2
              · omega
            rw [HK.out] at o3 ⊢
            have O3 := Lib.hid o3
            have L3 := Lib.hid l3
            have B3 := Lib.hid b3
            clear hown' hgrow hat o3 l3 b3 hg' own2
            go_wp2_with fail
            go_roundw
            case rel => exact ⟨k + 1, g', gl2, _, _, by omega, by go_num, RK.out, O3.out, L3.out, hne3, B3.out⟩
            case measure => simp [intOf]; omega
      · have hk' : k = n := by omega
        have HR : Hid (rollX xs long = O ∧ rollN xs long = (L.length : Int)) := Lib.hid (by
          have h := HX.out
          rw [HN.out, ← hk', hrk] at h
          exact h)
        obtain ⟨co, rfl⟩ := hO.2
        obtain ⟨cl, rfl⟩ := hL.2
        have HO := Lib.hid hO
        have HB := Lib.hid hnx
        have hll := leftR_len long L
        rw [hll]
        clear hk' hrk hO hL hnx hll
        go_wp2_with fail
        go_ret3
        exact ⟨_, by rw [HR.out.2, HC.out]; rfl, by rw [HR.out.1]; exact HO.out.1, HB.out⟩
  · have HX := Lib.hid (roll_c hc0)
    obtain ⟨c, hcc⟩ : ∃ c, rollC xs long = c := ⟨_, rfl⟩
    have t1 : (c != 0) = true := by rw [← hcc]; simpa using hc0
    have HC := Lib.hid hcc
    have HOA : Hid (OwnI w.heap.size (w.alloc (.cells #[] 2)) (.slice (some ⟨w.heap.size, 0, none⟩) 0 0) []) := Lib.hid (OwnG.made w).1
    have HN := Lib.hid hn
    obtain ⟨a, cap, rfl, ha⟩ := hv
    clear hc0 hcc ha hn
    go_enter Try.func7, Try.ntmps7
    go_wp2_with fail
    refine (srolls_any _ xs long _ HRD.out HN.out).mono ?_
    rintro e w2 ⟨rfl, rfl⟩
    rw [HC.out]
    go_wp2_with fail
    go_ret3
    exact ⟨_, by rw [HX.out.2, HC.out]; rfl, by rw [HX.out.1]; exact HOA.out, (Below.refl _ _).alloc (Nat.le_refl _) _⟩
end Go.Proofs.Ytlobfhhdddedbaa
