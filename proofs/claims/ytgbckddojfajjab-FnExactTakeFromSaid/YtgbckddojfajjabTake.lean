/-
  Contracts of impl.without, spec.l01Take and of both TakeFrom.
-/
import Derived.Test.YtgbckddojfajjabMarkP
import Derived.Test.YtgbckddojfajjabToI
import Derived.Test.YtgbckddojfajjabBlock
import Derived.RegionTactic
import Derived.BigRegion
import Derived.Laws.CopyOwn
namespace Go.Proofs.Ytgbckddojfajjab
open Go Go.RowKit
set_option linter.unusedVariables false

/-- The stock when the first k counts have been taken. -/
def takeK (ps : List (Int × Int)) (cs : List Int) : Nat → List (Int × Int)
  | 0 => ps
  | k + 1 => (takeK ps cs k).set k ((ps.getD k (0, 0)).1, (ps.getD k (0, 0)).2 - cs.getD k 0)
theorem takeK_length (ps : List (Int × Int)) (cs : List Int) (k : Nat) : (takeK ps cs k).length = ps.length := by
  induction k with
  | zero => rfl
  | succ k ih => rw [takeK, List.length_set, ih]
theorem takeK_get (ps : List (Int × Int)) (cs : List Int) (k j : Nat) (h : k ≤ j) : (takeK ps cs k).getD j (0, 0) = ps.getD j (0, 0) := by
  induction k with
  | zero => rfl
  | succ k ih => rw [takeK, List.getD, List.getElem?_set_ne (by omega)]; exact ih (by omega)
/-- Each count is 0 to what one has. -/
def Fits (ps : List (Int × Int)) (cs : List Int) : Prop := ∀ i, i < ps.length → 0 ≤ cs.getD i 0 ∧ cs.getD i 0 ≤ (ps.getD i (0, 0)).2
theorem flatP_set1 (ps : List (Int × Int)) (i : Nat) (y : Int) (hi : i < ps.length) : (flatP ps).set (i * 2 + 1) (.int .i16 y) = flatP (ps.set i ((ps.getD i (0, 0)).1, y)) := by
  unfold flatP
  exact flatE_set encP_len ps i 1 (.int .i16 y) _ hi (by omega) (by simp [encP, List.getD, hi])

set_option maxHeartbeats 4000000 in
set_option maxRecDepth 100000 in
theorem without_row (b len cap : Nat) (ps : List (Int × Int)) (cs : List Int) (c0 c1 c2 c3 c4 c5 c6 c7 : Int) (hcs : ∀ i, i < ps.length → [c0, c1, c2, c3, c4, c5, c6, c7].getD i 0 = cs.getD i 0)
    (hl : ps.length = len) (h8 : len ≤ 8) (hv : RiseS ps ps.length) (hf : Fits ps cs) (w : World) (hc : CellsP w b ps) :
    Calls Try.prog 48 #[.slice (some ⟨b, 0, none⟩) len cap, .agg #[.int .i64 c0, .int .i64 c1, .int .i64 c2, .int .i64 c3, .int .i64 c4, .int .i64 c5, .int .i64 c6, .int .i64 c7]] w (RetP 49 w.heap.size w (takeK ps cs len)) := by
  have HL := Lib.hid hl
  have HV := Lib.hid hv
  have HF := Lib.hid hf
  have HCS := Lib.hid hcs
  clear hl hv hf hcs
  obtain ⟨w1, e1⟩ : ∃ w1, w.alloc (.cells #[.int .i64 c0, .int .i64 c1, .int .i64 c2, .int .i64 c3, .int .i64 c4, .int .i64 c5, .int .i64 c6, .int .i64 c7] 60) = w1 := ⟨_, rfl⟩
  have bi : BlockI w1 w.heap.size 60 [c0, c1, c2, c3, c4, c5, c6, c7] := by rw [← e1]; exact BlockI.new w _ [c0, c1, c2, c3, c4, c5, c6, c7]
  have b1 : Below w.heap.size w w1 := by rw [← e1]; exact (Below.refl _ _).alloc (Nat.le_refl _) _
  have hcw1 := hc.below b1
  have HE1 := Lib.hid e1
  have HB1 := Lib.hid b1
  clear hc e1 b1
  go_enter Try.func48, Try.ntmps48
  go_wp2_with fail
  rw [HE1.out]
  refine (cloneP_row b len cap ps HL.out (by omega) w1 hcw1).mono ?_
  rintro e w2 ⟨v2, rfl, o2, b2⟩
  have bi2 : BlockI w2 w.heap.size 60 [c0, c1, c2, c3, c4, c5, c6, c7] := (b2.block _ bi.lt).trans bi
  have hs1 : w.heap.size < w1.heap.size := bi.lt
  have HB2 := Lib.hid (HB1.out.trans (b2.mono HB1.out.size))
  rcases o2.cases with ⟨rfl, hnil⟩ | ⟨g, gc, rfl, q1, q2, q3, q4, q5, q6⟩
  · have hl0 : len = 0 := by rw [← HL.out, hnil]; rfl
    subst hl0
    subst hnil
    go_wp2_with fail
    refine wp_loop_rounds 1 ?_
    rw [rounds_succ]
    go_wp2_with fail
    go_ret
    exact ⟨_, rfl, World.ownsRow_nil _ _ _ _, HB2.out⟩
  · have HO2 := Lib.hid o2
    have hg : w.heap.size < g := by omega
    have HBI := Lib.hid bi2
    rw [HL.out] at HO2 q3 ⊢
    clear o2 b2 bi bi2 hcw1 q5 q6
    go_wp2_with fail
    go_loopw [11] (fun i wr => ∃ k : Nat, k ≤ len ∧ i = .int .i64 k ∧ wr.ownsRow w1.heap.size 49 2 (.slice (some ⟨g, 0, none⟩) len gc) len (flatP (takeK ps cs k)) ∧ BlockI wr w.heap.size 60 [c0, c1, c2, c3, c4, c5, c6, c7] ∧ Below w.heap.size w wr) (fun i _ => len - (intOf i).toNat)
    case atStart => exact ⟨0, Nat.zero_le _, rfl, by have h := HO2.out; unfold OwnP at h; rw [HL.out] at h; exact h, HBI.out, HB2.out⟩
    case round =>
      obtain ⟨k, hk, rfl, hown, hbi, hnx⟩ := hrel
      by_cases hlt : k < len
      · have hkl : k < ps.length := by have := HL.out; omega
        have htl := takeK_length ps cs k
        have d1 := hown.cellAt (k * 2 + 1) (by omega)
        rw [flatP_1 _ _ (by rw [htl]; exact hkl), takeK_get ps cs k k (Nat.le_refl _)] at d1
        have f1 := hown.frozenAt (k * 2 + 1)
        have a1 := hbi.cell k (by simp; omega)
        rw [HCS.out k hkl] at a1
        have hfit := HF.out k hkl
        have hok := HV.out k hkl
        unfold okS at hok
        have S := (hown.stored (k * 2 + 1) (.int .i16 ((ps.getD k (0, 0)).2 - cs.getD k 0))).1
        rw [flatP_set1 _ _ _ (by rw [htl]; exact hkl), takeK_get ps cs k k (Nat.le_refl _)] at S
        have HS : Hid ((wr.setCell ⟨g, k * 2 + 1, none⟩ (.int .i16 ((ps.getD k (0, 0)).2 - cs.getD k 0))).ownsRow w1.heap.size 49 2 (.slice (some ⟨g, 0, none⟩) len gc) len (flatP (takeK ps cs (k + 1)))) := Lib.hid S
        obtain ⟨y, hy⟩ : ∃ y, (ps.getD k (0, 0)).2 = y := ⟨_, rfl⟩
        obtain ⟨c, hcc⟩ : ∃ c, cs.getD k 0 = c := ⟨_, rfl⟩
        rw [hy] at d1 hfit HS hok
        rw [hcc] at a1 hfit HS
        have hc1 := hfit.1
        have hc2 := hfit.2
        have hy2 := hok.2.2.2
        have HBB := Lib.hid hbi
        have HB := Lib.hid hnx
        have hk8 : (k : Int) < 8 := by omega
        have hk8n : k < 8 := by omega
        have ng : w.heap.size ≠ g := by omega
        have hgle : w.heap.size ≤ g := by omega
        clear hy hcc S hown hbi hnx hfit hok htl
        go_wp2_with fail
        go_region
        go_wp2_with fail
        go_roundw
        case rel => exact ⟨k + 1, by omega, by go_num, HS.out, (HBB.out.other _ _ ng), (HB.out.setCell hgle _).drew⟩
        case measure => simp [intOf]; omega
      · have hk' : k = len := by omega
        have HO3 : Hid (OwnP 49 w.heap.size wr (.slice (some ⟨g, 0, none⟩) len gc) (takeK ps cs len)) := Lib.hid (by
          rw [hk'] at hown
          refine ⟨by rw [takeK_length, HL.out]; exact hown.1, ?_⟩
          rcases hown.2 with h | ⟨g', cap', cur, h1, h2, h3⟩
          · simp at h
          · rw [takeK_length, HL.out]; exact .inr ⟨g', cap', cur, h1, by omega, h3⟩)
        have HB := Lib.hid hnx
        clear hk' hown hbi hnx
        go_wp2_with fail
        go_ret
        exact ⟨_, rfl, HO3.out, HB.out⟩

/-! ### TakeFrom -/
def NegIn (cs : List Int) : Prop := ∃ i, i < cs.length ∧ cs.getD i 0 < 0
def OverIn (ps : List (Int × Int)) (cs : List Int) : Prop := ∃ i, i < cs.length ∧ (ps.getD i (0, 0)).2 < cs.getD i 0
open Classical in
noncomputable def codeT (ps : List (Int × Int)) (cs : List Int) : Int := if vldS ps = false then 1 else if cs.length ≠ ps.length ∨ NegIn cs then 2 else if OverIn ps cs then 4 else 0
theorem codeT_1 {ps : List (Int × Int)} {cs : List Int} (h : vldS ps = false) : codeT ps cs = 1 := by unfold codeT; rw [if_pos h]
theorem codeT_2 {ps : List (Int × Int)} {cs : List Int} (h : vldS ps = true) (k : cs.length ≠ ps.length ∨ NegIn cs) : codeT ps cs = 2 := by unfold codeT; rw [if_neg (by simp [h]), if_pos k]
theorem codeT_4 {ps : List (Int × Int)} {cs : List Int} (h : vldS ps = true) (k : ¬ (cs.length ≠ ps.length ∨ NegIn cs)) (l : OverIn ps cs) : codeT ps cs = 4 := by unfold codeT; rw [if_neg (by simp [h]), if_neg k, if_pos l]
theorem codeT_0 {ps : List (Int × Int)} {cs : List Int} (h : vldS ps = true) (k : ¬ (cs.length ≠ ps.length ∨ NegIn cs)) (l : ¬ OverIn ps cs) : codeT ps cs = 0 := by unfold codeT; rw [if_neg (by simp [h]), if_neg k, if_neg l]
open Classical in
noncomputable def takeRes (ps : List (Int × Int)) (cs : List Int) : List (Int × Int) := if codeT ps cs = 0 then takeK ps cs ps.length else []
theorem takeRes_ok {ps : List (Int × Int)} {cs : List Int} (h : codeT ps cs = 0) : takeRes ps cs = takeK ps cs ps.length := if_pos h
theorem takeRes_not {ps : List (Int × Int)} {cs : List Int} {c : Int} (h : codeT ps cs = c) (hc : c ≠ 0) : takeRes ps cs = [] := if_neg (by rw [h]; exact hc)
theorem takeRes_len (ps : List (Int × Int)) (cs : List Int) : (takeRes ps cs).length ≤ ps.length := by
  unfold takeRes
  split
  · rw [takeK_length]; exact Nat.le_refl _
  · simp
def RetRowP (T : TypeId) (B : Nat) (w : World) (ps : List (Int × Int)) (c : Int) (e : Ending) (w' : World) : Prop := ∃ v, e = .returned (.tuple #[v, .int .i64 c]) ∧ OwnP T B w' v ps ∧ Below w.heap.size w w'
theorem list8 {L : List Int} (h : L.length = 8) : ∃ a0 a1 a2 a3 a4 a5 a6 a7, L = [a0, a1, a2, a3, a4, a5, a6, a7] := by
  match L, h with
  | [a0, a1, a2, a3, a4, a5, a6, a7], _ => exact ⟨a0, a1, a2, a3, a4, a5, a6, a7, rfl⟩
theorem OwnP.mono {T : TypeId} {B B' : Nat} {w : World} {v : Value} {ps : List (Int × Int)} (h : OwnP T B w v ps) (hB : B' ≤ B) : OwnP T B' w v ps := by
  refine ⟨h.1, ?_⟩
  rcases h.2 with hn | ⟨g, cap, cur, rfl, hb, rest⟩
  · exact .inl hn
  · exact .inr ⟨g, cap, cur, rfl, Nat.le_trans hB hb, rest⟩

def zeros8 : List Value := [.int .i64 0, .int .i64 0, .int .i64 0, .int .i64 0, .int .i64 0, .int .i64 0, .int .i64 0, .int .i64 0]
theorem splice8 (cs : List Int) (h : cs.length ≤ 8) : ∃ a0 a1 a2 a3 a4 a5 a6 a7 : Int, splice zeros8 0 (cs.map (Value.int .i64)) = [a0, a1, a2, a3, a4, a5, a6, a7].map (Value.int .i64) ∧ ∀ i, i < cs.length → [a0, a1, a2, a3, a4, a5, a6, a7].getD i 0 = cs.getD i 0 := by
  have e : splice zeros8 0 (cs.map (Value.int .i64)) = (cs ++ List.replicate (8 - cs.length) 0).map (Value.int .i64) := by
    have hz : zeros8 = (List.replicate 8 (0 : Int)).map (Value.int .i64) := rfl
    unfold splice
    rw [hz, ← List.map_drop, List.drop_replicate]
    simp
  obtain ⟨a0, a1, a2, a3, a4, a5, a6, a7, hl⟩ := list8 (L := cs ++ List.replicate (8 - cs.length) 0) (by simp; omega)
  refine ⟨a0, a1, a2, a3, a4, a5, a6, a7, by rw [e, hl], fun i hi => ?_⟩
  rw [← hl, List.getD, List.getElem?_append_left hi]
  rfl

set_option maxHeartbeats 8000000 in
set_option maxRecDepth 100000 in
theorem itake_row (b b2 cap cap2 n : Nat) (ps : List (Int × Int)) (cs : List Int) (hn : cs.length = n) (hp : ps.length ≤ 1048576) (hcl : n ≤ 1048576) (hi16 : I16 ps) (w0 : World) (hc0 : CellsP w0 b ps) (hd0 : Cells w0 b2 cs) :
    Calls Try.prog 30 #[.slice (some ⟨b, 0, none⟩) ps.length cap, .slice (some ⟨b2, 0, none⟩) n cap2] w0 (RetRowP 49 w0.heap.size w0 (takeRes ps cs) (codeT ps cs)) := by
  have hrd : ReadsP w0 (.slice (some ⟨b, 0, none⟩) ps.length cap) ps := ⟨_, cap, rfl, fun _ => ⟨b, rfl, hc0⟩⟩
  have HNN := Lib.hid hn
  cases hvl : vldS ps
  · have HC := Lib.hid (codeT_1 (cs := cs) hvl)
    have HR := Lib.hid (takeRes_not HC.out (by omega))
    rw [HC.out, HR.out]
    clear hn
    go_enter Try.func30, Try.ntmps30
    go_wp2_with fail
    refine (istock_any _ ps _ hrd hp).mono ?_
    rintro e w ⟨rfl, bb⟩
    rw [hvl]
    go_wp2_with fail
    go_ret2
    exact ⟨_, rfl, World.ownsRow_nil _ _ _ _, bb⟩
  · obtain ⟨h8, hri⟩ := vldS_spec hvl
    by_cases hlen : n = ps.length
    · have HLEN := Lib.hid hlen
      have HV := Lib.hid hvl
      have HRI := Lib.hid hri
      have hnp : n ≤ 8 := by omega
      obtain ⟨m, hm⟩ : ∃ m, ps.length = m := ⟨_, rfl⟩
      rw [hm] at hrd hlen ⊢
      subst hlen
      have HM := Lib.hid hm
      clear hm hn h8 hri
      go_enter Try.func30, Try.ntmps30
      go_wp2_with fail
      refine (istock_any _ ps _ hrd hp).mono ?_
      rintro e w ⟨rfl, bb⟩
      rw [hvl]
      have hc := hc0.below bb
      have hd := hd0.below bb
      have HB := Lib.hid bb
      clear hvl hc0 hd0 bb hrd
      go_wp2_with fail
      go_loop [21] (fun i => ∃ k : Nat, k ≤ n ∧ i = .int .i64 k ∧ ∀ j, j < k → 0 ≤ cs.getD j 0) (fun i => n - (intOf i).toNat)
      case atStart => exact ⟨0, Nat.zero_le _, rfl, fun j hj => by omega⟩
      case round =>
        obtain ⟨k, hk, rfl, hall⟩ := hrel
        have HALL := Lib.hid hall
        by_cases hlt : k < n
        · have dx := hd k (by have := HNN.out; omega)
          obtain ⟨x, hx⟩ : ∃ x, cs.getD k 0 = x := ⟨_, rfl⟩
          rw [hx] at dx
          have HX := Lib.hid hx
          clear hall hx
          by_cases hneg : x < 0
          · have HC := Lib.hid (codeT_2 HV.out (.inr ⟨k, by have := HNN.out; omega, by rw [HX.out]; exact hneg⟩) : codeT ps cs = 2)
            have HR := Lib.hid (takeRes_not HC.out (by omega))
            rw [HC.out, HR.out]
            go_wp2_with fail
            go_ret2
            exact ⟨_, rfl, World.ownsRow_nil _ _ _ _, HB.out⟩
          · go_wp2_with fail
            go_round
            case rel => exact ⟨k + 1, by omega, by go_num, fun j hj => by
              by_cases e : j = k
              · subst e; rw [HX.out]; omega
              · exact HALL.out j (by omega)⟩
            case measure => simp [intOf]; omega
        · have hk' : k = n := by omega
          have HPOS : Hid (∀ j, j < n → 0 ≤ cs.getD j 0) := Lib.hid (by rw [← hk']; exact HALL.out)
          have HNG : Hid (¬ (cs.length ≠ ps.length ∨ NegIn cs)) := Lib.hid (by
            rintro (h | ⟨i, hi, hi2⟩)
            · exact h (by rw [HNN.out, HM.out])
            · have := HPOS.out i (by rw [← HNN.out]; exact hi); omega)
          clear hall hk'
          go_wp2_with fail
          go_loop [30] (fun i => ∃ k : Nat, k ≤ n ∧ i = .int .i64 k ∧ ∀ j, j < k → cs.getD j 0 ≤ (ps.getD j (0, 0)).2) (fun i => n - (intOf i).toNat)
          case atStart => exact ⟨0, Nat.zero_le _, rfl, fun j hj => by omega⟩
          case round =>
            obtain ⟨k, hk, rfl, hall⟩ := hrel
            have HALL2 := Lib.hid hall
            by_cases hlt : k < n
            · have dx := hd k (by have := HNN.out; omega)
              have dy := (hc k (by have := HM.out; omega)).2
              have hb16 := hi16.get k (by have := HM.out; omega)
              obtain ⟨x, hx⟩ : ∃ x, cs.getD k 0 = x := ⟨_, rfl⟩
              obtain ⟨y, hy⟩ : ∃ y, (ps.getD k (0, 0)).2 = y := ⟨_, rfl⟩
              rw [hx] at dx
              rw [hy] at dy hb16
              have HX := Lib.hid hx
              have HY := Lib.hid hy
              have hy1 := hb16.2.2.1
              have hy2 := hb16.2.2.2
              have hkn : (k : Int) < (n : Int) := by omega
              clear hall hx hy hb16
              by_cases hov : y < x
              · have HC := Lib.hid (codeT_4 HV.out HNG.out ⟨k, by have := HNN.out; omega, by rw [HX.out, HY.out]; exact hov⟩ : codeT ps cs = 4)
                have HR := Lib.hid (takeRes_not HC.out (by omega))
                rw [HC.out, HR.out]
                go_wp2_with fail
                go_ret2
                exact ⟨_, rfl, World.ownsRow_nil _ _ _ _, HB.out⟩
              · go_wp2_with fail
                go_round
                case rel => exact ⟨k + 1, by omega, by go_num, fun j hj => by
                  by_cases e : j = k
                  · subst e; rw [HX.out, HY.out]; omega
                  · exact HALL2.out j (by omega)⟩
                case measure => simp [intOf]; omega
            · have hk' : k = n := by omega
              have HFIT : Hid (Fits ps cs) := Lib.hid (fun i hi => ⟨HPOS.out i (by have := HM.out; omega), HALL2.out i (by have := HM.out; omega)⟩)
              have HC := Lib.hid (codeT_0 HV.out HNG.out (by
                rintro ⟨i, hi, hi2⟩
                have := HALL2.out i (by have := HNN.out; omega); omega) : codeT ps cs = 0)
              have HR := Lib.hid (takeRes_ok HC.out)
              rw [HC.out, HR.out]
              clear hall hk'
              obtain ⟨a0, a1, a2, a3, a4, a5, a6, a7, hsp, hag⟩ := splice8 cs (by have := HNN.out; omega)
              have HSP := Lib.hid hsp
              have HAG := Lib.hid hag
              have hz1 : (w.alloc (.cells zeros8.toArray 60)).heap[w.heap.size]? = some (.cells zeros8.toArray 60 (0, 0)) := heap_alloc_new w _
              have hb1 : Below w.heap.size w (w.alloc (.cells zeros8.toArray 60)) := (Below.refl _ _).alloc (Nat.le_refl _) _
              have hd1 := hd.below hb1
              have hpos : 0 < (cs.map (Value.int .i64)).length → some (⟨w.heap.size, 0, none⟩ : Addr) = some ⟨w.heap.size, 0, none⟩ ∧ ∃ ad, some (⟨b2, 0, none⟩ : Addr) = some ad ∧ ∀ j u, (cs.map (Value.int .i64))[j]? = some u → (w.alloc (.cells zeros8.toArray 60)).cell? (ad.add j) = some u := by
                refine fun _ => ⟨rfl, _, rfl, fun j u hj => ?_⟩
                have hjl : j < cs.length := by
                  have := (List.getElem?_eq_some_iff.1 hj).1
                  simpa using this
                rw [addr_add, Nat.zero_add]
                rw [hd1 j hjl]
                simp [hjl] at hj
                simp [List.getD, hjl, hj]
              have HZ1 := Lib.hid hz1
              have HB1 := Lib.hid hb1
              have HPO := Lib.hid hpos
              have HN1 : Hid ((cs.map (Value.int .i64)).length = Nat.min n 8) := Lib.hid (by rw [List.length_map, HNN.out]; show n = Min.min n 8; omega)
              have HN3 : Hid (0 + (cs.map (Value.int .i64)).length ≤ zeros8.length) := Lib.hid (by rw [List.length_map, HNN.out]; show 0 + n ≤ 8; omega)
              clear hz1 hb1 hd1 hpos hsp hag
              go_wp2_with (refine wpList_copy_splice (o := ⟨some 46, _, _, _, _, _⟩) rfl (.tmp 44) (.tmp 45) 32 32 rfl 2 rfl rfl _ _ _ _ _ _ rfl rfl w.heap.size 0 zeros8 60 HZ1.out (cs.map (Value.int .i64)) HN1.out HPO.out HN3.out (ints_oneCell .i64 cs) w.heap.size w HB1.out (Nat.le_refl _) ?_)
              intro w2 hg2 hb2
              have bi : BlockI w2 w.heap.size 60 [a0, a1, a2, a3, a4, a5, a6, a7] := by rw [BlockI, ← HSP.out]; exact hg2.out
              have hs2 := hb2.size
              have hc2 := hc.below hb2
              have HB2 := Lib.hid (HB.out.trans (hb2.mono HB.out.size))
              have HBI := Lib.hid bi
              clear hg2 hb2 bi
              have H9 := without_row b n cap ps cs a0 a1 a2 a3 a4 a5 a6 a7 (fun i hi => HAG.out i (by have := HM.out; have := HNN.out; omega)) HM.out (by omega) HRI.out HFIT.out w2 hc2
              have HHP : Hid (w2.heap[w.heap.size]? = some (.cells #[.int .i64 a0, .int .i64 a1, .int .i64 a2, .int .i64 a3, .int .i64 a4, .int .i64 a5, .int .i64 a6, .int .i64 a7] 60 (0, 0))) := HBI
              clear hc hd hc2
              have HH9 := Lib.hid H9
              clear H9
              go_wp2_with (refine wpList_load_row (o := ⟨some 48, _, _, _, _, _⟩) rfl 60 (.tmp 10) rfl w.heap.size rfl 60 _ (0, 0) _ HHP.out rfl rfl rfl ?_)
              refine HH9.out.mono ?_
              rintro e w4 ⟨v, rfl, o4, b4⟩
              have HO4 : Hid (OwnP 49 w0.heap.size w4 v (takeK ps cs ps.length)) := Lib.hid (by rw [HM.out]; exact o4.mono (by have := HB2.out.size; omega))
              have HB4 := Lib.hid (HB2.out.trans (b4.mono HB2.out.size))
              clear o4 b4
              go_wp2_with fail
              go_ret2
              exact ⟨v, (by first | rfl | (rw [HC.out]; rfl)), (by rw [HR.out]; exact HO4.out), HB4.out⟩
    · have HC := Lib.hid (codeT_2 (cs := cs) hvl (.inl (by omega)))
      have HR := Lib.hid (takeRes_not HC.out (by omega))
      rw [HC.out, HR.out]
      have hne : decide ((n : Int) = (ps.length : Int)) = false := by simp; omega
      clear hn
      go_enter Try.func30, Try.ntmps30
      go_wp2_with fail
      refine (istock_any _ ps _ hrd hp).mono ?_
      rintro e w ⟨rfl, bb⟩
      rw [hvl]
      have hbb := Lib.hid bb
      clear bb
      go_wp2_with fail
      go_ret2
      exact ⟨_, rfl, World.ownsRow_nil _ _ _ _, hbb.out⟩
end Go.Proofs.Ytgbckddojfajjab
