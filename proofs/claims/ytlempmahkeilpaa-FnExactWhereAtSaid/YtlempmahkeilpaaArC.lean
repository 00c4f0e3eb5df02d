/-
  A clone of lanes; the hops of a net.
-/
import Derived.Test.YtlempmahkeilpaaArO
import Derived.Test.YtlempmahkeilpaaNtC
import Derived.Lib.SliceRun
namespace Go.Proofs.Ytlempmahkeilpaa
open Go Go.RowKit
set_option linter.unusedVariables false

theorem lan_cells {w : World} {b : Nat} {ps : List Lan} (h : CellsLa w b ps) : ∀ j u, (flatLa ps)[j]? = some u → w.cell? ((⟨b, 0, none⟩ : Addr).add j) = some u := flatLa_cells h
set_option maxHeartbeats 2000000 in
set_option maxRecDepth 100000 in
theorem cloneHops_row (b cap : Nat) (ps : List Lan) (hm : ps.length ≤ 1048576) (w : World) (hc : CellsLa w b ps) :
    Calls Try.prog 79 #[.slice (some ⟨b, 0, none⟩) ps.length cap] w fun e w' => ∃ v, e = .returned v ∧ OwnLa 67 w.heap.size w' v ps ∧ Below w.heap.size w w' := by
  obtain ⟨i0, hi, hz0, hz1, hz2⟩ := info_parts infoR_La
  have hq := fun (wx : World) => Lib.run_eql_slice_nil (P := Try.prog) wx 79 67 (some ⟨b, 0, none⟩) ps.length cap 0 0 Try.underlying79
  have hown : (w.alloc (.cells #[] 67)).ownsRow w.heap.size 67 4 (.slice (some ⟨w.heap.size, 0, none⟩) 0 0) 0 [] := World.ownsRow_made w #[] 0 (Nat.le_refl _) (Nat.zero_le _) rfl
  have hb0 : Below w.heap.size w (w.alloc (.cells #[] 67)) := (Below.refl _ _).alloc (Nat.le_refl _) _
  have hnews := lan_cells (hc.below hb0)
  have HB := Lib.hid hb0
  have HN := Lib.hid hnews
  have HO := Lib.hid hown
  obtain ⟨n, hn⟩ : ∃ n, ps.length = n := ⟨_, rfl⟩
  have HLN := Lib.hid hn
  rw [hn] at hm hq ⊢
  clear hb0 hnews hown hc hn
  go_enter Try.func79, Try.ntmps79
  go_wp2_with (at_builtin; refine wpList_append_own _ rfl _ _ 79 rfl w.heap.size 67 i0 (.agg #[.int .i8 0, .int .i8 0, .int .i16 0, .int .i16 0]) 4 6 Try.underlying79 hi hz0 hz1 hz2 rfl (by decide) _ _ _ rfl HO.out ⟨b, 0, none⟩ n cap (flatLa ps) rfl (by rw [flatLa_length, HLN.out]) HN.out (flatLa_ones ps) (by unfold maxLen; omega) (by omega) (by simp) ?_)
  intro v' w3 hown' hgrow _
  have HO' : Hid (OwnLa 67 w.heap.size w3 v' ps) := Lib.hid (by
    have h := hown'
    unfold OwnLa
    rw [HLN.out]
    exact h)
  have HB' : Hid (Below w.heap.size w w3) := Lib.hid (HB.out.grown hgrow (by simp) (fun j hj => by simp [Value.ownBlock] at hj; omega))
  clear hown' hgrow
  go_wp2
  go_ret
  exact ⟨_, rfl, HO'.out, HB'.out⟩
set_option maxHeartbeats 1000000 in
theorem cloneHops_nil (a : Option Addr) (cap : Nat) (w : World) :
    Calls Try.prog 79 #[.slice a 0 cap] w fun e w' => ∃ v, e = .returned v ∧ OwnLa 67 w.heap.size w' v [] ∧ Below w.heap.size w w' := by
  obtain ⟨i0, hi, hz0, hz1, hz2⟩ := info_parts infoR_La
  have hq := fun (wx : World) => Lib.run_eql_slice_nil (P := Try.prog) wx 79 67 a 0 cap 0 0 Try.underlying79
  have hown : (w.alloc (.cells #[] 67)).ownsRow w.heap.size 67 4 (.slice (some ⟨w.heap.size, 0, none⟩) 0 0) 0 [] := World.ownsRow_made w #[] 0 (Nat.le_refl _) (Nat.zero_le _) rfl
  have hb0 : Below w.heap.size w (w.alloc (.cells #[] 67)) := (Below.refl _ _).alloc (Nat.le_refl _) _
  have HB := Lib.hid hb0
  have HO := Lib.hid hown
  clear hb0 hown
  cases a with
  | none =>
    go_enter Try.func79, Try.ntmps79
    go_wp2_with fail
    go_ret
    exact ⟨_, rfl, World.ownsRow_nil _ _ _ _, Below.refl _ _⟩
  | some x =>
    go_enter Try.func79, Try.ntmps79
    go_wp2_with (at_builtin; refine wpList_append_own _ rfl _ _ 79 rfl w.heap.size 67 i0 (.agg #[.int .i8 0, .int .i8 0, .int .i16 0, .int .i16 0]) 4 6 Try.underlying79 hi hz0 hz1 hz2 rfl (by decide) _ _ _ rfl HO.out x 0 cap [] rfl (by simp) (by intro j u hj; simp at hj) (by intro u hu; simp at hu) (by unfold maxLen; omega) (by omega) (by simp) ?_)
    intro v' w3 hown' hgrow _
    have HO' : Hid (OwnLa 67 w.heap.size w3 v' []) := Lib.hid (by simpa [OwnLa, flatLa, flatE] using hown')
    have HB' : Hid (Below w.heap.size w w3) := Lib.hid (HB.out.grown hgrow (by simp) (fun j hj => by simp [Value.ownBlock] at hj; omega))
    clear hown' hgrow
    go_wp2
    go_ret
    exact ⟨_, rfl, HO'.out, HB'.out⟩

theorem row_mono {B B' n m : Nat} {T : TypeId} {w : World} {v : Value} {us : List Value} (h : w.ownsRow B T n v m us) (hB : B' ≤ B) : w.ownsRow B' T n v m us := by
  refine ⟨h.1, ?_⟩
  rcases h.2 with hn | ⟨g, cap, cur, rfl, hb, rest⟩
  · exact .inl hn
  · exact .inr ⟨g, cap, cur, rfl, Nat.le_trans hB hb, rest⟩
/-- Hops: the first k lanes with the stay. -/
def hopK (sy : Int) (ps : List Lan) : Nat → List Lan
  | 0 => ps
  | k + 1 => (hopK sy ps k).set k ((ps.getD k (0, 0, 0, 0)).1, (ps.getD k (0, 0, 0, 0)).2.1, (ps.getD k (0, 0, 0, 0)).2.2.1, (ps.getD k (0, 0, 0, 0)).2.2.2 + sy)
theorem hopK_len (sy : Int) (ps : List Lan) (k : Nat) : (hopK sy ps k).length = ps.length := by
  induction k with
  | zero => rfl
  | succ k ih => rw [hopK, List.length_set, ih]
theorem hopK_get (sy : Int) (ps : List Lan) (k j : Nat) (hj : j < ps.length) : (hopK sy ps k).getD j (0, 0, 0, 0) = if j < k then ((ps.getD j (0, 0, 0, 0)).1, (ps.getD j (0, 0, 0, 0)).2.1, (ps.getD j (0, 0, 0, 0)).2.2.1, (ps.getD j (0, 0, 0, 0)).2.2.2 + sy) else ps.getD j (0, 0, 0, 0) := by
  induction k with
  | zero => simp [hopK]
  | succ k ih =>
    rw [hopK]
    by_cases e : j = k
    · subst e
      have hl : j < (hopK sy ps j).length := by rw [hopK_len]; exact hj
      rw [if_pos (by omega)]
      simp only [List.getD, List.getElem?_set_self hl, Option.getD_some]
    · have h1 : ∀ x, ((hopK sy ps k).set k x).getD j (0, 0, 0, 0) = (hopK sy ps k).getD j (0, 0, 0, 0) := fun x => by
        simp only [List.getD]
        rw [List.getElem?_set_ne (fun h => e h.symm)]
      rw [h1, ih]
      by_cases h2 : j < k
      · rw [if_pos h2, if_pos (by omega)]
      · rw [if_neg h2, if_neg (by omega)]
def hopsL (sy : Int) (ps : List Lan) : List Lan := hopK sy ps ps.length
theorem hopsL_len (sy : Int) (ps : List Lan) : (hopsL sy ps).length = ps.length := hopK_len sy ps _
theorem hopsL_get (sy : Int) (ps : List Lan) (j : Nat) (hj : j < ps.length) : (hopsL sy ps).getD j (0, 0, 0, 0) = ((ps.getD j (0, 0, 0, 0)).1, (ps.getD j (0, 0, 0, 0)).2.1, (ps.getD j (0, 0, 0, 0)).2.2.1, (ps.getD j (0, 0, 0, 0)).2.2.2 + sy) := by
  rw [hopsL, hopK_get sy ps _ j hj, if_pos hj]
theorem hops_ok {st sy : Int} {ps : List Lan} (h : okNet st sy ps) : OkHops (hopsL sy ps) := fun i hi => by
  rw [hopsL_len] at hi
  rw [hopsL_get sy ps i hi]
  have h1 := h.2.2.2 i hi
  have h2 := h.1
  have h3 := h.2.1
  unfold okLa at h1
  unfold okHop
  simp only
  omega
theorem flatLa_set3 (ps : List Lan) (i : Nat) (y : Int) (hi : i < ps.length) : (flatLa ps).set (i * 4 + 3) (.int .i16 y) = flatLa (ps.set i ((ps.getD i (0, 0, 0, 0)).1, (ps.getD i (0, 0, 0, 0)).2.1, (ps.getD i (0, 0, 0, 0)).2.2.1, y)) := by
  unfold flatLa
  exact flatE_set encLa_len ps i 3 (.int .i16 y) _ hi (by omega) (by simp [encLa, List.getD, hi])

set_option maxHeartbeats 4000000 in
set_option maxRecDepth 100000 in
theorem ihops_any (st sy : Int) (v : Value) (ps : List Lan) (w : World) (hok : okNet st sy ps) (hv : ReadsLa w v ps) :
    Calls Try.prog 42 #[netV st sy v] w fun e w' => ∃ u, e = .returned u ∧ OwnLa 67 w.heap.size w' u (hopsL sy ps) ∧ Below w.heap.size w w' := by
  have hb1 : Below w.heap.size w (w.alloc (.cells (netB st sy v) 35)) := (Below.refl _ _).alloc (Nat.le_refl _) _
  have BX : BlkA (w.alloc (.cells (netB st sy v) 35)) w.heap.size 35 (netB st sy v) := BlkA.new rfl _ _
  have hv1 := hv.below hb1
  have HOK := Lib.hid hok
  have h20 := hok.2.2.1
  have hsy := hok.2.1
  go_enter Try.func42, Try.ntmps42
  go_wp2_with fail
  obtain ⟨W1, hW⟩ : ∃ W, w.alloc (.cells (netB st sy v) 35) = W := ⟨_, rfl⟩
  have hW' : w.alloc (.cells #[.int .i8 st, .int .i16 sy, v] 35) = W1 := hW
  rw [hW] at hb1 BX hv1
  rw [hW']
  clear hW hW' hv
  have hclone : Calls Try.prog 79 #[v] W1 fun e w' => ∃ u, e = .returned u ∧ OwnLa 67 W1.heap.size w' u ps ∧ Below W1.heap.size W1 w' := by
    obtain ⟨a, cap, rfl, h⟩ := hv1
    by_cases h0 : ps = []
    · subst h0; exact cloneHops_nil a cap W1
    · obtain ⟨b, rfl, hc⟩ := h h0
      exact cloneHops_row b cap ps (by omega) W1 hc
  refine hclone.mono ?_
  rintro e w2 ⟨u, rfl, o2, b2⟩
  have HB2 := Lib.hid (blink hb1 b2)
  have bx2 := BX.below b2
  have hs1 : w.heap.size < W1.heap.size := BX.lt
  clear hclone hv1 hb1 BX b2
  have HBX := Lib.hid bx2
  rcases o2.cases with ⟨rfl, hnil⟩ | ⟨g, gc, rfl, q1, q2, q3, q4, q5, q6⟩
  · subst hnil
    clear bx2
    go_wp2_with fail
    refine wp_loop_rounds 1 ?_
    rw [rounds_succ]
    go_wp2_with fail
    go_ret
    exact ⟨_, rfl, World.ownsRow_nil _ _ _ _, HB2.out⟩
  · have HO2 := Lib.hid o2
    have hg : w.heap.size < g := by omega
    obtain ⟨len, hlen⟩ : ∃ m, ps.length = m := ⟨_, rfl⟩
    have HL := Lib.hid hlen
    rw [hlen] at HO2 h20 ⊢
    clear o2 q1 q2 q3 q4 q5 q6 bx2 hlen hok
    go_wp2_with fail
    go_loopw [10] (fun i wr => ∃ k : Nat, k ≤ len ∧ i = .int .i64 k ∧ wr.ownsRow W1.heap.size 67 4 (.slice (some ⟨g, 0, none⟩) len gc) len (flatLa (hopK sy ps k)) ∧ BlkA wr w.heap.size 35 (netB st sy v) ∧ Below w.heap.size w wr) (fun i _ => len - (intOf i).toNat)
    case atStart => exact ⟨0, Nat.zero_le _, rfl, by have h := HO2.out; unfold OwnLa at h; rw [HL.out] at h; exact h, HBX.out, HB2.out⟩
    case round =>
      obtain ⟨k, hk, rfl, hown, hbx, hnx⟩ := hrel
      by_cases hlt : k < len
      · have hkl : k < ps.length := by have := HL.out; omega
        have htl := hopK_len sy ps k
        have d3 := hown.cellAt (k * 4 + 3) (by omega)
        rw [flatLa_3 _ _ (by rw [htl]; exact hkl), hopK_get sy ps k k hkl, if_neg (by omega)] at d3
        have f3 := hown.frozenAt (k * 4 + 3)
        have s1 : wr.cell? ⟨w.heap.size, 1, none⟩ = some (.int .i16 sy) := hbx.at 1
        have hla := HOK.out.2.2.2 k hkl
        have S := (hown.stored (k * 4 + 3) (.int .i16 ((ps.getD k (0, 0, 0, 0)).2.2.2 + sy))).1
        rw [flatLa_set3 _ _ _ (by rw [htl]; exact hkl), hopK_get sy ps k k hkl, if_neg (by omega)] at S
        have HS : Hid ((wr.setCell ⟨g, k * 4 + 3, none⟩ (.int .i16 ((ps.getD k (0, 0, 0, 0)).2.2.2 + sy))).ownsRow W1.heap.size 67 4 (.slice (some ⟨g, 0, none⟩) len gc) len (flatLa (hopK sy ps (k + 1)))) := Lib.hid S
        obtain ⟨q, hq⟩ : ∃ q, ps.getD k (0, 0, 0, 0) = q := ⟨_, rfl⟩
        rw [hq] at d3 hla HS
        obtain ⟨x0, x1, x2, x3⟩ := q
        unfold okLa at hla
        simp only at d3 hla HS
        have hx3 : 0 ≤ x3 ∧ x3 ≤ 40 := by omega
        have HBB := Lib.hid hbx
        have HB := Lib.hid hnx
        have hkln : (k : Int) < (len : Int) := by omega
        have ng : w.heap.size ≠ g := by omega
        have hgle : w.heap.size ≤ g := by omega
        clear hq S hown hbx hnx hla htl
        go_wp2_with fail
        go_region
        go_wp2_with fail
        go_roundw
        case rel => exact ⟨k + 1, by omega, by go_num, HS.out, (HBB.out.other _ _ ng), (HB.out.setCell hgle _).drew⟩
        case measure => simp [intOf]; omega
      · have hk' : k = len := by omega
        have HO3 : Hid (OwnLa 67 w.heap.size wr (.slice (some ⟨g, 0, none⟩) len gc) (hopsL sy ps)) := Lib.hid (by
          have h := row_mono hown (Nat.le_of_lt hs1)
          rw [hk'] at h
          unfold OwnLa
          rw [hopsL_len, hopsL, HL.out]
          exact h)
        have HB := Lib.hid hnx
        clear hk' hown hbx hnx
        go_wp2_with fail
        go_ret
        exact ⟨_, rfl, HO3.out, HB.out⟩
end Go.Proofs.Ytlempmahkeilpaa
