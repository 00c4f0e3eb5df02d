/-
  Slices of slices of the call's own, told by the range of their blocks; contracts of the laws' helpers that mark them and look whether they are still marked.
-/
import Derived.Test.YtocogipejchneaaDoorMatA
import Derived.Test.YtocogipejchneaaDoorKeepO
import Derived.Test.YtocogipejchneaaDoorToI
namespace Go.Proofs.YtocogipejchneaaDoor
open Go Go.RowKit
set_option linter.unusedVariables false

/-- The outer row and all rows lie in blocks from lo on, below hi. -/
def OwnMX (lo hi : Nat) (w : World) (v : Value) (R : List (List Int)) : Prop :=
  ∃ us : List Value, w.ownsRow lo 22 1 v R.length us ∧ (∀ j, j < R.length → OwnI lo w (us.getD j nilS) (R.getD j [])) ∧ (∀ p, v.ownBlock = some p → p < hi) ∧ ∀ j, j < R.length → ∀ p, (us.getD j nilS).ownBlock = some p → p < hi
/-- .. and no two rows share a block. -/
def OwnMD (lo hi : Nat) (w : World) (v : Value) (R : List (List Int)) : Prop :=
  ∃ us : List Value, w.ownsRow lo 22 1 v R.length us ∧ (∀ j, j < R.length → OwnI lo w (us.getD j nilS) (R.getD j [])) ∧ (∀ p, v.ownBlock = some p → p < hi) ∧ (∀ j, j < R.length → ∀ p, (us.getD j nilS).ownBlock = some p → p < hi) ∧
    ∀ i j, i < j → j < R.length → ∀ p q, (us.getD i nilS).ownBlock = some p → (us.getD j nilS).ownBlock = some q → p ≠ q
theorem OwnMD.toX {lo hi : Nat} {w : World} {v : Value} {R : List (List Int)} (h : OwnMD lo hi w v R) : OwnMX lo hi w v R := by
  obtain ⟨us, h1, h2, h3, h4, _⟩ := h
  exact ⟨us, h1, h2, h3, h4⟩
theorem OwnM.toD {B : Nat} {w : World} {v : Value} {R : List (List Int)} (h : OwnM B w v R) : OwnMD B w.heap.size w v R := by
  obtain ⟨us, B2, hB, h1, h2, h3⟩ := h
  refine ⟨us, h1, fun j hj => (h2.1 j hj).mono hB, fun p hp => ((h1.lt p hp)).2, fun j hj p hp => ((h2.1 j hj).block p hp).2, fun i j hij hj p q hp hq e => ?_⟩
  have := h2.2 i j hij hj p q hp hq
  omega
theorem row_below {B n k : Nat} {T : TypeId} {w w' : World} {v : Value} {xs : List Value} (h : w.ownsRow B T n v k xs) (hb : Below w.heap.size w w') : w'.ownsRow B T n v k xs := by
  refine ⟨h.1, ?_⟩
  rcases h.2 with hn | ⟨g, cap, cur, rfl, hB, hg, rest⟩
  · exact .inl hn
  · exact .inr ⟨g, cap, cur, rfl, hB, by rw [hb.block g (Array.getElem?_eq_some_iff.1 hg).1]; exact hg, rest⟩
theorem OwnMX.below {lo hi : Nat} {w w' : World} {v : Value} {R : List (List Int)} (h : OwnMX lo hi w v R) (hb : Below w.heap.size w w') : OwnMX lo hi w' v R := by
  obtain ⟨us, h1, h2, h3, h4⟩ := h
  exact ⟨us, row_below h1 hb, fun j hj => (h2 j hj).below hb, h3, h4⟩
theorem OwnMD.below {lo hi : Nat} {w w' : World} {v : Value} {R : List (List Int)} (h : OwnMD lo hi w v R) (hb : Below w.heap.size w w') : OwnMD lo hi w' v R := by
  obtain ⟨us, h1, h2, h3, h4, h5⟩ := h
  exact ⟨us, row_below h1 hb, fun j hj => (h2 j hj).below hb, h3, h4, h5⟩
theorem OwnMX.out {lo hi lo' hi' : Nat} {w w' : World} {v : Value} {R : List (List Int)} (h : OwnMX lo hi w v R) (K : KeepsOut lo' hi' w w') (hd : hi ≤ lo' ∨ hi' ≤ lo) : OwnMX lo hi w' v R := by
  obtain ⟨us, h1, h2, h3, h4⟩ := h
  exact ⟨us, row_out h1 K (fun p hp => by have := h3 p hp; have := (h1.lt p hp).1; omega), fun j hj => (h2 j hj).out K (fun p hp => by have := h4 j hj p hp; have := ((h2 j hj).block p hp).1; omega), h3, h4⟩
theorem OwnMD.out {lo hi lo' hi' : Nat} {w w' : World} {v : Value} {R : List (List Int)} (h : OwnMD lo hi w v R) (K : KeepsOut lo' hi' w w') (hd : hi ≤ lo' ∨ hi' ≤ lo) : OwnMD lo hi w' v R := by
  obtain ⟨us, h1, h2, h3, h4, h5⟩ := h
  exact ⟨us, row_out h1 K (fun p hp => by have := h3 p hp; have := (h1.lt p hp).1; omega), fun j hj => (h2 j hj).out K (fun p hp => by have := h4 j hj p hp; have := ((h2 j hj).block p hp).1; omega), h3, h4, h5⟩
theorem OwnMX.reads {lo hi : Nat} {w : World} {v : Value} {R : List (List Int)} (h : OwnMX lo hi w v R) : ReadsM w v R := by
  obtain ⟨us, h1, h2, h3, h4⟩ := h
  have hus : us.length = R.length := by simpa using h1.1
  rcases h1.2 with ⟨rfl, h0⟩ | ⟨g, cap, cur, rfl, hb, hg, hn, hm, _, _⟩
  · have : R = [] := List.eq_nil_of_length_eq_zero h0
    subst this
    exact ⟨none, 0, rfl, fun h => absurd rfl h⟩
  · refine ⟨_, cap, rfl, fun _ => ⟨g, rfl, fun j hj => ⟨us.getD j nilS, ?_, (h2 j hj).reads⟩⟩⟩
    rw [World.ownsRow.cellAt h1 j (by omega)]
    simp [List.getD, show j < us.length by omega]
theorem OwnMD.reads {lo hi : Nat} {w : World} {v : Value} {R : List (List Int)} (h : OwnMD lo hi w v R) : ReadsM w v R := h.toX.reads
theorem OwnMX.mono {lo lo' hi hi' : Nat} {w : World} {v : Value} {R : List (List Int)} (h : OwnMX lo hi w v R) (h1 : lo' ≤ lo) (h2 : hi ≤ hi') : OwnMX lo' hi' w v R := by
  obtain ⟨us, g1, g2, g3, g4⟩ := h
  refine ⟨us, ⟨g1.1, ?_⟩, fun j hj => (g2 j hj).mono h1, fun p hp => by have := g3 p hp; omega, fun j hj p hp => by have := g4 j hj p hp; omega⟩
  rcases g1.2 with hn | ⟨g, cap, cur, rfl, hb, rest⟩
  · exact .inl hn
  · exact .inr ⟨g, cap, cur, rfl, Nat.le_trans h1 hb, rest⟩
theorem OwnMD.mono {lo lo' hi hi' : Nat} {w : World} {v : Value} {R : List (List Int)} (h : OwnMD lo hi w v R) (h1 : lo' ≤ lo) (h2 : hi ≤ hi') : OwnMD lo' hi' w v R := by
  obtain ⟨us, g1, g2, g3, g4, g5⟩ := h
  refine ⟨us, ⟨g1.1, ?_⟩, fun j hj => (g2 j hj).mono h1, fun p hp => by have := g3 p hp; omega, fun j hj p hp => by have := g4 j hj p hp; omega, g5⟩
  rcases g1.2 with hn | ⟨g, cap, cur, rfl, hb, rest⟩
  · exact .inl hn
  · exact .inr ⟨g, cap, cur, rfl, Nat.le_trans h1 hb, rest⟩

/-- Marks k, k + 1, .. row by row. -/
def iotaM (k0 : Int) (R : List (List Int)) : List (List Int) := (List.range R.length).map fun j => iota (k0 + tot (R.take j)) (R.getD j []).length
theorem iotaM_len (k0 : Int) (R : List (List Int)) : (iotaM k0 R).length = R.length := by simp [iotaM]
theorem iotaM_get (k0 : Int) (R : List (List Int)) (j : Nat) (h : j < R.length) : (iotaM k0 R).getD j [] = iota (k0 + tot (R.take j)) (R.getD j []).length := by simp [iotaM, List.getD, h]
/-- The first k rows marked. -/
def mixM (k0 : Int) (R : List (List Int)) (k : Nat) : List (List Int) := (List.range R.length).map fun j => if j < k then iota (k0 + tot (R.take j)) (R.getD j []).length else R.getD j []
theorem mixM_len (k0 : Int) (R : List (List Int)) (k : Nat) : (mixM k0 R k).length = R.length := by simp [mixM]
theorem mixM_get (k0 : Int) (R : List (List Int)) (k j : Nat) (h : j < R.length) : (mixM k0 R k).getD j [] = if j < k then iota (k0 + tot (R.take j)) (R.getD j []).length else R.getD j [] := by simp [mixM, List.getD, h]
theorem mixM_zero (k0 : Int) (R : List (List Int)) : mixM k0 R 0 = R := by
  apply List.ext_getElem
  · simp [mixM]
  · intro i h1 h2
    simp [mixM, List.getD, h2]
theorem mixM_all (k0 : Int) (R : List (List Int)) : mixM k0 R R.length = iotaM k0 R := by
  unfold mixM iotaM
  apply List.map_congr_left
  intro j hj
  rw [if_pos (List.mem_range.1 hj)]
theorem row_ne_outer {lo lo' n n' : Nat} {w : World} {v u : Value} {xs ys : List Value} (h : w.ownsRow lo 22 1 v n xs) (k : w.ownsRow lo' 2 1 u n' ys) : ∀ p, v.ownBlock = some p → u.ownBlock = some p → False := by
  intro p hp hu
  rcases h.2 with ⟨rfl, _⟩ | ⟨g, cap, cur, rfl, _, hg, _⟩
  · simp [Value.ownBlock] at hp
  · rcases k.2 with ⟨rfl, _⟩ | ⟨g', cap', cur', rfl, _, hg', _⟩
    · simp [Value.ownBlock] at hu
    · simp [Value.ownBlock] at hp hu
      subst hp
      subst hu
      rw [hg] at hg'
      simp at hg'

set_option maxHeartbeats 4000000 in
set_option maxRecDepth 100000 in
theorem markM_row (lo hi g cap n : Nat) (R : List (List Int)) (us : List Value) (k0 : Int) (w : World) (hn : R.length = n) (hown : w.ownsRow lo 22 1 (.slice (some ⟨g, 0, none⟩) n cap) n us)
    (hrow : ∀ j, j < R.length → OwnI lo w (us.getD j nilS) (R.getD j [])) (hlt : ∀ j, j < R.length → ∀ p, (us.getD j nilS).ownBlock = some p → p < hi)
    (hdist : ∀ i j, i < j → j < R.length → ∀ p q, (us.getD i nilS).ownBlock = some p → (us.getD j nilS).ownBlock = some q → p ≠ q) (h0 : 0 ≤ k0) (h1 : k0 ≤ 1048577) (hx : n ≤ 1048576) (ht : tot R ≤ 1048576) :
    Calls Tryd.prog 11 #[.slice (some ⟨g, 0, none⟩) n cap, .int .i64 k0] w fun e w' => e = .returned (.int .i64 (k0 + tot R)) ∧ w'.ownsRow lo 22 1 (.slice (some ⟨g, 0, none⟩) n cap) n us ∧ (∀ j, j < R.length → OwnI lo w' (us.getD j nilS) ((iotaM k0 R).getD j [])) ∧ KeepsOut lo hi w w' := by
  have HN := Lib.hid hn
  have HROW := Lib.hid hrow
  have HLT := Lib.hid hlt
  have HD := Lib.hid hdist
  have hus : us.length = n := by simpa using hown.1
  have HUS := Lib.hid hus
  clear hn hrow hlt hdist hus
  go_enter Tryd.func11, Tryd.ntmps11
  go_wp2_with fail
  go_loopw [1, 5] (fun q i wr => ∃ k : Nat, k ≤ n ∧ i = .int .i64 k ∧ q = .int .i64 (k0 + tot (R.take k)) ∧ wr.ownsRow lo 22 1 (.slice (some ⟨g, 0, none⟩) n cap) n us ∧ (∀ j, j < R.length → OwnI lo wr (us.getD j nilS) ((mixM k0 R k).getD j [])) ∧ KeepsOut lo hi w wr) (fun _ i _ => n - (intOf i).toNat)
  case atStart => exact ⟨0, Nat.zero_le _, rfl, by simp [tot], hown, by rw [mixM_zero]; exact HROW.out, KeepsOut.refl _ _ _⟩
  case round =>
    obtain ⟨k, hk, rfl, rfl, hou, hro, hke⟩ := hrel
    have HO := Lib.hid hou
    have HRO := Lib.hid hro
    have HKE := Lib.hid hke
    by_cases hlt : k < n
    · have hkR : k < R.length := by have := HN.out; omega
      have d0 := hou.cellAt k (by omega)
      have o1 := hro k hkR
      rw [mixM_get _ _ _ _ hkR, if_neg (by omega)] at o1
      have hux : us[k]? = some (us.getD k nilS) := by simp [List.getD, show k < us.length by have := HUS.out; omega]
      rw [hux] at d0
      have HTS := Lib.hid (tot_take_succ R k hkR)
      have htl := tot_take_le R (k + 1)
      have htl0 := tot_take_le R k
      have hts := HTS.out
      have hrl := row_le_tot R k hkR
      obtain ⟨t, htt⟩ : ∃ t, tot (R.take k) = t := ⟨_, rfl⟩
      rw [htt] at HTS htl0 hts ⊢
      have HTT := Lib.hid htt
      have ht1 : t ≤ 1048576 := by omega
      have HRL : Hid ((R.getD k []).length ≤ 1048576) := Lib.hid (by omega)
      have hkn : (k : Int) < (n : Int) := by omega
      obtain ⟨u, hu⟩ : ∃ u, us.getD k nilS = u := ⟨_, rfl⟩
      rw [hu] at d0 o1
      have HU := Lib.hid hu
      obtain ⟨xs, hxs⟩ : ∃ xs, R.getD k [] = xs := ⟨_, rfl⟩
      rw [hxs] at o1 HTS HRL hts hrl
      have HXS := Lib.hid hxs
      have HO1 := Lib.hid o1
      have hrl2 := HRL.out
      clear hux hou hro hke hu hxs hts htt htl o1
      go_wp2_with fail
      refine (mark_any lo u xs (k0 + t) wr HO1.out (by omega) (by omega) HRL.out).mono ?_
      rintro e w2 ⟨rfl, o2, g2⟩
      have HO2 : Hid (w2.ownsRow lo 22 1 (.slice (some ⟨g, 0, none⟩) n cap) n us) := Lib.hid (World.ownsRow.kept HO.out g2 (by
        cases e : u.ownBlock with
        | none => exact .inr (by simp [Value.ownBlock])
        | some p =>
          refine .inr (fun e2 => ?_)
          exact row_ne_outer HO.out HO1.out p (by rw [e2]) e))
      have HR2 : Hid (∀ j, j < R.length → OwnI lo w2 (us.getD j nilS) ((mixM k0 R (k + 1)).getD j [])) := Lib.hid (fun j hj => by
        rw [mixM_get _ _ _ _ hj]
        by_cases e : j = k
        · subst e
          rw [if_pos (by omega), HTT.out, HXS.out, HU.out]
          exact o2
        · have hb := HRO.out j hj
          rw [mixM_get _ _ _ _ hj] at hb
          have hk2 : OwnI lo w2 (us.getD j nilS) (if j < k then iota (k0 + tot (R.take j)) (R.getD j []).length else R.getD j []) := hb.kept g2 (by
            cases e1 : (us.getD j nilS).ownBlock with
            | none => exact .inl rfl
            | some p =>
              refine .inr (fun e2 => ?_)
              rcases Nat.lt_or_gt_of_ne e with h | h
              · exact HD.out j k h hkR p p e1 (by rw [HU.out, ← e2]) rfl
              · exact HD.out k j h hj p p (by rw [HU.out, ← e2]) e1 rfl)
          by_cases hjk : j < k
          · rw [if_pos hjk] at hk2; rw [if_pos (by omega)]; exact hk2
          · rw [if_neg hjk] at hk2; rw [if_neg (by omega)]; exact hk2)
      have HK2 : Hid (KeepsOut lo hi w w2) := Lib.hid (HKE.out.trans (keepsOut_grown g2 (fun p hp => ⟨(HO1.out.block p hp).1, HLT.out k hkR p (by rw [HU.out]; exact hp)⟩)))
      clear o2 g2
      go_wp2_with fail
      go_roundw
      case rel => exact ⟨k + 1, by omega, by go_num, by rw [HTS.out]; go_num, HO2.out, HR2.out, HK2.out⟩
      case measure => simp [intOf]; omega
    · have hk' : k = R.length := by have := HN.out; omega
      have HR3 : Hid (∀ j, j < R.length → OwnI lo wr (us.getD j nilS) ((iotaM k0 R).getD j [])) := Lib.hid (by rw [hk', mixM_all] at hro; exact hro)
      have HTE : Hid (tot (R.take k) = tot R) := Lib.hid (by rw [hk', List.take_of_length_le (Nat.le_refl _)])
      clear hk' hou hro hke
      go_wp2_with fail
      go_ret
      exact ⟨ret_int (by rw [HTE.out]), HO.out, HR3.out, HKE.out⟩

set_option maxHeartbeats 1000000 in
theorem markM_nil (k0 : Int) (w : World) :
    Calls Tryd.prog 11 #[.slice none 0 0, .int .i64 k0] w fun e w' => e = .returned (.int .i64 k0) ∧ w = w' := by
  go_enter Tryd.func11, Tryd.ntmps11
  go_wp2
  refine wp_loop_rounds 1 ?_
  rw [rounds_succ]
  go_wp2
  go_ret
  exact ⟨rfl, rfl⟩

theorem markM_any (lo hi : Nat) (v : Value) (R : List (List Int)) (k0 : Int) (w : World) (h : OwnMD lo hi w v R) (h0 : 0 ≤ k0) (h1 : k0 ≤ 1048577) (hx : R.length ≤ 1048576) (ht : tot R ≤ 1048576) :
    Calls Tryd.prog 11 #[v, .int .i64 k0] w fun e w' => e = .returned (.int .i64 (k0 + tot R)) ∧ OwnMD lo hi w' v (iotaM k0 R) ∧ KeepsOut lo hi w w' := by
  obtain ⟨us, g1, g2, g3, g4, g5⟩ := h
  rcases id g1.2 with ⟨rfl, hz⟩ | ⟨g, cap, cur, rfl, _⟩
  · have e : R = [] := List.eq_nil_of_length_eq_zero hz
    subst e
    exact (markM_nil k0 w).mono fun e w' ⟨he, hw⟩ => ⟨by rw [he]; simp [tot], by subst hw; exact ⟨us, g1, g2, g3, g4, g5⟩, by subst hw; exact KeepsOut.refl _ _ _⟩
  · refine (markM_row lo hi g cap R.length R us k0 w rfl g1 g2 g4 g5 h0 h1 hx ht).mono ?_
    rintro e w' ⟨rfl, o1, o2, K⟩
    exact ⟨rfl, ⟨us, by rw [iotaM_len]; exact o1, by rw [iotaM_len]; exact o2, g3, by rw [iotaM_len]; exact g4, by rw [iotaM_len]; exact g5⟩, K⟩

set_option maxHeartbeats 4000000 in
set_option maxRecDepth 100000 in
theorem heldM_row (b n cap : Nat) (R : List (List Int)) (k0 : Int) (w : World) (hn : R.length = n) (hc : ∀ j, j < R.length → ∃ u, w.cell? ⟨b, j, none⟩ = some u ∧ ReadsI w u ((iotaM k0 R).getD j [])) (h0 : 0 ≤ k0) (h1 : k0 ≤ 1048577) (hx : n ≤ 1048576) (ht : tot R ≤ 1048576) :
    Calls Tryd.prog 12 #[.slice (some ⟨b, 0, none⟩) n cap, .int .i64 k0] w fun e w' => e = .returned (.int .i64 (k0 + tot R)) ∧ Below w.heap.size w w' := by
  have HN := Lib.hid hn
  have HC := Lib.hid hc
  clear hn hc
  go_enter Tryd.func12, Tryd.ntmps12
  go_wp2_with fail
  go_loopw [1, 5] (fun q i wr => ∃ k : Nat, k ≤ n ∧ i = .int .i64 k ∧ q = .int .i64 (k0 + tot (R.take k)) ∧ Below w.heap.size w wr) (fun _ i _ => n - (intOf i).toNat)
  case atStart => exact ⟨0, Nat.zero_le _, rfl, by simp [tot], Below.refl _ _⟩
  case round =>
    obtain ⟨k, hk, rfl, rfl, hnx⟩ := hrel
    have HNX := Lib.hid hnx
    by_cases hlt : k < n
    · have hkR : k < R.length := by have := HN.out; omega
      obtain ⟨u, c0, r0⟩ := HC.out k hkR
      have d0 : wr.cell? ⟨b, k, none⟩ = some u := by rw [hnx.cell (p := ⟨b, k, none⟩) (World.block_lt_of_cell? w _ c0)]; exact c0
      rw [iotaM_get _ _ _ hkR] at r0
      have r1 := r0.below hnx
      have HTS := Lib.hid (tot_take_succ R k hkR)
      have htl0 := tot_take_le R k
      have htl := tot_take_le R (k + 1)
      have hts := HTS.out
      have hrl := row_le_tot R k hkR
      obtain ⟨t, htt⟩ : ∃ t, tot (R.take k) = t := ⟨_, rfl⟩
      rw [htt] at HTS htl0 hts r1 ⊢
      have ht1 : t ≤ 1048576 := by omega
      obtain ⟨m, hm⟩ : ∃ m, (R.getD k []).length = m := ⟨_, rfl⟩
      rw [hm] at HTS hts hrl r1
      have hm1 : m ≤ 1048576 := by omega
      have hkn : (k : Int) < (n : Int) := by omega
      have hwr : w.heap.size ≤ wr.heap.size := hnx.size
      have HR1 := Lib.hid r1
      have hge : decide ((k0 + t + m : Int) < 0) = false := decide_eq_false (by omega)
      clear hm htt hts htl hnx c0 r0 r1
      go_wp2_with fail
      refine (held_any u m (k0 + t) wr HR1.out (by omega) (by omega) hm1).mono ?_
      rintro e w2 ⟨rfl, b2⟩
      have HN2 := Lib.hid (HNX.out.trans (b2.mono hwr))
      clear b2
      go_wp2_with fail
      go_roundw
      case rel => exact ⟨k + 1, by omega, by go_num, by rw [HTS.out]; go_num, HN2.out⟩
      case measure => simp [intOf]; omega
    · have HTE : Hid (tot (R.take k) = tot R) := Lib.hid (by rw [List.take_of_length_le (by have := HN.out; omega)])
      clear hnx
      go_wp2_with fail
      go_ret
      exact ⟨ret_int (by rw [HTE.out]), HNX.out⟩
set_option maxHeartbeats 1000000 in
theorem heldM_zero (a : Option Addr) (cap : Nat) (k0 : Int) (w : World) :
    Calls Tryd.prog 12 #[.slice a 0 cap, .int .i64 k0] w fun e w' => e = .returned (.int .i64 k0) ∧ w = w' := by
  go_enter Tryd.func12, Tryd.ntmps12
  go_wp2
  refine wp_loop_rounds 1 ?_
  rw [rounds_succ]
  go_wp2
  go_ret
  exact ⟨rfl, rfl⟩
theorem heldM_any (v : Value) (R : List (List Int)) (k0 : Int) (w : World) (hv : ReadsM w v (iotaM k0 R)) (h0 : 0 ≤ k0) (h1 : k0 ≤ 1048577) (hx : R.length ≤ 1048576) (ht : tot R ≤ 1048576) :
    Calls Tryd.prog 12 #[v, .int .i64 k0] w fun e w' => e = .returned (.int .i64 (k0 + tot R)) ∧ Below w.heap.size w w' := by
  obtain ⟨a, cap, rfl, h⟩ := hv
  rw [iotaM_len] at h ⊢
  by_cases hz : R = []
  · subst hz
    exact (heldM_zero a cap k0 w).mono fun e w' ⟨he, hw⟩ => ⟨by rw [he]; simp [tot], by subst hw; exact Below.refl _ _⟩
  · obtain ⟨b, rfl, hc⟩ := h (fun e => hz (List.eq_nil_of_length_eq_zero (by rw [← iotaM_len k0 R, e]; rfl)))
    exact heldM_row b R.length cap R k0 w rfl hc h0 h1 hx ht
end Go.Proofs.YtocogipejchneaaDoor
