/-
  Paying with vouchers: the program's payWith.
-/
import Derived.Test.YtgimpmdiilmkoaaDoorPvP
import Derived.Lib.SliceRun
namespace Go.Proofs.YtgimpmdiilmkoaaDoor
open Go Go.RowKit
set_option linter.unusedVariables false

theorem info_vou : (Tryd.prog.info? 101).map (fun i => (i.zero, i.size, i.bytes)) = some (some (.agg #[.int .i32 0, .int .i16 0]), 2, 8) := by kernel_rfl
theorem flatVo_one (ps : List (Int × Int)) : ∀ u ∈ flatVo ps, u.oneCell' = true := by
  intro u hu
  simp only [flatVo, flatE, List.mem_flatMap] at hu
  obtain ⟨p, _, h⟩ := hu
  simp only [encVo, List.mem_cons, List.not_mem_nil, or_false] at h
  rcases h with rfl | rfl <;> rfl
set_option maxHeartbeats 2000000 in
set_option maxRecDepth 100000 in
theorem cloneVo_row (b len cap : Nat) (ps : List (Int × Int)) (hl : ps.length = len) (h12 : len ≤ 12) (w : World) (hc : CellsVo w b ps) :
    Calls Tryd.prog 97 #[.slice (some ⟨b, 0, none⟩) len cap] w fun e w' => ∃ v, e = .returned v ∧ OwnVo 101 w.heap.size w' v ps ∧ Below w.heap.size w w' := by
  subst hl
  obtain ⟨i0, hi, hz0, hz1, hz2⟩ := info_parts info_vou
  have hq := fun (wx : World) => Lib.run_eql_slice_nil (P := Tryd.prog) wx 38 101 (some ⟨b, 0, none⟩) ps.length cap 0 0 Tryd.underlying38
  have hown : (w.alloc (.cells #[] 101)).ownsRow w.heap.size 101 2 (.slice (some ⟨w.heap.size, 0, none⟩) 0 0) 0 [] := World.ownsRow_made w #[] 0 (Nat.le_refl _) (Nat.zero_le _) rfl
  have hb0 : Below w.heap.size w (w.alloc (.cells #[] 101)) := (Below.refl _ _).alloc (Nat.le_refl _) _
  have hnews : ∀ j u, (flatVo ps)[j]? = some u → (w.alloc (.cells #[] 101)).cell? ((⟨b, 0, none⟩ : Addr).add j) = some u := by
    intro j u hj
    have hjl : j < ps.length * 2 := by
      have := (List.getElem?_eq_some_iff.1 hj).1
      rw [flatVo_length] at this
      exact this
    rw [addr_add, Nat.zero_add]
    obtain ⟨c0, c1⟩ := (hc.below hb0) (j / 2) (by omega)
    rcases Nat.mod_two_eq_zero_or_one j with h | h
    · have e : j = j / 2 * 2 := by omega
      rw [e] at hj ⊢
      rw [flatVo_0 ps _ (by omega)] at hj
      rw [c0]; exact hj
    · have e : j = j / 2 * 2 + 1 := by omega
      rw [e] at hj ⊢
      rw [flatVo_1 ps _ (by omega)] at hj
      rw [c1]; exact hj
  have HB := Lib.hid hb0
  have HN := Lib.hid hnews
  have HO := Lib.hid hown
  clear hb0 hnews hown hc
  go_enter Tryd.func97, Tryd.ntmps97
  go_wp2_with (at_builtin; refine wpList_append_own _ rfl _ _ 38 rfl w.heap.size 101 i0 (.agg #[.int .i32 0, .int .i16 0]) 2 8 Tryd.underlying38 hi hz0 hz1 hz2 rfl (by decide) _ _ _ rfl HO.out ⟨b, 0, none⟩ ps.length cap (flatVo ps) rfl (by rw [flatVo_length]) HN.out (flatVo_one ps) (by unfold maxLen; omega) (by omega) (by simp) ?_)
  intro v' w3 hown' hgrow _
  have HO' : Hid (OwnVo 101 w.heap.size w3 v' ps) := Lib.hid (by simpa [OwnVo] using hown')
  have HB' : Hid (Below w.heap.size w w3) := Lib.hid (HB.out.grown hgrow (by simp) (fun j hj => by simp [Value.ownBlock] at hj; omega))
  clear hown' hgrow
  go_wp2
  go_ret
  exact ⟨_, rfl, HO'.out, HB'.out⟩

theorem ret_vd {v : Value} {a b : Int} (h : a = b) : Ending.returned (.tuple #[v, .int .i64 a]) = .returned (.tuple #[v, .int .i64 b]) := by rw [h]
theorem vset_same {ps : List (Int × Int)} {i : Nat} {x : Int × Int} (h : vAt ps i = x) (hi : i < ps.length) : ps.set i x = ps := by
  refine List.ext_getElem (by simp) fun j h1 h2 => ?_
  rw [List.getElem_set]
  split
  · rename_i e; subst e; rw [← h]; simp [vAt, List.getD, hi]
  · rfl
theorem OwnVo.put {T : TypeId} {B g c n i : Nat} {w : World} {ps : List (Int × Int)} {x0 x1 : Int} (h : OwnVo T B w (.slice (some ⟨g, 0, none⟩) n c) ps) (hl : ps.length = n) (hi : i < n) :
    OwnVo T B ((w.setCell ⟨g, i * 2, none⟩ (.int .i32 x0)).setCell ⟨g, i * 2 + 1, none⟩ (.int .i16 x1)) (.slice (some ⟨g, 0, none⟩) n c) (ps.set i (x0, x1)) := by
  have h : w.ownsRow B T 2 (.slice (some ⟨g, 0, none⟩) n c) n (flatVo ps) := by have h' := h; unfold OwnVo at h'; rw [hl] at h'; exact h'
  have S1 := World.ownsRow.stored h (i * 2) (.int .i32 x0)
  have S2 := S1.1.stored (i * 2 + 1) (.int .i16 x1)
  have SS := S2.1
  rw [flatVo_set ps i x0 x1 (by omega)] at SS
  unfold OwnVo
  rw [List.length_set, hl]
  exact SS
theorem OwnVo.at2 {T : TypeId} {B g c n i : Nat} {w : World} {ps : List (Int × Int)} (h : OwnVo T B w (.slice (some ⟨g, 0, none⟩) n c) ps) (hl : ps.length = n) (hi : i < n) :
    w.cell? ⟨g, i * 2, none⟩ = some (.int .i32 (vAt ps i).1) ∧ w.cell? ⟨g, i * 2 + 1, none⟩ = some (.int .i16 (vAt ps i).2) ∧ ∀ j, w.frozen? ⟨g, j, none⟩ = false := by
  rcases h.cases with ⟨e, _⟩ | ⟨g', c', e, _, _, _, _, hc, hf⟩
  · cases e
  · simp only [Value.slice.injEq, Option.some.injEq, Addr.mk.injEq] at e
    obtain ⟨⟨rfl, _⟩, _⟩ := e
    obtain ⟨q0, q1⟩ := hc i (by omega)
    exact ⟨q0, q1, hf⟩
theorem OwnU.other {lo g n : Nat} {w : World} {ns : List Nat} (h : OwnU lo w g n ns) {a : Addr} (u : Value) (ha : a.block < lo) : OwnU lo (w.setCell a u) g n ns := ⟨h.1, own_set h.2 u ha⟩

set_option maxHeartbeats 4000000 in
set_option maxRecDepth 100000 in
theorem ipayWith_row (b n cap : Nat) (ps : List (Int × Int)) (day due : Int) (hl : ps.length = n) (h12 : n ≤ 12) (h1 : 1 ≤ n) (hok : OkVoTo ps ps.length) (h0 : 0 ≤ due) (hM : due ≤ 1000000) (w : World) (hc : CellsVo w b ps) :
    Calls Tryd.prog 71 #[.slice (some ⟨b, 0, none⟩) n cap, .int .i64 day, .int .i64 due] w fun e w' => ∃ v ms, e = .returned (.tuple #[v, .int .i64 (payK ps day due ms n).2]) ∧ ms.Perm (List.range n) ∧ SortedU ps ms n ∧ OwnVo 101 w.heap.size w' v (payK ps day due ms n).1 ∧ Below w.heap.size w w' := by
  have HL := Lib.hid hl
  have HOK := Lib.hid hok
  have HC := Lib.hid hc
  have hbl : b < w.heap.size := World.block_lt_of_cell? w _ (hc 0 (by omega)).1
  clear hl hok hc
  go_enter Tryd.func71, Tryd.ntmps71
  go_wp2_with fail
  refine (cloneVo_row b n cap ps HL.out h12 w HC.out).mono ?_
  rintro e w1 ⟨v, rfl, ho, b1⟩
  have hbk := ho.block
  obtain ⟨g, c, rfl⟩ : ∃ g c, v = .slice (some ⟨g, 0, none⟩) n c := by
    rcases ho.cases with ⟨_, e⟩ | ⟨g, c, e, _⟩
    · rw [e] at HL; have := HL.out; simp at this; omega
    · exact ⟨g, c, by rw [e, HL.out]⟩
  obtain ⟨hg0, hg1⟩ := hbk g rfl
  have HO := Lib.hid ho
  have HB1 := Lib.hid b1
  have hs1 := b1.size
  clear ho b1 hbk
  go_wp2_with fail
  refine (idxU_any _ n b cap ps w1 HL.out h12 (fun _ => rfl) (HC.out.below HB1.out)).mono ?_
  rintro e w2 ⟨q, ms, rfl, hou, hp, hs, b2⟩
  have hq := hou.2.lt q rfl
  obtain ⟨hq0, hq1⟩ := hq
  have HOU := Lib.hid hou
  have HP := Lib.hid hp
  have HS := Lib.hid hs
  have HO2 := Lib.hid (HO.out.below b2)
  have HB2 : Hid (Below w.heap.size w w2) := Lib.hid (blink HB1.out b2)
  have hs2 := b2.size
  clear hou hp hs b2
  go_wp2_with fail
  go_loopw [2, 18] (fun d i wr => ∃ k : Nat, k ≤ n ∧ i = .int .i64 k ∧ d = .int .i64 (payK ps day due ms k).2 ∧ OwnVo 101 w.heap.size wr (.slice (some ⟨g, 0, none⟩) n c) (payK ps day due ms k).1 ∧ OwnU w1.heap.size wr q n ms ∧ Below w.heap.size w wr) (fun _ i _ => n - (intOf i).toNat)
  case atStart => exact ⟨0, Nat.zero_le _, rfl, rfl, HO2.out, HOU.out, HB2.out⟩
  case round =>
    obtain ⟨k, hk, rfl, rfl, ho, hou, hww⟩ := hrel
    have HO3 := Lib.hid ho
    have HU3 := Lib.hid hou
    have HB := Lib.hid hww
    have hws := hww.size
    have hdu := due_in (ps := ps) (day := day) (ms := ms) HOK.out h0 k
    have hln := payK_len ps day due ms k
    rw [HL.out] at hln
    by_cases hlt : k < n
    · have c0 := hou.cellAt hlt
      have hml : ms.length = n := by rw [HP.out.length_eq]; simp
      have hin : ms.getD k 0 < n := by
        have h : ms.getD k 0 ∈ ms := by rw [List.getD, List.getElem?_eq_getElem (by omega)]; exact List.getElem_mem _
        exact List.mem_range.1 (HP.out.mem_iff.1 h)
      have hat : vAt (payK ps day due ms k).1 (ms.getD k 0) = vAt ps (ms.getD k 0) := payK_at (fun j hj => by
        have hnd : ms.Nodup := HP.out.nodup_iff.2 List.nodup_range
        rw [List.getD, List.getD, List.getElem?_eq_getElem (show j < ms.length by omega), List.getElem?_eq_getElem (show k < ms.length by omega)]
        intro e
        have := (List.getElem_inj hnd).1 (by simpa using e)
        omega)
      have hST : payK ps day due ms (k + 1) = stepP ps day (payK ps day due ms k) (ms.getD k 0) := rfl
      have hx := HOK.out (ms.getD k 0) (by have := HL.out; omega)
      obtain ⟨e0, e1⟩ := (HC.out.below hww) (ms.getD k 0) (by have := HL.out; omega)
      obtain ⟨i, hi⟩ : ∃ i, ms.getD k 0 = i := ⟨_, rfl⟩
      rw [hi] at c0 hin hat hST hx e0 e1
      obtain ⟨st, hst⟩ : ∃ st, payK ps day due ms k = st := ⟨_, rfl⟩
      rw [hst] at HO3 hdu hln hat hST ho ⊢
      obtain ⟨ls, du⟩ := st
      obtain ⟨x, hxx⟩ : ∃ x, ps.getD i (0, 0) = x := ⟨_, rfl⟩
      have hxx' : vAt ps i = x := hxx
      rw [hxx] at hx e0 e1
      rw [hxx'] at hat
      obtain ⟨x0, x1⟩ := x
      unfold stepP at hST
      rw [hxx'] at hST
      unfold okVo at hx
      simp only at hx e0 e1 hST hdu hln hat
      obtain ⟨⟨p0, p1⟩, p2, p3⟩ := hx
      obtain ⟨u0, u1⟩ := hdu
      have hik : (i : Int) < (n : Int) := by omega
      have hkn : (k : Int) < (n : Int) := by omega
      have hdu3 : du ≤ 1000000 := by omega
      have HHAT := Lib.hid hat
      have HLN := Lib.hid hln
      have HST := Lib.hid hST
      have mC := m_payC
      have mL := m_payL
      clear hST hst hxx hxx' hi hat ho hou hww hml
      by_cases t : x1 < day
      · have HSL := Lib.hid (slipV_l (x0 := x0) t)
        have HN : Hid (payK ps day due ms (k + 1) = (ls.set i (x0, x1), du)) := Lib.hid (by rw [HST.out, if_pos t, vset_same HHAT.out (by rw [HLN.out]; exact hin)])
        clear t
        go_wp2_with (first
          | (go_at_call 95; refine (islip_any _ _ _ (by omega) (by omega) _).mono ?_; rintro e w3 ⟨rfl, hw3⟩; rw [HSL.out]; subst hw3)
          | (go_at_call 179; refine (ipayL_any _ _ _ _).mono ?_; rintro e w4 ⟨rfl, b4⟩; have hb4 : Below wr.heap.size wr w4 := ((Below.refl _ _).alloc (Nat.le_refl _) _).trans (b4.mono (by simp)); have HO4 := Lib.hid (HO3.out.below hb4); have HU4 := Lib.hid (HU3.out.below hb4); have HB4 : Hid (Below w.heap.size w w4) := Lib.hid (HB.out.trans (hb4.mono hws)); obtain ⟨q0, q1, qf⟩ := HO4.out.at2 HLN.out hin; have qf0 := qf (i * 2); have qf1 := qf (i * 2 + 1); clear qf b4 hb4))
        go_roundw
        case rel => exact ⟨k + 1, by omega, by go_num, by rw [HN.out], by rw [HN.out]; exact HO4.out.put HLN.out hin, (HU4.out.other _ hg1).other _ hg1, (HB4.out.setCell hg0 _).setCell hg0 _⟩
        case measure => simp [intOf]; omega
      · have HSL := Lib.hid (slipV_c (x0 := x0) t)
        have HN : Hid (payK ps day due ms (k + 1) = (ls.set i (x0 - mnI du x0, x1), du - mnI du x0)) := Lib.hid (by rw [HST.out, if_neg t])
        have hmn := mnI_in u0 p0
        obtain ⟨mn, hm⟩ : ∃ mn, mnI du x0 = mn := ⟨_, rfl⟩
        have HM := Lib.hid hm
        rw [hm] at HN hmn
        obtain ⟨g2, g3, g4⟩ := hmn
        clear t hm
        go_wp2_with (first
          | (go_at_call 95; refine (islip_any _ _ _ (by omega) (by omega) _).mono ?_; rintro e w3 ⟨rfl, hw3⟩; rw [HSL.out]; subst hw3)
          | (go_at_call 178; refine (ipayC_any _ _ _ p0 p1 u0 hdu3 _).mono ?_; rintro e w4 ⟨rfl, b4⟩; rw [HM.out]; have hb4 : Below wr.heap.size wr w4 := ((Below.refl _ _).alloc (Nat.le_refl _) _).trans (b4.mono (by simp)); have HO4 := Lib.hid (HO3.out.below hb4); have HU4 := Lib.hid (HU3.out.below hb4); have HB4 : Hid (Below w.heap.size w w4) := Lib.hid (HB.out.trans (hb4.mono hws)); obtain ⟨q0, q1, qf⟩ := HO4.out.at2 HLN.out hin; have qf0 := qf (i * 2); have qf1 := qf (i * 2 + 1); clear qf b4 hb4))
        go_roundw
        case rel => exact ⟨k + 1, by omega, by go_num, by rw [HN.out], by rw [HN.out]; exact HO4.out.put HLN.out hin, (HU4.out.other _ hg1).other _ hg1, (HB4.out.setCell hg0 _).setCell hg0 _⟩
        case measure => simp [intOf]; omega
    · have hk' : k = n := by omega
      have HO5 : Hid (OwnVo 101 w.heap.size wr (.slice (some ⟨g, 0, none⟩) n c) (payK ps day due ms n).1) := Lib.hid (by have h := ho; rw [hk'] at h; exact h)
      have HD5 : Hid ((payK ps day due ms k).2 = (payK ps day due ms n).2) := Lib.hid (by rw [hk'])
      obtain ⟨d5, hd5⟩ : ∃ d, (payK ps day due ms k).2 = d := ⟨_, rfl⟩
      rw [hd5] at HD5 ⊢
      clear hk' ho hou hww hdu hln hd5
      go_wp2_with fail
      go_ret2
      exact ⟨_, ms, ret_vd HD5.out, HP.out, HS.out, HO5.out, HB.out⟩
end Go.Proofs.YtgimpmdiilmkoaaDoor
