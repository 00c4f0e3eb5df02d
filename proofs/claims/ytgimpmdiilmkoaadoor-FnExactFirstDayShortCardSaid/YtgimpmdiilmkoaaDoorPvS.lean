/-
  The model's payment with vouchers.
-/
import Derived.Test.YtgimpmdiilmkoaaDoorPvM
import Derived.Test.YtgimpmdiilmkoaaDoorVoS
namespace Go.Proofs.YtgimpmdiilmkoaaDoor
open Go Go.RowKit
set_option linter.unusedVariables false

set_option maxHeartbeats 1000000 in
theorem sminV_any (a b : Int) (w : World) : Calls Tryd.prog 96 #[.int .i64 a, .int .i64 b] w fun e w' => e = .returned (.int .i64 (mnI a b)) ∧ w = w' := by
  by_cases h : a < b
  · have d : decide (a < b) = true := decide_eq_true h
    have HE : Hid (mnI a b = a) := Lib.hid (if_pos (by omega))
    rw [HE.out]
    go_enter Tryd.func96, Tryd.ntmps96
    go_wp2_with fail
    go_ret
    exact ⟨rfl, rfl⟩
  · have d : decide (a < b) = false := decide_eq_false h
    have HE : Hid (mnI a b = b) := Lib.hid (by unfold mnI; split <;> omega)
    rw [HE.out]
    go_enter Tryd.func96, Tryd.ntmps96
    go_wp2_with fail
    go_ret
    exact ⟨rfl, rfl⟩
theorem info_bool : (Tryd.prog.info? 4).map (fun i => (i.zero, i.size, i.bytes)) = some (some (.bool false), 1, 1) := by kernel_rfl

theorem news_vo {W : World} {b : Nat} {ps : List (Int × Int)} (hc : CellsVo W b ps) : ∀ j u, (flatVo ps)[j]? = some u → W.cell? ((⟨b, 0, none⟩ : Addr).add j) = some u := by
  intro j u hj
  have hjl : j < ps.length * 2 := by
    have := (List.getElem?_eq_some_iff.1 hj).1
    rw [flatVo_length] at this
    exact this
  rw [addr_add, Nat.zero_add]
  obtain ⟨c0, c1⟩ := hc (j / 2) (by omega)
  rcases Nat.mod_two_eq_zero_or_one j with h | h
  · have e : j = j / 2 * 2 := by omega
    rw [e] at hj ⊢
    rw [flatVo_0 ps _ (by omega)] at hj
    rw [c0]; exact hj
  · have e : j = j / 2 * 2 + 1 := by omega
    rw [e] at hj ⊢
    rw [flatVo_1 ps _ (by omega)] at hj
    rw [c1]; exact hj
theorem OwnVo.far {T : TypeId} {B g c n : Nat} {w : World} {ps : List (Int × Int)} (h : OwnVo T B w (.slice (some ⟨g, 0, none⟩) n c) ps) {a : Addr} (u : Value) (ha : g ≠ a.block) : OwnVo T B (w.setCell a u) (.slice (some ⟨g, 0, none⟩) n c) ps := by
  refine ⟨h.1, ?_⟩
  rcases h.2 with hn | ⟨g', cap, cur, e, hB, hg, rest⟩
  · exact .inl hn
  · refine .inr ⟨g', cap, cur, e, hB, ?_, rest⟩
    have eg : g = g' := by simp at e; exact e.1
    rw [heap_setCell_other _ a g' u (by rw [← eg]; exact ha)]
    exact hg
theorem OwnVo.put0 {T : TypeId} {B g c n i : Nat} {w : World} {ps : List (Int × Int)} {x0 x1 : Int} (h : OwnVo T B w (.slice (some ⟨g, 0, none⟩) n c) ps) (hl : ps.length = n) (hi : i < n) (hx : (vAt ps i).2 = x1) :
    OwnVo T B (w.setCell ⟨g, i * 2, none⟩ (.int .i32 x0)) (.slice (some ⟨g, 0, none⟩) n c) (ps.set i (x0, x1)) := by
  have h : w.ownsRow B T 2 (.slice (some ⟨g, 0, none⟩) n c) n (flatVo ps) := by have h' := h; unfold OwnVo at h'; rw [hl] at h'; exact h'
  have SS := (World.ownsRow.stored h (i * 2) (.int .i32 x0)).1
  have e := flatE_set encVo_len ps i 0 (.int .i32 x0) (x0, (ps[i]'(by omega)).2) (by omega) (by omega) rfl
  rw [Nat.add_zero] at e
  have e2 : (ps[i]'(by omega)).2 = x1 := by rw [← hx]; simp [vAt, List.getD, show i < ps.length by omega]
  rw [e2] at e
  unfold OwnVo
  rw [List.length_set, hl]
  unfold flatVo at SS ⊢
  rw [e] at SS
  exact SS

set_option maxHeartbeats 4000000 in
set_option maxRecDepth 100000 in
theorem spay_row (b n cap : Nat) (ps : List (Int × Int)) (day due : Int) (hl : ps.length = n) (h12 : n ≤ 12) (h1 : 1 ≤ n) (hok : OkVoTo ps ps.length) (h0 : 0 ≤ due) (hM : due ≤ 1000000) (w : World) (hc : CellsVo w b ps) :
    Calls Tryd.prog 70 #[.slice (some ⟨b, 0, none⟩) n cap, .int .i64 day, .int .i64 due] w fun e w' => ∃ v, e = .returned (.tuple #[v, .int .i64 (payD ps day due)]) ∧ OwnVo 101 w.heap.size w' v (payL ps day due) ∧ Below w.heap.size w w' := by
  obtain ⟨i0, hi, hz0, hz1, hz2⟩ := info_parts info_vou
  obtain ⟨j0, hj, hjz0, hjz1, hjz2⟩ := info_parts info_bool
  have HL := Lib.hid hl
  have HOK := Lib.hid hok
  have hown : (w.alloc (.cells #[] 101)).ownsRow w.heap.size 101 2 (.slice (some ⟨w.heap.size, 0, none⟩) 0 0) 0 [] := World.ownsRow_made w #[] 0 (Nat.le_refl _) (Nat.zero_le _) rfl
  have hb0 : Below w.heap.size w (w.alloc (.cells #[] 101)) := (Below.refl _ _).alloc (Nat.le_refl _) _
  have HN := Lib.hid (news_vo (hc.below hb0))
  have HB0 := Lib.hid hb0
  have HO := Lib.hid hown
  clear hl hok hc hown hb0
  go_enter Tryd.func70, Tryd.ntmps70
  go_wp2_with (at_builtin; refine wpList_append_own _ rfl _ _ 38 rfl w.heap.size 101 i0 (.agg #[.int .i32 0, .int .i16 0]) 2 8 Tryd.underlying38 hi hz0 hz1 hz2 rfl (by decide) _ _ _ rfl HO.out ⟨b, 0, none⟩ n cap (flatVo ps) rfl (by rw [flatVo_length, HL.out]) HN.out (flatVo_one ps) (by unfold maxLen; omega) (by omega) (by simp) ?_)
  intro v' w3 hown' hgrow _
  have ho : OwnVo 101 w.heap.size w3 v' ps := by
    unfold OwnVo
    rw [HL.out]
    simpa using hown'
  have HB' : Hid (Below w.heap.size w w3) := Lib.hid (HB0.out.grown hgrow (by simp) (fun j hj => by simp [Value.ownBlock] at hj; omega))
  have hbk := ho.block
  obtain ⟨g, c, rfl⟩ : ∃ g c, v' = .slice (some ⟨g, 0, none⟩) n c := by
    rcases ho.cases with ⟨_, e⟩ | ⟨g, c, e, _⟩
    · rw [e] at HL; have := HL.out; simp at this; omega
    · exact ⟨g, c, by rw [e, HL.out]⟩
  obtain ⟨hg0, hg1⟩ := hbk g rfl
  have HO3 := Lib.hid ho
  clear hown' hgrow ho hbk
  go_wp2_with (refine wpList_make_full _ rfl _ _ 142 rfl w3.heap.size 4 j0 (.bool false) 1 Tryd.underlying142 hj hjz0 hjz1 .i64 .i64 _ _ n rfl rfl rfl rfl (by rw [hjz2]; omega) (by unfold maxLen; omega) (Nat.le_refl _) ?_; intro w4 hown1 hg4)
  have hs34 : w3.heap.size < w4.heap.size := (hown1.lt w3.heap.size rfl).2
  have hb34 : Below w3.heap.size w3 w4 := (Below.refl _ _).grown hg4 (Nat.le_refl _) (fun k hk => by simp at hk)
  have HB4 : Hid (Below w.heap.size w w4) := Lib.hid (HB'.out.trans (hb34.mono (by omega)))
  have HO4 := Lib.hid (HO3.out.below hb34)
  have HU4 : Hid (OwnBo 4 w3.heap.size w4 w3.heap.size n (List.replicate n false)) := Lib.hid (by
    refine ⟨by simp, ?_⟩
    rw [List.map_replicate]
    have e : (madeCells (Value.bool false).cells (n * 1)).toList = List.replicate n (.bool false) := by rw [Nat.mul_one]; exact toList_madeCells_one _ _
    rw [← e]
    exact hown1)
  have HUS : Hid (UsedU ps day (List.replicate n false) 0) := Lib.hid (fun i hi => ⟨fun h => by simp [List.getD, List.getElem?_replicate] at h; split at h <;> simp at h, fun ⟨j, hj, _⟩ => absurd hj (by omega)⟩)
  clear hown1 hg4 hb34
  go_wp2_with fail
  go_loopw [2] (fun d wr => ∃ (t : Nat) (us : List Bool), t ≤ n ∧ d = .int .i64 (payK ps day due (srtU ps) t).2 ∧ OwnVo 101 w.heap.size wr (.slice (some ⟨g, 0, none⟩) n c) (payK ps day due (srtU ps) t).1 ∧ OwnBo 4 w3.heap.size wr w3.heap.size n us ∧ UsedU ps day us t ∧ Below w.heap.size w wr) (fun _ wr => n - cntW n w3.heap.size wr)
  case atStart => exact ⟨0, List.replicate n false, Nat.zero_le _, rfl, HO4.out, HU4.out, HUS.out, HB4.out⟩
  case round =>
    obtain ⟨t, us, ht, rfl, ho, hus, hud, hww⟩ := hrel
    obtain ⟨wo, rfl⟩ : ∃ V, V = wr := ⟨wr, rfl⟩
    have HO5 := Lib.hid ho
    have HU5 := Lib.hid hus
    have HD5 := Lib.hid hud
    have HB5 := Lib.hid hww
    have hwo := hww.size
    have hsz : w3.heap.size < wo.heap.size := (hus.2.lt _ rfl).2
    have hdu := due_in (ps := ps) (day := day) (ms := srtU ps) HOK.out h0 t
    have hln := payK_len ps day due (srtU ps) t
    rw [HL.out] at hln
    have HUN : Hid (∀ i, (vAt (payK ps day due (srtU ps) t).1 i).2 = (vAt ps i).2) := Lib.hid (fun i => payK_unt _ _ _ _ _ _)
    have HIDL : Hid (BestU ps day us n (-1) → payK ps day due (srtU ps) n = payK ps day due (srtU ps) t) := Lib.hid (fun h => by rw [← HL.out] at h ⊢; exact used_no hud (by have := HL.out; omega) h)
    have HNIL : Hid ((payK ps day due (srtU ps) t).2 = 0 → payK ps day due (srtU ps) n = payK ps day due (srtU ps) t) := Lib.hid (fun h => by rw [← HL.out]; exact payK_nil HOK.out h (by have := HL.out; omega) (Nat.le_refl _))
    have HYES : Hid (∀ bb : Nat, BestU ps day us n (bb : Int) → ∃ u, t ≤ u ∧ u < n ∧ payK ps day due (srtU ps) (u + 1) = ((payK ps day due (srtU ps) t).1.set bb ((vAt ps bb).1 - mnI (payK ps day due (srtU ps) t).2 (vAt ps bb).1, (vAt ps bb).2), (payK ps day due (srtU ps) t).2 - mnI (payK ps day due (srtU ps) t).2 (vAt ps bb).1) ∧ UsedU ps day (us.set bb true) (u + 1) ∧ vAt (payK ps day due (srtU ps) t).1 bb = vAt ps bb) := Lib.hid (fun bb h => by
      rw [← HL.out] at h ⊢
      exact used_yes hud (by have := HL.out; omega) (by rw [hus.1, HL.out]) h)
    have HRD : Hid (payD ps day due = (payK ps day due (srtU ps) n).2) := Lib.hid (by unfold payD; rw [HL.out])
    have HRL : Hid (payL ps day due = (payK ps day due (srtU ps) n).1) := Lib.hid (by unfold payL; rw [HL.out])
    obtain ⟨pn, hpn⟩ : ∃ x, payK ps day due (srtU ps) n = x := ⟨_, rfl⟩
    rw [hpn] at HIDL HNIL HRD HRL
    obtain ⟨st, hst⟩ : ∃ st, payK ps day due (srtU ps) t = st := ⟨_, rfl⟩
    rw [hst] at HO5 hdu hln HUN HIDL HNIL HYES ⊢
    obtain ⟨ls, du⟩ := st
    simp only at hdu hln HUN HNIL HYES
    obtain ⟨u0, u1⟩ := hdu
    have HLN := Lib.hid hln
    clear ho hus hud hww hst hpn hln
    by_cases hd : 0 < du
    · have d0 : decide (0 < du) = true := decide_eq_true hd
      go_wp2_with fail
      go_loopw [10, 11] (fun bs i wr => ∃ (k : Nat) (z : Int), k ≤ n ∧ i = .int .i64 k ∧ bs = .int .i64 z ∧ BestU ps day us k z ∧ Below wo.heap.size wo wr) (fun _ i _ => n - (intOf i).toNat)
      case atStart => exact ⟨0, -1, Nat.zero_le _, rfl, rfl, BestU.start _ _ _, Below.refl _ _⟩
      case round =>
        obtain ⟨k, z, hk, rfl, rfl, hbest, hwj⟩ := hrel
        have HBE := Lib.hid hbest
        have HBJ := Lib.hid hwj
        have hwjs := hwj.size
        have HO6 := Lib.hid (HO5.out.below hwj)
        have HU6 := Lib.hid (HU5.out.below hwj)
        by_cases hlt : k < n
        · have q0 := HU6.out.cellAt hlt
          obtain ⟨_, q1, _⟩ := HO6.out.at2 HLN.out hlt
          rw [HUN.out k] at q1
          obtain ⟨x1, hx1⟩ : ∃ x, (vAt ps k).2 = x := ⟨_, rfl⟩
          rw [hx1] at q1
          have HX1 : Hid (unt ps k = x1) := Lib.hid hx1
          have hxr : 0 ≤ x1 ∧ x1 ≤ 1000 := by have h := (HOK.out k (by have := HL.out; omega)).2; rw [← hx1]; exact h
          obtain ⟨xa, xb⟩ := hxr
          obtain ⟨ub, hub⟩ : ∃ u, us.getD k false = u := ⟨_, rfl⟩
          rw [hub] at q0
          have HUB := Lib.hid hub
          have hkn : (k : Int) < (n : Int) := by omega
          clear hbest hwj hx1 hub
          cases ub
          · by_cases t1 : day ≤ x1
            · have e1 : decide (day ≤ x1) = true := decide_eq_true t1
              have HOKU : Hid (okU ps day us k) := Lib.hid ⟨HUB.out, by rw [HX1.out]; exact t1⟩
              clear t1
              by_cases t2 : z < 0
              · have e2 : decide (z < 0) = true := decide_eq_true t2
                have HNX : Hid (BestU ps day us (k + 1) (k : Int)) := Lib.hid (by
                  have h := HBE.out
                  have hz : z = -1 := by rcases h with ⟨e, _⟩ | ⟨b', e, _⟩ <;> omega
                  subst hz; exact h.first HOKU.out)
                clear t2
                go_wp2_with fail
                go_quiet (fail)
                go_wp2_with fail
                go_roundw
                case rel => exact ⟨k + 1, (k : Int), by omega, by go_num, rfl, HNX.out, below_drewN HBJ.out _⟩
                case measure => simp [intOf]; omega
              · have e2 : decide (z < 0) = false := decide_eq_false t2
                obtain ⟨bb, rfl⟩ := Int.eq_ofNat_of_zero_le (show 0 ≤ z by omega)
                have hbk : bb < k := HBE.out.lt
                obtain ⟨_, p1, _⟩ := HO6.out.at2 HLN.out (show bb < n by omega)
                rw [HUN.out bb] at p1
                obtain ⟨y1, hy1⟩ : ∃ x, (vAt ps bb).2 = x := ⟨_, rfl⟩
                rw [hy1] at p1
                have HY1 : Hid (unt ps bb = y1) := Lib.hid hy1
                have hbn : (bb : Int) < (n : Int) := by omega
                have hbn2 : bb < n := by omega
                clear t2 hy1
                by_cases t3 : x1 < y1
                · have e3 : decide (x1 < y1) = true := decide_eq_true t3
                  have HNX : Hid (BestU ps day us (k + 1) (k : Int)) := Lib.hid (HBE.out.less HOKU.out (by rw [HX1.out, HY1.out]; exact t3))
                  clear t3
                  go_wp2_with fail
                  go_quiet (fail)
                  go_wp2_with fail
                  go_roundw
                  case rel => exact ⟨k + 1, (k : Int), by omega, by go_num, rfl, HNX.out, below_drewN HBJ.out _⟩
                  case measure => simp [intOf]; omega
                · have e3 : decide (x1 < y1) = false := decide_eq_false t3
                  have HNX : Hid (BestU ps day us (k + 1) (bb : Int)) := Lib.hid (HBE.out.keep (by rw [HX1.out, HY1.out]; exact t3))
                  clear t3
                  go_wp2_with fail
                  go_quiet (fail)
                  go_wp2_with fail
                  go_roundw
                  case rel => exact ⟨k + 1, (bb : Int), by omega, by go_num, rfl, HNX.out, below_drewN HBJ.out _⟩
                  case measure => simp [intOf]; omega
            · have e1 : decide (day ≤ x1) = false := decide_eq_false t1
              have HNX : Hid (BestU ps day us (k + 1) z) := Lib.hid (HBE.out.skip (fun h => t1 (by have := h.2; rw [HX1.out] at this; exact this)))
              clear t1
              go_wp2_with fail
              go_quiet (fail)
              go_wp2_with fail
              go_roundw
              case rel => exact ⟨k + 1, z, by omega, by go_num, rfl, HNX.out, below_drewN HBJ.out _⟩
              case measure => simp [intOf]; omega
          · have HNX : Hid (BestU ps day us (k + 1) z) := Lib.hid (HBE.out.skip (fun h => by have := h.1; rw [HUB.out] at this; cases this))
            go_wp2_with fail
            go_quiet (fail)
            go_wp2_with fail
            go_roundw
            case rel => exact ⟨k + 1, z, by omega, by go_num, rfl, HNX.out, below_drewN HBJ.out _⟩
            case measure => simp [intOf]; omega
        · have hk' : k = n := by omega
          rw [hk'] at HBE
          clear hk' hbest hwj
          have HBW : Hid (Below w.heap.size w wr) := Lib.hid (HB5.out.trans (HBJ.out.mono hwo))
          by_cases t2 : z < 0
          · have e2 : decide (z < 0) = true := decide_eq_true t2
            have HFI : Hid (pn = (ls, du)) := Lib.hid (HIDL.out (by
              have h := HBE.out
              have hz : z = -1 := by rcases h with ⟨e, _⟩ | ⟨b', e, _⟩ <;> omega
              subst hz; exact h))
            clear t2
            go_wp2_with fail
            go_ret2
            exact ⟨_, ret_vd (by rw [HRD.out, HFI.out]), by rw [HRL.out, HFI.out]; exact HO6.out, HBW.out⟩
          · have e2 : decide (z < 0) = false := decide_eq_false t2
            obtain ⟨bb, rfl⟩ := Int.eq_ofNat_of_zero_le (show 0 ≤ z by omega)
            have hbn : bb < n := HBE.out.lt
            obtain ⟨u, hu1, hu2, hu3, hu4, hu5⟩ := HYES.out bb HBE.out
            have hamt := amt_in HOK.out bb
            obtain ⟨p0, p1, pf⟩ := HO6.out.at2 HLN.out hbn
            rw [hu5] at p0 p1
            obtain ⟨x, hx⟩ : ∃ x, vAt ps bb = x := ⟨_, rfl⟩
            rw [hx] at hu3 hu5 p0 p1 hamt
            obtain ⟨x0, x1⟩ := x
            simp only at hu3 p0 p1 hamt
            obtain ⟨ha0, ha1⟩ := hamt
            have hmn := mnI_in u0 ha0
            obtain ⟨mn, hm⟩ : ∃ mn, mnI du x0 = mn := ⟨_, rfl⟩
            rw [hm] at hu3 hmn
            have HM := Lib.hid hm
            obtain ⟨m0, m1, m2⟩ := hmn
            have HU3 := Lib.hid hu3
            have HU9 := Lib.hid hu4
            have HAT := Lib.hid hu5
            have HBEST := Lib.hid HBE.out
            have q0 := HU6.out.cellAt hbn
            have qf := World.ownsRow.frozenAt HU6.out.2 bb
            have pf0 := pf (bb * 2)
            have hbn' : (bb : Int) < (n : Int) := by omega
            have hgh : w3.heap.size ≠ g := by omega
            have y0 : ∀ v, (wr.setCell ⟨w3.heap.size, bb, none⟩ v).cell? ⟨g, bb * 2, none⟩ = some (.int .i32 x0) := fun v => bset_far hgh p0
            have HUN2 : Hid (us.getD bb false = false) := Lib.hid (by
              rcases HBE.out with ⟨e, _⟩ | ⟨b', e, _, ho, _⟩
              · omega
              · obtain rfl : bb = b' := by omega
                exact ho.1)
            have HOZ : Hid (OwnVo 101 w.heap.size ((wr.setCell ⟨w3.heap.size, bb, none⟩ (.bool true)).setCell ⟨g, bb * 2, none⟩ (.int .i32 (x0 - mn))) (.slice (some ⟨g, 0, none⟩) n c) (ls.set bb (x0 - mn, x1))) := Lib.hid ((HO6.out.far _ (by simp only; omega)).put0 HLN.out hbn (by rw [HAT.out]))
            have HUZ : Hid (OwnBo 4 w3.heap.size ((wr.setCell ⟨w3.heap.size, bb, none⟩ (.bool true)).setCell ⟨g, bb * 2, none⟩ (.int .i32 (x0 - mn))) w3.heap.size n (us.set bb true)) := Lib.hid ((HU6.out.store bb true).other _ hg1)
            have HBZ : Hid (Below w.heap.size w ((wr.setCell ⟨w3.heap.size, bb, none⟩ (.bool true)).setCell ⟨g, bb * 2, none⟩ (.int .i32 (x0 - mn)))) := Lib.hid ((HBW.out.setCell (by simp only; omega) _).setCell hg0 _)
            clear t2 hx hu3 hu4 hu5 hm pf
            go_wp2_with (go_at_call 96; refine (sminV_any _ _ _).mono ?_; rintro e w9 ⟨rfl, rfl⟩; rw [HM.out])
            go_roundw
            case rel => exact ⟨u + 1, us.set bb true, by omega, by rw [HU3.out], by rw [HU3.out]; exact HOZ.out, HUZ.out, HU9.out, HBZ.out⟩
            case measure =>
              rw [HUZ.out.cnt, HU5.out.cnt]
              have h1 := cnt_up HU5.out.1 hbn HUN2.out
              have h2 := cntU_le (fun i => (us.set bb true).getD i false) n
              omega
    · have d0 : decide (0 < du) = false := decide_eq_false hd
      have HFI : Hid (pn = (ls, du)) := Lib.hid (HNIL.out (by omega))
      clear hd
      go_wp2_with fail
      go_ret2
      exact ⟨_, ret_vd (by rw [HRD.out, HFI.out]), by rw [HRL.out, HFI.out]; exact HO5.out, HB5.out⟩
end Go.Proofs.YtgimpmdiilmkoaaDoor
