/-
  Reading the text of bags: the program's.
-/
import Derived.Test.YtbclmafplaipaaaDoorRdBagsV
import Derived.Test.YtbclmafplaipaaaDoorLaySpl
import Derived.Shelf.Strings.Split
import Derived.Lib.ConvBytes
import Derived.Lib.AtoiErrMem
namespace Go.Proofs.YtbclmafplaipaaaDoor
open Go Go.RowKit
set_option linter.unusedVariables false

/-- What the library's variable holds. -/
def MlW (w : World) : Prop := ∃ m, w.cell? ⟨0, 0, none⟩ = some (.int .i64 m)
theorem MlW.below {w w' : World} (h : MlW w) (hb : Below w.heap.size w w') : MlW w' := by
  obtain ⟨m, h1⟩ := h
  exact ⟨m, (hb.cell (World.block_lt_of_cell? w _ h1)).trans h1⟩
theorem str_ofB (s : ByteArray) : s = str s.data.toList := by
  unfold str
  apply ByteArray.ext
  simp
theorem isplm_any (l : List UInt8) (b : UInt8) (hl : l.length ≤ 1048576) (w : World) (h : MlW w) :
    Calls Tryd.prog 69 #[.string (str l), .string ⟨#[b]⟩] w fun e w' => ∃ g, e = .returned (.slice (some ⟨g, 0, none⟩) (spl b l).length (spl b l).length) ∧ OwnW w.heap.size w' (.slice (some ⟨g, 0, none⟩) (spl b l).length (spl b l).length) (spl b l) ∧ Below w.heap.size w w' := by
  obtain ⟨x, hx⟩ := h
  have k := Go.Proofs.Any.strings_Split laySpl2 (by kernel_rfl) (str l) ⟨#[b]⟩ x w (by rw [str_size]; omega) hx (Nat.le_refl 1)
  have hc : Lib.countB (str l) ⟨#[b]⟩ = Lib.count l [b] := by show Lib.count (str l).data.toList [b] = _; rw [data_str]
  have e1 : (Lib.splitB ⟨#[b]⟩ 0 (Lib.countB (str l) ⟨#[b]⟩) (str l)).map (·.data.toList) = spl b l := by
    rw [Lib.splitB_data, data_str, hc]
    exact split_is b _ l rfl
  have e2 : Lib.splitB ⟨#[b]⟩ 0 (Lib.countB (str l) ⟨#[b]⟩) (str l) = (spl b l).map str := by
    rw [← e1, List.map_map]
    conv => lhs; rw [← List.map_id (Lib.splitB ⟨#[b]⟩ 0 (Lib.countB (str l) ⟨#[b]⟩) (str l))]
    apply List.map_congr_left
    intro a _
    exact str_ofB a
  have e3 : Lib.countB (str l) ⟨#[b]⟩ + 1 = (spl b l).length := by
    rw [← e1, List.length_map, Lib.splitB_all ⟨#[b]⟩ (Nat.le_refl 1) 0 _ (str l) rfl]
  rw [e2, e3] at k
  refine Calls.mono (f := 69) k ?_
  rintro e w' ⟨he, hw⟩
  have hn := spl_count b l
  refine ⟨w.heap.size, he, ?_, by rw [hw]; exact (Below.refl _ _).alloc (Nat.le_refl _) _⟩
  rw [hw]
  refine ⟨by simp, .inr ⟨w.heap.size, _, _, rfl, Nat.le_refl _, heap_alloc_new w _, Nat.le_refl _, by unfold maxLen; omega, by simp, by
    simp only [List.map_map, Nat.mul_one]
    rw [List.take_of_length_le (by simp)]
    rfl⟩⟩
/-- The bytes of a word. -/
theorem conv_bytes (x : List UInt8) (w : World) : ∃ W cp, (convert 9 116 (.string (str x))).run Tryd.prog w = .ok (.slice (some ⟨w.heap.size, 0, none⟩) x.length cp) W ∧ Below w.heap.size w W ∧ w.heap.size < W.heap.size ∧ ∀ j, j < x.length → W.cell? ⟨w.heap.size, j, none⟩ = some (.int .u8 ((x.getD j 0).toNat : Int)) := by
  have h := Lib.run_convert_string_bytes (P := Tryd.prog) w 9 116 5 (str x) (u := .string) Tryd.underlying9 Tryd.underlying116 Tryd.underlying5
  rw [str_size] at h
  refine ⟨_, _, h, Lib.bytesWorld_below _ _ _, by rw [Lib.bytesWorld_size]; omega, fun j hj => ?_⟩
  rw [Lib.bytesWorld_cell _ _ _ j (by rw [str_size]; exact hj), data_str]

theorem one_intB (d : Int) : ∀ u ∈ [Value.int .i64 d], u.oneCell' = true := fun u hu => by simp at hu; subst hu; rfl
set_option maxHeartbeats 1600000 in
set_option maxRecDepth 100000 in
theorem ireadBags_any (l : List UInt8) (hl : l.length ≤ 1048576) (w : World) (hm : MlW w) :
    Calls Tryd.prog 32 #[.string (str l)] w (RetRdB w (rdRBags l) (rdCBags l)) := by
  obtain ⟨o0, ho0, oz0, oz1, oz2⟩ := info_parts info_rows
  obtain ⟨i0, hi, hz0, hz1, hz2⟩ := info_parts info_i64
  obtain ⟨rr, hrr⟩ : ∃ r, rdRBags l = r := ⟨_, rfl⟩
  obtain ⟨rc, hrc⟩ : ∃ r, rdCBags l = r := ⟨_, rfl⟩
  rw [hrr, hrc]
  have HSP := Lib.hid (isplm_any l 47 hl w hm)
  have HBAD : Hid (vldM (bagsOf l) = false → rr = [] ∧ rc = 5) := Lib.hid (fun h => by rw [← hrr, ← hrc]; exact rdBags_no h)
  have HYES : Hid (vldM (bagsOf l) = true → rr = bagsOf l ∧ rc = 0) := Lib.hid (fun h => by rw [← hrr, ← hrc]; exact rdBags_yes h)
  have HBLEN := bagsOf_len l
  have HAT := Lib.hid (bagsOf_at l)
  obtain ⟨ws, hws⟩ : ∃ ws, spl 47 l = ws := ⟨_, rfl⟩
  obtain ⟨R, hR⟩ : ∃ R, bagsOf l = R := ⟨_, rfl⟩
  rw [hws] at HSP HAT HBLEN
  rw [hR] at HBAD HYES HAT HBLEN
  have HWL : Hid (∀ x ∈ ws, x.length ≤ 1048576) := Lib.hid (fun x hx => by rw [← hws] at hx; have := spl_lenB hx; omega)
  have hwn : ws.length ≤ 1048577 := by rw [← hws]; have := spl_count 47 l; omega
  obtain ⟨nw, hnw⟩ : ∃ n, ws.length = n := ⟨_, rfl⟩
  have HNW := Lib.hid hnw
  rw [hnw] at hwn HBLEN
  have HRL := Lib.hid HBLEN
  clear hws hR hrr hrc hl hnw HBLEN hm
  go_enter Tryd.func32, Tryd.ntmps32
  go_wp2_with fail
  refine HSP.out.mono ?_
  rintro e w1 ⟨g, rfl, ows, b1⟩
  rw [HNW.out] at ows
  rw [HNW.out]
  have hs1 : w.heap.size ≤ w1.heap.size := b1.size
  have HB1 := Lib.hid b1
  have HOW := Lib.hid ows
  clear ows b1 HSP
  go_wp2_with fail
  go_loopw [4, 13] (fun ov iv wr => ∃ (k : Nat) (us : List Value), k ≤ nw ∧ iv = .int .i64 k ∧ wr.ownsRow w.heap.size 114 1 ov k us ∧ (∀ j, j < k → OwnI w.heap.size wr (us.getD j nilS) (R.getD j [])) ∧ DistB us k ∧ OwnW w.heap.size wr (.slice (some ⟨g, 0, none⟩) nw nw) ws ∧ Below w.heap.size w wr) (fun _ i _ => nw - (intOf i).toNat)
  case atStart => exact ⟨0, [], Nat.zero_le _, rfl, World.ownsRow_nil _ _ _ _, fun j hj => absurd hj (by omega), fun i j _ hj => absurd hj (by omega), HOW.out, HB1.out⟩
  case round =>
    obtain ⟨wo, hwo⟩ : ∃ wo, wo = wr := ⟨_, rfl⟩
    subst hwo
    obtain ⟨k, us, hk, rfl, hown, hrow, hdist, hw, hb⟩ := hrel
    have HOWN := Lib.hid hown
    have HROW := Lib.hid hrow
    have HDI := Lib.hid hdist
    have HW := Lib.hid hw
    have HB := Lib.hid hb
    have hwr : w.heap.size ≤ wo.heap.size := hb.size
    obtain ⟨la, lc, hlv⟩ := own_is hown
    subst hlv
    have HLEN : Hid (us.length = k) := Lib.hid (by simpa using hown.1)
    by_cases hlt : k < nw
    · obtain ⟨g', hg', _, hg, hcell⟩ := ownW_someB hw (by omega)
      injection hg' with hg'
      injection hg' with hg'
      subst hg'
      have hck := hcell k hlt
      obtain ⟨x, hx⟩ : ∃ x, ws.getD k [] = x := ⟨_, rfl⟩
      rw [hx] at hck
      replace hck : wo.cell? ⟨g, k, none⟩ = some (.string (str x)) := hck
      have hxm : x ∈ ws := by rw [← hx]; simp [List.getD, show k < ws.length by rw [HNW.out]; exact hlt]
      have hxl : x.length ≤ 1048576 := HWL.out x hxm
      obtain ⟨nx, hnx⟩ : ∃ n, x.length = n := ⟨_, rfl⟩
      have HNX := Lib.hid hnx
      have hsz : (str x).size = nx := by rw [str_size, hnx]
      rw [hnx] at hxl
      have HRX : Hid (R.getD k [] = bagOf x) := Lib.hid (by rw [HAT.out k (by rw [HNW.out]; exact hlt), hx])
      have hkn : (k : Int) < (nw : Int) := by omega
      have hk0 : (0 : Int) ≤ (k : Int) := by omega
      have HCK := Lib.hid hck
      have HGL := Lib.hid hg
      obtain ⟨W1, cp, hcv, hb1, hsz1, hby⟩ := conv_bytes x wo
      rw [hnx] at hcv hby
      have HB1' := Lib.hid hb1
      have HBY := Lib.hid hby
      clear hx hxm hcell hw hb hown hrow hdist hnx hg hb1 hby hsz
      go_wp2_with fail
      go_loopw [7, 20] (fun bv jv wr => ∃ j : Nat, j ≤ nx ∧ jv = .int .i64 j ∧ OwnI W1.heap.size wr bv (bagOf (x.take j)) ∧ Below W1.heap.size W1 wr) (fun _ i _ => nx - (intOf i).toNat)
      case atStart => exact ⟨0, Nat.zero_le _, rfl, World.ownsRow_nil _ _ _ _, Below.refl _ _⟩
      case round =>
        obtain ⟨j, hj, rfl, hoi, hbi⟩ := hrel
        have hwi1 : W1.heap.size ≤ wr.heap.size := hbi.size
        have hwi : wo.heap.size ≤ wr.heap.size := by omega
        obtain ⟨ba, bc, hbv⟩ := ownB_is hoi
        have hbl : (bagOf (x.take j)).length = j := by rw [bagOf_len, List.length_take, HNX.out]; omega
        rw [hbl] at hbv
        subst hbv
        have HBL := Lib.hid hbl
        have HOJ := Lib.hid hoi
        have HBW1 := Lib.hid hbi
        have HBJ : Hid (Below wo.heap.size wo wr) := Lib.hid (HB1'.out.trans (hbi.mono (by omega)))
        clear hoi hbi hbl
        by_cases hjl : j < nx
        · have hjn : (j : Int) < (nx : Int) := by omega
          have hj0 : (0 : Int) ≤ (j : Int) := by omega
          obtain ⟨c, hc⟩ : ∃ c : UInt8, x.getD j 0 = c := ⟨_, rfl⟩
          have hcj : wr.cell? ⟨wo.heap.size, j, none⟩ = some (.int .u8 (c.toNat : Int)) := by
            have h := HBY.out j hjl
            rw [hc] at h
            exact (HBW1.out.cell (p := ⟨wo.heap.size, j, none⟩) (World.block_lt_of_cell? W1 _ h)).trans h
          have HSN : Hid (bagOf (x.take (j + 1)) = bagOf (x.take j) ++ [ow c]) := Lib.hid (by rw [bagOf_snoc x j (by rw [HNX.out]; exact hjl), hc])
          have hc256 : c.toNat < 256 := c.toNat_lt
          obtain ⟨q, hq⟩ : ∃ q, c.toNat = q := ⟨_, rfl⟩
          have HOW : Hid (ow c = (q : Int) - 48) := Lib.hid (by unfold ow; rw [hq])
          rw [hq] at hcj hc256
          obtain ⟨d, hd⟩ : ∃ d : Int, (q : Int) - 48 = d := ⟨_, rfl⟩
          have hq2 : (q : Int) = d + 48 := by omega
          have hd1 : -48 ≤ d := by omega
          have hd2 : d ≤ 207 := by omega
          rw [hq2] at hcj
          rw [hd] at HOW
          clear hc hq hd hq2 hc256
          have HOA : Hid ((wr.alloc (.cells #[.int .i64 d] 2)).ownsRow W1.heap.size 2 1 (.slice ba j bc) j ((bagOf (x.take j)).map (Value.int .i64))) := Lib.hid (by have h := World.ownsRow.alloc (show wr.ownsRow W1.heap.size 2 1 (.slice ba j bc) (bagOf (x.take j)).length ((bagOf (x.take j)).map (Value.int .i64)) from HOJ.out) (.cells #[.int .i64 d] 2); rw [HBL.out] at h; exact h)
          have HBA : Hid (Below W1.heap.size W1 (wr.alloc (.cells #[.int .i64 d] 2))) := Lib.hid (HBW1.out.alloc hwi1 _)
          go_wp2_with (at_builtin; refine wpList_append_own _ rfl _ _ 114 rfl W1.heap.size 2 i0 (.int .i64 0) 1 8 Tryd.underlying114 hi hz0 hz1 hz2 rfl (by decide) _ _ _ rfl HOA.out ⟨wr.heap.size, 0, none⟩ 1 1 [.int .i64 d] rfl rfl (cell_one_new _ _ _) (one_intB _) ?c3 ?c4 ?c5 ?_)
          case c3 => unfold maxLen; omega
          case c4 => omega
          case c5 => first | (simp; omega) | omega
          intro v' w9 hown' hgrow _
          have HO9 : Hid (OwnI W1.heap.size w9 v' (bagOf (x.take (j + 1)))) := Lib.hid (by
            rw [HSN.out, HOW.out]
            unfold OwnI
            rw [List.map_append, List.length_append, HBL.out]
            exact hown')
          have HB9 : Hid (Below W1.heap.size W1 w9) := Lib.hid (HBA.out.grown hgrow (by simp; omega) (fun k e => (HOA.out.lt k e).1))
          clear hown' hgrow
          go_wp2_with fail
          go_roundw
          case rel => exact ⟨j + 1, by omega, by go_num, HO9.out, HB9.out⟩
          case measure => simp [intOf]; omega
        · have hjn : j = nx := by omega
          subst hjn
          have HOX : Hid (OwnI wo.heap.size wr (.slice ba j bc) (bagOf x)) := Lib.hid (by have h0 := HOJ.out.mono (Nat.le_of_lt hsz1); have h := h0; rw [List.take_of_length_le (by rw [HNX.out]; exact Nat.le_refl _)] at h; exact h)
          have hwi0 : w.heap.size ≤ wr.heap.size := by omega
          have HNB : Hid (∀ p, (Value.slice ba j bc).ownBlock = some p → wo.heap.size ≤ p) := Lib.hid (fun p hp => (HOX.out.block p hp).1)
          have hown1 := row_below HOWN.out HBJ.out
          have HO1 : Hid (OwnI w.heap.size wr (.slice ba j bc) (bagOf x)) := Lib.hid (HOX.out.mono hwr)
          have HRW := Lib.hid (fun q (hq : q < k) => (HROW.out q hq).below HBJ.out)
          have HN1 : Hid (Below w.heap.size w wr) := Lib.hid (HB.out.trans (HBJ.out.mono hwr))
          have HWA : Hid (OwnW w.heap.size (wr.alloc (.cells #[.slice ba j bc] 114)) (.slice (some ⟨g, 0, none⟩) nw nw) ws) := Lib.hid (ownW_below (ownW_below HW.out HBJ.out) ((Below.refl _ _).alloc (Nat.le_refl _) _))
          have HOWA := Lib.hid (hown1.alloc (.cells #[.slice ba j bc] 114))
          clear hown1
          go_wp2_with (at_builtin; refine wpList_append_own_at _ rfl _ _ 46 rfl w.heap.size 114 o0 (.slice none 0 0) 1 24 Tryd.underlying46 ho0 oz0 oz1 oz2 rfl (by decide) _ _ _ rfl HOWA.out ⟨wr.heap.size, 0, none⟩ 1 1 [.slice ba j bc] rfl rfl (cell_one_new _ _ _) (fun u hu => by simp at hu; subst hu; rfl) ?d3 ?d4 ?d5 ?_)
          case d3 => unfold maxLen; omega
          case d4 => omega
          case d5 => first | (simp; omega) | omega
          intro v' w3 hown' hgrow _ _
          have HROW' : Hid (∀ q, q < k + 1 → OwnI w.heap.size w3 ((us ++ [Value.slice ba j bc]).getD q nilS) (R.getD q [])) := Lib.hid (fun q hq => by
            by_cases e : q = k
            · subst e
              rw [← HLEN.out, getB_last, HLEN.out, HRX.out]
              exact row_keptB (HO1.out.below ((Below.refl _ _).alloc (Nat.le_refl _) _)) HOWA.out hgrow
            · rw [getB_app _ _ _ (by rw [HLEN.out]; omega)]
              exact row_keptB ((HRW.out q (by omega)).below ((Below.refl _ _).alloc (Nat.le_refl _) _)) HOWA.out hgrow)
          have HDI' : Hid (DistB (us ++ [Value.slice ba j bc]) (k + 1)) := Lib.hid (fun i q hiq hq p r hp hr => by
            rw [getB_app _ _ _ (by rw [HLEN.out]; omega)] at hp
            by_cases e : q = k
            · have e2 : (us ++ [Value.slice ba j bc]).getD q nilS = Value.slice ba j bc := by rw [e, ← HLEN.out, getB_last]
              rw [e2] at hr
              have h1 := HNB.out r hr
              have h2 := ((HROW.out i (by omega)).block p hp).2
              omega
            · rw [getB_app _ _ _ (by rw [HLEN.out]; omega)] at hr
              exact HDI.out i q hiq (by omega) p r hp hr)
          have HO' := Lib.hid hown'
          have HW' : Hid (OwnW w.heap.size w3 (.slice (some ⟨g, 0, none⟩) nw nw) ws) := Lib.hid (World.ownsRow.kept HWA.out hgrow (.inr (fun e => row_typesB (by decide) HWA.out HOWA.out _ rfl (by rw [← e]; rfl))))
          have HB' : Hid (Below w.heap.size w w3) := Lib.hid ((HN1.out.alloc hwi0 _).grown hgrow (by simp; omega) (fun j hj => (HOWA.out.lt j hj).1))
          clear hown' hgrow
          go_wp2_with fail
          go_roundw
          case rel => exact ⟨k + 1, us ++ [Value.slice ba j bc], by omega, by go_num, HO'.out, HROW'.out, HDI'.out, HW'.out, HB'.out⟩
          case measure => simp [intOf]; omega
    · have hkw : k = R.length := by rw [HRL.out]; omega
      have HM : Hid (OwnMD w.heap.size wo.heap.size wo (.slice la k lc) R) := Lib.hid (by
        have h1 := HOWN.out
        have h2 := HROW.out
        have h3 := HDI.out
        rw [hkw] at h1 h2 h3 ⊢
        exact ⟨us, h1, h2, fun p hp => (h1.lt p hp).2, fun j hj p hp => ((h2 j hj).block p hp).2, h3⟩)
      have HSV := Lib.hid (ivldB_eq _ R wo HM.out.reads (by rw [HRL.out]; exact hwn) (fun j hj => by
        rw [HAT.out j (by rw [HNW.out, ← HRL.out]; exact hj), bagOf_len]
        exact HWL.out _ (by simp [List.getD, show j < ws.length by rw [HNW.out, ← HRL.out]; exact hj])))
      clear hw hb hown hrow hdist hkw
      go_wp2_with fail
      refine HSV.out.mono ?_
      rintro e w4 ⟨rfl, rfl⟩
      cases hv : vldM R with
      | false =>
        obtain ⟨e1, e2⟩ := HBAD.out hv
        subst e1; subst e2
        go_wp2_with fail
        go_ret2
        exact ⟨_, rfl, ownB_nil _ _ _, HB.out⟩
      | true =>
        obtain ⟨e1, e2⟩ := HYES.out hv
        subst e1; subst e2
        go_wp2_with fail
        go_ret2
        exact ⟨_, rfl, HM.out, HB.out⟩
end Go.Proofs.YtbclmafplaipaaaDoor
