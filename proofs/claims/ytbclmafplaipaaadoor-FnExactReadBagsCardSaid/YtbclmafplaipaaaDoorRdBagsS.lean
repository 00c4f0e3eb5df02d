/-
  Reading the text of bags: the model's.
-/
import Derived.Test.YtbclmafplaipaaaDoorRdBagsV
namespace Go.Proofs.YtbclmafplaipaaaDoor
open Go Go.RowKit
set_option linter.unusedVariables false

theorem one_int (d : Int) : ∀ u ∈ [Value.int .i64 d], u.oneCell' = true := fun u hu => by simp at hu; subst hu; rfl
set_option maxHeartbeats 1600000 in
set_option maxRecDepth 100000 in
theorem sreadBags_any (l : List UInt8) (hl : l.length ≤ 1048576) (w : World) :
    Calls Tryd.prog 31 #[.string (str l)] w (RetRdB w (rdRBags l) (rdCBags l)) := by
  obtain ⟨o0, ho0, oz0, oz1, oz2⟩ := info_parts info_rows
  obtain ⟨i0, hi, hz0, hz1, hz2⟩ := info_parts info_i64
  obtain ⟨rr, hrr⟩ : ∃ r, rdRBags l = r := ⟨_, rfl⟩
  obtain ⟨rc, hrc⟩ : ∃ r, rdCBags l = r := ⟨_, rfl⟩
  rw [hrr, hrc]
  have HSP := Lib.hid (ssplit_any l 47 hl w)
  have HBAD : Hid (vldM (bagsOf l) = false → rr = [] ∧ rc = 5) := Lib.hid (fun h => by rw [← hrr, ← hrc]; exact rdBags_no h)
  have HYES : Hid (vldM (bagsOf l) = true → rr = bagsOf l ∧ rc = 0) := Lib.hid (fun h => by rw [← hrr, ← hrc]; exact rdBags_yes h)
  have HBLEN := bagsOf_len l
  have HAT := Lib.hid (bagsOf_at l)
  have HNO := Lib.hid (fun (k i : Nat) => @bags_bad l k i)
  obtain ⟨ws, hws⟩ : ∃ ws, spl 47 l = ws := ⟨_, rfl⟩
  obtain ⟨R, hR⟩ : ∃ R, bagsOf l = R := ⟨_, rfl⟩
  rw [hws] at HSP HAT HNO HBLEN
  rw [hR] at HBAD HYES HAT HNO HBLEN
  have HWL : Hid (∀ x ∈ ws, x.length ≤ 1048576) := Lib.hid (fun x hx => by rw [← hws] at hx; have := spl_lenB hx; omega)
  have hwn : ws.length ≤ 1048577 := by rw [← hws]; have := spl_count 47 l; omega
  obtain ⟨nw, hnw⟩ : ∃ n, ws.length = n := ⟨_, rfl⟩
  have HNW := Lib.hid hnw
  rw [hnw] at hwn HBLEN
  have HRL := Lib.hid HBLEN
  clear hws hR hrr hrc hl hnw HBLEN
  go_enter Tryd.func31, Tryd.ntmps31
  go_wp2_with fail
  refine HSP.out.mono ?_
  rintro e w1 ⟨sv, rfl, ows, b1⟩
  obtain ⟨sa, sc, hsv⟩ := own_is ows
  rw [HNW.out] at hsv
  subst hsv
  have hs1 : w.heap.size ≤ w1.heap.size := b1.size
  have HOA : Hid ((w1.alloc (.cells #[] 114)).ownsRow w.heap.size 114 1 (.slice (some ⟨w1.heap.size, 0, none⟩) 0 0) 0 []) := Lib.hid (World.ownsRow_made w1 #[] 0 hs1 (Nat.zero_le _) rfl)
  have HB1 : Hid (Below w.heap.size w (w1.alloc (.cells #[] 114))) := Lib.hid (b1.alloc hs1 _)
  have HOW : Hid (OwnW w.heap.size (w1.alloc (.cells #[] 114)) (.slice sa nw sc) ws) := Lib.hid (ownW_below ows ((Below.refl _ _).alloc (Nat.le_refl _) _))
  clear ows b1 HSP
  go_wp2_with fail
  go_loopw [5, 6] (fun ov iv wr => ∃ (k : Nat) (us : List Value), k ≤ nw ∧ iv = .int .i64 k ∧ wr.ownsRow w.heap.size 114 1 ov k us ∧ (∀ j, j < k → OwnI w.heap.size wr (us.getD j nilS) (R.getD j [])) ∧ DistB us k ∧ OwnW w.heap.size wr (.slice sa nw sc) ws ∧ Below w.heap.size w wr) (fun _ i _ => nw - (intOf i).toNat)
  case atStart => exact ⟨0, [], Nat.zero_le _, rfl, HOA.out, fun j hj => absurd hj (by omega), fun i j _ hj => absurd hj (by omega), HOW.out, HB1.out⟩
  case round =>
    obtain ⟨wo, hwo⟩ : ∃ wo, wo = wr := ⟨_, rfl⟩
    subst hwo
    obtain ⟨k, us, hk, rfl, hown, hrow, hdist, hw, hb⟩ := hrel
    have HOWN := Lib.hid hown
    have HROW := Lib.hid hrow
    have HDI := Lib.hid hdist
    have HW := Lib.hid hw
    have HB := Lib.hid hb
    have hwr : w.heap.size ≤ wo.heap.size := hb.size
    obtain ⟨la, lc, hlv⟩ := own_is hown
    subst hlv
    have HLEN : Hid (us.length = k) := Lib.hid (by simpa using hown.1)
    by_cases hlt : k < nw
    · obtain ⟨g, rfl, _, hg, hcell⟩ := ownW_someB hw (by omega)
      have hck := hcell k hlt
      obtain ⟨x, hx⟩ : ∃ x, ws.getD k [] = x := ⟨_, rfl⟩
      rw [hx] at hck
      have hck : wo.cell? ⟨g, k, none⟩ = some (.string (str x)) := hck
      have hxm : x ∈ ws := by rw [← hx]; simp [List.getD, show k < ws.length by rw [HNW.out]; exact hlt]
      have hxl : x.length ≤ 1048576 := HWL.out x hxm
      obtain ⟨nx, hnx⟩ : ∃ n, x.length = n := ⟨_, rfl⟩
      have HNX := Lib.hid hnx
      have hsz : (str x).size = nx := by rw [str_size, hnx]
      rw [hnx] at hxl
      have HRX : Hid (R.getD k [] = bagOf x) := Lib.hid (by rw [HAT.out k (by rw [HNW.out]; exact hlt), hx])
      have HNX2 : Hid (∀ i, i < nx → (x.getD i 0 < 48 ∨ 57 < x.getD i 0) → vldM R = false) := Lib.hid (fun i hi h => HNO.out k i (by rw [HNW.out]; exact hlt) (by rw [hx, hnx]; exact hi) (by rw [hx]; exact h))
      have hkn : (k : Int) < (nw : Int) := by omega
      have hk0 : (0 : Int) ≤ (k : Int) := by omega
      have HCK := Lib.hid hck
      have HGL := Lib.hid hg
      have HOI : Hid (OwnI wo.heap.size (wo.alloc (.cells #[] 2)) (.slice (some ⟨wo.heap.size, 0, none⟩) 0 0) (bagOf (x.take 0))) := Lib.hid (World.ownsRow_made wo #[] 0 (Nat.le_refl _) (Nat.zero_le _) rfl)
      have HBI : Hid (Below wo.heap.size wo (wo.alloc (.cells #[] 2))) := Lib.hid ((Below.refl _ _).alloc (Nat.le_refl _) _)
      clear hx hxm hcell hw hb hown hrow hdist hnx hck hg
      go_wp2_with fail
      go_loopw [7, 8] (fun bv jv wr => ∃ j : Nat, j ≤ nx ∧ jv = .int .i64 j ∧ OwnI wo.heap.size wr bv (bagOf (x.take j)) ∧ Below wo.heap.size wo wr) (fun _ i _ => nx - (intOf i).toNat)
      case atStart => exact ⟨0, Nat.zero_le _, rfl, HOI.out, HBI.out⟩
      case round =>
        obtain ⟨j, hj, rfl, hoi, hbi⟩ := hrel
        have hwi : wo.heap.size ≤ wr.heap.size := hbi.size
        obtain ⟨ba, bc, hbv⟩ := ownB_is hoi
        have hbl : (bagOf (x.take j)).length = j := by rw [bagOf_len, List.length_take, HNX.out]; omega
        rw [hbl] at hbv
        subst hbv
        have HBL := Lib.hid hbl
        have hc1 : wr.cell? ⟨g, k, none⟩ = some (.string (str x)) := (hbi.cell (p := ⟨g, k, none⟩) (World.block_lt_of_cell? wo _ HCK.out)).trans HCK.out
        have HOJ := Lib.hid hoi
        have HBJ := Lib.hid hbi
        clear hoi hbi hbl
        by_cases hjl : j < nx
        · have hjn : (j : Int) < (nx : Int) := by omega
          have hj0 : (0 : Int) ≤ (j : Int) := by omega
          obtain ⟨c, hc⟩ : ∃ c : UInt8, x.getD j 0 = c := ⟨_, rfl⟩
          have hix : ∀ W, (Instr.index 9 (.string (str x)) (.int .i64 (j : Int))).run Tryd.prog W = .ok (.int .u8 (c.toNat : Int)) W := fun W => by
            have := run_at Tryd.prog 9 .i64 x j Tryd.underlying9 (by rw [HNX.out]; exact hjl) W
            rw [hc] at this; exact this
          have hc256 : c.toNat < 256 := c.toNat_lt
          have HST : Hid (c < 48 ∨ 57 < c → rr = [] ∧ rc = 5) := Lib.hid (fun h => HBAD.out (HNX2.out j hjl (by rw [hc]; exact h)))
          have HSN : Hid (bagOf (x.take (j + 1)) = bagOf (x.take j) ++ [ow c]) := Lib.hid (by rw [bagOf_snoc x j (by rw [HNX.out]; exact hjl), hc])
          have HBW : Hid (Below w.heap.size w wr) := Lib.hid (HB.out.trans (HBJ.out.mono hwr))
          have hww : w.heap.size ≤ wr.heap.size := by omega
          have HEM : Hid (OwnMD w.heap.size (wr.alloc (.cells #[] 114)).heap.size (wr.alloc (.cells #[] 114)) (.slice (some ⟨wr.heap.size, 0, none⟩) 0 0) []) := Lib.hid (ownB_new _ _ hww)
          have HBE : Hid (Below w.heap.size w (wr.alloc (.cells #[] 114))) := Lib.hid (HBW.out.alloc hww _)
          clear hc
          by_cases h1 : c.toNat < 48
          · obtain ⟨e1, e2⟩ := HST.out (.inl h1)
            have t1 : decide ((c.toNat : Int) < 48) = true := decide_eq_true (by omega)
            subst e1; subst e2
            clear h1 HST
            go_wp2_with fail
            go_ret2
            exact ⟨_, rfl, HEM.out, HBE.out⟩
          have t1 : decide ((c.toNat : Int) < 48) = false := decide_eq_false (by omega)
          by_cases h2 : 57 < c.toNat
          · obtain ⟨e1, e2⟩ := HST.out (.inr h2)
            have t2 : decide ((57 : Int) < (c.toNat : Int)) = true := decide_eq_true (by omega)
            subst e1; subst e2
            clear h2 HST
            go_wp2_with fail
            go_ret2
            exact ⟨_, rfl, HEM.out, HBE.out⟩
          have t2 : decide ((57 : Int) < (c.toNat : Int)) = false := decide_eq_false (by omega)
          obtain ⟨d, hd⟩ : ∃ d, c.toNat - 48 = d := ⟨_, rfl⟩
          have hdc : (c.toNat : Int) = (d : Int) + 48 := by omega
          have hd9 : d ≤ 9 := by omega
          have HOW : Hid (ow c = (d : Int)) := Lib.hid (by unfold ow; omega)
          rw [hdc] at hix t1 t2
          have HOA : Hid ((wr.alloc (.cells #[.int .i64 (d : Int)] 2)).ownsRow wo.heap.size 2 1 (.slice ba j bc) j ((bagOf (x.take j)).map (Value.int .i64))) := Lib.hid (by have h := World.ownsRow.alloc (show wr.ownsRow wo.heap.size 2 1 (.slice ba j bc) (bagOf (x.take j)).length ((bagOf (x.take j)).map (Value.int .i64)) from HOJ.out) (.cells #[.int .i64 (d : Int)] 2); rw [HBL.out] at h; exact h)
          have HBA : Hid (Below wo.heap.size wo (wr.alloc (.cells #[.int .i64 (d : Int)] 2))) := Lib.hid (HBJ.out.alloc hwi _)
          clear hd hdc HST h1 h2 hc256
          go_wp2_with (at_builtin; refine wpList_append_own _ rfl _ _ 114 rfl wo.heap.size 2 i0 (.int .i64 0) 1 8 Tryd.underlying114 hi hz0 hz1 hz2 rfl (by decide) _ _ _ rfl HOA.out ⟨wr.heap.size, 0, none⟩ 1 1 [.int .i64 (d : Int)] rfl rfl (cell_one_new _ _ _) (one_int _) ?c3 ?c4 ?c5 ?_)
          case c3 => unfold maxLen; omega
          case c4 => omega
          case c5 => first | (simp; omega) | omega
          intro v' w9 hown' hgrow _
          have HO9 : Hid (OwnI wo.heap.size w9 v' (bagOf (x.take (j + 1)))) := Lib.hid (by
            rw [HSN.out, HOW.out]
            unfold OwnI
            rw [List.map_append, List.length_append, HBL.out]
            exact hown')
          have HB9 : Hid (Below wo.heap.size wo w9) := Lib.hid (HBA.out.grown hgrow (by simp; omega) (fun k e => (HOA.out.lt k e).1))
          clear hown' hgrow
          go_wp2_with fail
          go_roundw
          case rel => exact ⟨j + 1, by omega, by go_num, HO9.out, HB9.out⟩
          case measure => simp [intOf]; omega
        · have hjn : j = nx := by omega
          subst hjn
          have HOX : Hid (OwnI wo.heap.size wr (.slice ba j bc) (bagOf x)) := Lib.hid (by have h := HOJ.out; rw [List.take_of_length_le (by rw [HNX.out]; exact Nat.le_refl _)] at h; exact h)
          have hwi0 : w.heap.size ≤ wr.heap.size := by omega
          have HNB : Hid (∀ p, (Value.slice ba j bc).ownBlock = some p → wo.heap.size ≤ p) := Lib.hid (fun p hp => (HOX.out.block p hp).1)
          have hown1 := row_below HOWN.out HBJ.out
          have HO1 : Hid (OwnI w.heap.size wr (.slice ba j bc) (bagOf x)) := Lib.hid (HOX.out.mono hwr)
          have HRW := Lib.hid (fun q (hq : q < k) => (HROW.out q hq).below HBJ.out)
          have HN1 : Hid (Below w.heap.size w wr) := Lib.hid (HB.out.trans (HBJ.out.mono hwr))
          have HWA : Hid (OwnW w.heap.size (wr.alloc (.cells #[.slice ba j bc] 114)) (.slice (some ⟨g, 0, none⟩) nw sc) ws) := Lib.hid (ownW_below (ownW_below HW.out HBJ.out) ((Below.refl _ _).alloc (Nat.le_refl _) _))
          have HOWA := Lib.hid (hown1.alloc (.cells #[.slice ba j bc] 114))
          clear hown1
          go_wp2_with (at_builtin; refine wpList_append_own_at _ rfl _ _ 46 rfl w.heap.size 114 o0 (.slice none 0 0) 1 24 Tryd.underlying46 ho0 oz0 oz1 oz2 rfl (by decide) _ _ _ rfl HOWA.out ⟨wr.heap.size, 0, none⟩ 1 1 [.slice ba j bc] rfl rfl (cell_one_new _ _ _) (fun u hu => by simp at hu; subst hu; rfl) ?d3 ?d4 ?d5 ?_)
          case d3 => unfold maxLen; omega
          case d4 => omega
          case d5 => first | (simp; omega) | omega
          intro v' w3 hown' hgrow _ _
          have HROW' : Hid (∀ q, q < k + 1 → OwnI w.heap.size w3 ((us ++ [Value.slice ba j bc]).getD q nilS) (R.getD q [])) := Lib.hid (fun q hq => by
            by_cases e : q = k
            · subst e
              rw [← HLEN.out, getB_last, HLEN.out, HRX.out]
              exact row_keptB (HO1.out.below ((Below.refl _ _).alloc (Nat.le_refl _) _)) HOWA.out hgrow
            · rw [getB_app _ _ _ (by rw [HLEN.out]; omega)]
              exact row_keptB ((HRW.out q (by omega)).below ((Below.refl _ _).alloc (Nat.le_refl _) _)) HOWA.out hgrow)
          have HDI' : Hid (DistB (us ++ [Value.slice ba j bc]) (k + 1)) := Lib.hid (fun i q hiq hq p r hp hr => by
            rw [getB_app _ _ _ (by rw [HLEN.out]; omega)] at hp
            by_cases e : q = k
            · have e2 : (us ++ [Value.slice ba j bc]).getD q nilS = Value.slice ba j bc := by rw [e, ← HLEN.out, getB_last]
              rw [e2] at hr
              have h1 := HNB.out r hr
              have h2 := ((HROW.out i (by omega)).block p hp).2
              omega
            · rw [getB_app _ _ _ (by rw [HLEN.out]; omega)] at hr
              exact HDI.out i q hiq (by omega) p r hp hr)
          have HO' := Lib.hid hown'
          have HW' : Hid (OwnW w.heap.size w3 (.slice (some ⟨g, 0, none⟩) nw sc) ws) := Lib.hid (World.ownsRow.kept HWA.out hgrow (.inr (fun e => row_typesB (by decide) HWA.out HOWA.out _ rfl (by rw [← e]; rfl))))
          have HB' : Hid (Below w.heap.size w w3) := Lib.hid ((HN1.out.alloc hwi0 _).grown hgrow (by simp; omega) (fun j hj => (HOWA.out.lt j hj).1))
          clear hown' hgrow
          go_wp2_with fail
          go_roundw
          case rel => exact ⟨k + 1, us ++ [Value.slice ba j bc], by omega, by go_num, HO'.out, HROW'.out, HDI'.out, HW'.out, HB'.out⟩
          case measure => simp [intOf]; omega
    · have hkw : k = R.length := by rw [HRL.out]; omega
      have HM : Hid (OwnMD w.heap.size wo.heap.size wo (.slice la k lc) R) := Lib.hid (by
        have h1 := HOWN.out
        have h2 := HROW.out
        have h3 := HDI.out
        rw [hkw] at h1 h2 h3 ⊢
        exact ⟨us, h1, h2, fun p hp => (h1.lt p hp).2, fun j hj p hp => ((h2 j hj).block p hp).2, h3⟩)
      have HSV := Lib.hid (sbagsB_eq _ R wo HM.out.reads (by rw [HRL.out]; exact hwn) (fun j hj => by
        rw [HAT.out j (by rw [HNW.out, ← HRL.out]; exact hj), bagOf_len]
        exact HWL.out _ (by simp [List.getD, show j < ws.length by rw [HNW.out, ← HRL.out]; exact hj])))
      have HEM : Hid (OwnMD w.heap.size (wo.alloc (.cells #[] 114)).heap.size (wo.alloc (.cells #[] 114)) (.slice (some ⟨wo.heap.size, 0, none⟩) 0 0) []) := Lib.hid (ownB_new _ _ hwr)
      have HBE : Hid (Below w.heap.size w (wo.alloc (.cells #[] 114))) := Lib.hid (HB.out.alloc hwr _)
      clear hw hb hown hrow hdist hkw
      go_wp2_with fail
      refine HSV.out.mono ?_
      rintro e w4 ⟨rfl, rfl⟩
      cases hv : vldM R with
      | false =>
        obtain ⟨e1, e2⟩ := HBAD.out hv
        subst e1; subst e2
        go_wp2_with fail
        go_ret2
        exact ⟨_, rfl, HEM.out, HBE.out⟩
      | true =>
        obtain ⟨e1, e2⟩ := HYES.out hv
        subst e1; subst e2
        go_wp2_with fail
        go_ret2
        exact ⟨_, rfl, HM.out, HB.out⟩
end Go.Proofs.YtbclmafplaipaaaDoor
