/-
  Reading the text of a table: the model's.
-/
import Derived.Test.YtbclmafplaipaaaDoorRtbV
namespace Go.Proofs.YtbclmafplaipaaaDoor
open Go Go.RowKit
set_option linter.unusedVariables false

set_option maxHeartbeats 1600000 in
set_option maxRecDepth 100000 in
theorem sline_any (l : List UInt8) (hl : l.length ≤ 1048576) (w : World) :
    Calls Tryd.prog 67 #[.string (str l)] w (RetLn w (lineM l)) := by
  obtain ⟨i0, hi, hz0, hz1, hz2⟩ := info_parts info_i16
  have HSP := Lib.hid (ssplit_any l 32 hl (w.alloc (.cells #[] 69)))
  obtain ⟨lr, hlr⟩ : ∃ r, lineM l = r := ⟨_, rfl⟩
  obtain ⟨ws, hws⟩ : ∃ ws, spl 32 l = ws := ⟨_, rfl⟩
  have HRD : Hid (lr = mapO numM ws) := Lib.hid (by rw [← hlr, ← hws]; rfl)
  rw [hws] at HSP
  rw [hlr]
  have HWL : Hid (∀ x ∈ ws, x.length ≤ 1048576) := Lib.hid (fun x hx => by rw [← hws] at hx; have := spl_lenT hx; omega)
  have hwn : ws.length ≤ 1048577 := by rw [← hws]; have := spl_count 32 l; omega
  obtain ⟨nw, hnw⟩ : ∃ n, ws.length = n := ⟨_, rfl⟩
  have HNW := Lib.hid hnw
  rw [hnw] at hwn
  have HO1 : Hid (OwnH w.heap.size (w.alloc (.cells #[] 69)) (.slice (some ⟨w.heap.size, 0, none⟩) 0 0) []) := Lib.hid (World.ownsRow_made w #[] 0 (Nat.le_refl _) (Nat.zero_le _) rfl)
  have HB1 : Hid (Below w.heap.size w (w.alloc (.cells #[] 69))) := Lib.hid ((Below.refl _ _).alloc (Nat.le_refl _) _)
  obtain ⟨W1, hW1⟩ : ∃ W, w.alloc (.cells #[] 69) = W := ⟨_, rfl⟩
  have HW1 := Lib.hid hW1
  rw [hW1] at HO1 HB1 HSP
  clear hws hlr hl hnw hW1
  go_enter Tryd.func67, Tryd.ntmps67
  go_wp2_with fail
  rw [HW1.out]
  refine HSP.out.mono ?_
  rintro e w2 ⟨sv, rfl, ows, b2⟩
  obtain ⟨sa, sc, hsv⟩ := own_is ows
  rw [HNW.out] at hsv
  subst hsv
  have HOW : Hid (OwnW w.heap.size w2 (.slice sa nw sc) ws) := Lib.hid (by
    have h := ows
    refine ⟨h.1, ?_⟩
    rcases h.2 with hn | ⟨g, cap, cur, e, hB, rest⟩
    · exact .inl hn
    · exact .inr ⟨g, cap, cur, e, Nat.le_trans HB1.out.size hB, rest⟩)
  have HB2 := Lib.hid (blink HB1.out b2)
  have HO2 := Lib.hid (HO1.out.below b2)
  clear ows b2 HSP
  go_wp2_with fail
  go_loopw [4, 6] (fun ov iv wr => ∃ (k : Nat) (L : List Int), k ≤ nw ∧ iv = .int .i64 k ∧ OwnH w.heap.size wr ov L ∧ OwnW w.heap.size wr (.slice sa nw sc) ws ∧ mapO numM (ws.take k) = some L ∧ Fit16 L ∧ Below w.heap.size w wr) (fun _ i _ => nw - (intOf i).toNat)
  case atStart => exact ⟨0, [], Nat.zero_le _, rfl, HO2.out, HOW.out, rfl, (fun p hp => by cases hp), HB2.out⟩
  case round =>
    obtain ⟨k, L, hk, rfl, ho, hw, hm, hfit, hb⟩ := hrel
    have HO := Lib.hid ho
    have HW := Lib.hid hw
    have HM := Lib.hid hm
    have HFIT := Lib.hid hfit
    have HB := Lib.hid hb
    have hwr : w.heap.size ≤ wr.heap.size := hb.size
    have hLl : L.length = k := by have h := mapO_lenT hm; rw [List.length_take, HNW.out] at h; omega
    obtain ⟨la, lc, hlv⟩ := own_is ho
    rw [hLl] at hlv
    have HLL := Lib.hid hLl
    subst hlv
    by_cases hlt : k < nw
    · obtain ⟨g, rfl, _, hg, hcell⟩ := ownW_someT hw (by omega)
      have hck := hcell k hlt
      obtain ⟨x, hx⟩ : ∃ x, ws.getD k [] = x := ⟨_, rfl⟩
      rw [hx] at hck
      replace hck : wr.cell? ⟨g, k, none⟩ = some (.string (str x)) := hck
      have hxm : x ∈ ws := by rw [← hx]; simp [List.getD, show k < ws.length by rw [HNW.out]; exact hlt]
      have HXL : Hid (x.length ≤ 1048576) := Lib.hid (HWL.out x hxm)
      have hkn : (k : Int) < (nw : Int) := by omega
      have hk0 : (0 : Int) ≤ (k : Int) := by omega
      have HTK : Hid (ws.take (k + 1) = ws.take k ++ [x]) := Lib.hid (by rw [List.take_succ_eq_append_getElem (by rw [HNW.out]; exact hlt), ← hx]; simp [List.getD, show k < ws.length by rw [HNW.out]; exact hlt])
      have HSTOP : Hid (numM x = none → lr = none) := Lib.hid (fun h => by rw [HRD.out, mapO_stopT h hxm])
      have HNX := Lib.hid (snum_any x HXL.out wr)
      have HNM : Hid (numM x = match num x with | some a => if a ≤ 10000 then some (a : Int) else none | none => none) := Lib.hid rfl
      obtain ⟨rn, hrn⟩ : ∃ r, num x = r := ⟨_, rfl⟩
      have HRN := Lib.hid hrn
      rw [hrn] at HNX HNM
      clear hx hxm hcell hw ho hm hfit hb hLl hrn
      go_wp2_with fail
      refine HNX.out.mono ?_
      rintro e _ ⟨rfl, rfl⟩
      clear HNX hck
      cases rn with
      | none =>
        have e1 := HSTOP.out (by rw [HNM.out])
        have E1 := Lib.hid e1
        clear e1
        simp only [Option.getD_none, Option.isSome_none]
        go_wp2_with fail
        go_ret2
        exact ⟨la, k, lc, false, L, rfl, HO.out, .inr ⟨rfl, E1.out⟩, HB.out⟩
      | some a =>
      simp only [Option.getD_some, Option.isSome_some]
      by_cases hc0 : 10000 < a
      · have tc0 : decide ((10000 : Int) < (a : Int)) = true := decide_eq_true (by omega)
        have e1 := HSTOP.out (by rw [HNM.out]; simp only; rw [if_neg (by omega)])
        have E1 := Lib.hid e1
        clear e1
        have ha9 := (num_spec HRN.out).2
        clear hc0
        go_wp2_with fail
        go_ret2
        exact ⟨la, k, lc, false, L, rfl, HO.out, .inr ⟨rfl, E1.out⟩, HB.out⟩
      have tc0 : decide ((10000 : Int) < (a : Int)) = false := decide_eq_false (by omega)
      have HPY : Hid (numM x = some (a : Int)) := Lib.hid (by rw [HNM.out]; simp only; rw [if_pos (by omega)])
      have HM2 : Hid (mapO numM (ws.take (k + 1)) = some (L ++ [(a : Int)])) := Lib.hid (by rw [HTK.out, mapO_snocT HM.out, HPY.out]; rfl)
      have HFIT2 : Hid (Fit16 (L ++ [(a : Int)])) := Lib.hid (fun p hp => by
        rcases List.mem_append.1 hp with hp | hp
        · exact HFIT.out p hp
        · have : p = (a : Int) := by simpa using hp
          omega)
      have HOA : Hid ((wr.alloc (.cells #[.int .i16 (a : Int)] 69)).ownsRow w.heap.size 69 1 (.slice la k lc) k (L.map (Value.int .i16))) := Lib.hid (by have h := World.ownsRow.alloc (show wr.ownsRow w.heap.size 69 1 (.slice la k lc) L.length (L.map (Value.int .i16)) from HO.out) (.cells #[.int .i16 (a : Int)] 69); rw [HLL.out] at h; exact h)
      have HWA : Hid (OwnW w.heap.size (wr.alloc (.cells #[.int .i16 (a : Int)] 69)) (.slice (some ⟨g, 0, none⟩) nw sc) ws) := Lib.hid (ownW_below HW.out ((Below.refl _ _).alloc (Nat.le_refl _) _))
      have HBA : Hid (Below w.heap.size w (wr.alloc (.cells #[.int .i16 (a : Int)] 69))) := Lib.hid (HB.out.alloc hwr _)
      have ha1 : a ≤ 10000 := by omega
      clear hg HRN
      go_wp2_with (at_builtin; refine wpList_append_own _ rfl _ _ 33 rfl w.heap.size 69 i0 (.int .i16 0) 1 2 Tryd.underlying33 hi hz0 hz1 hz2 rfl (by decide) _ _ _ rfl HOA.out ⟨wr.heap.size, 0, none⟩ 1 1 [.int .i16 (a : Int)] rfl rfl (cell_one_new _ _ _) (one_i16 _) ?c3 ?c4 ?c5 ?_)
      case c3 => unfold maxLen; omega
      case c4 => omega
      case c5 => first | omega | (simp; omega)
      intro v' w9 hown' hgrow _
      have HO9 : Hid (OwnH w.heap.size w9 v' (L ++ [(a : Int)])) := Lib.hid (by
        unfold OwnH
        rw [List.map_append, List.length_append, HLL.out]
        exact hown')
      have HW9 : Hid (OwnW w.heap.size w9 (.slice (some ⟨g, 0, none⟩) nw sc) ws) := Lib.hid (World.ownsRow.kept HWA.out hgrow (.inr (fun e => row_typesT (by decide) HWA.out HOA.out _ rfl (by rw [← e]; rfl))))
      have HB9 : Hid (Below w.heap.size w w9) := Lib.hid (HBA.out.grown hgrow (by simp; omega) (fun j e => (HOA.out.lt j e).1))
      clear hown' hgrow
      go_wp2_with fail
      go_roundw
      case rel => exact ⟨k + 1, _, by omega, by go_num, HO9.out, HW9.out, HM2.out, HFIT2.out, HB9.out⟩
      case measure => simp [intOf]; omega
    · have hkw : k = nw := by omega
      have HMA : Hid (lr = some L) := Lib.hid (by
        have h := hm
        rw [hkw, ← HNW.out, List.take_length] at h
        rw [HRD.out, h])
      clear hw ho hm hfit hb hLl hkw
      go_wp2_with fail
      go_ret2
      exact ⟨la, k, lc, true, L, rfl, HO.out, .inl ⟨rfl, HMA.out, HFIT.out⟩, HB.out⟩
end Go.Proofs.YtbclmafplaipaaaDoor
