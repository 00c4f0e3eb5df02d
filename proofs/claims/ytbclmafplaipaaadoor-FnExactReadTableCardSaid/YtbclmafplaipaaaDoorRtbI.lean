/-
  Reading the text of a table: what the program calls (TrimSuffix, ParseInt at 16 bits), and a line.
-/
import Derived.Test.YtbclmafplaipaaaDoorRtbV
import Derived.Test.YtbclmafplaipaaaDoorRdI
import Derived.Test.YtbclmafplaipaaaDoorLayTrm
import Derived.Shelf.Strings.Prefix
import Derived.Laws.BitsLemmas
namespace Go.Proofs.YtbclmafplaipaaaDoor
open Go Go.RowKit
set_option linter.unusedVariables false

theorem trimS_eq (l : List UInt8) : Lib.trimSuffix l [10] = trimS l := by
  unfold Lib.trimSuffix Lib.hasSuffix trimS
  rcases List.eq_nil_or_concat l with rfl | ⟨L, b, rfl⟩
  · rfl
  · by_cases h : b = 10
    · subst h
      have e : ([10] : List UInt8).isSuffixOf (L.concat 10) = true := by
        rw [List.isSuffixOf_iff_suffix]
        exact ⟨L, by simp⟩
      rw [if_pos e, if_pos (by simp)]
      simp
    · have e : ([10] : List UInt8).isSuffixOf (L.concat b) = false := by
        cases he : ([10] : List UInt8).isSuffixOf (L.concat b) with
        | false => rfl
        | true =>
          rw [List.isSuffixOf_iff_suffix] at he
          obtain ⟨t, ht⟩ := he
          exfalso
          rw [List.concat_eq_append] at ht
          have := List.append_inj' ht rfl
          simp at this
          exact h this.2.symm
      rw [if_neg (by rw [e]; simp), if_neg (by simp [h])]
theorem itrim_any (l : List UInt8) (hl : l.length ≤ 1048576) (w : World) :
    Calls Tryd.prog 70 #[.string (str l), .string ⟨#[10]⟩] w fun e w' => e = .returned (.string (str (trimS l))) ∧ w = w' := by
  have k := Go.Proofs.Any.strings_TrimSuffix layTrm (str l) ⟨#[10]⟩ w (by rw [str_size]; omega)
  refine Calls.mono (f := 70) k ?_
  rintro e w' ⟨he, hw⟩
  rw [data_str] at he
  refine ⟨?_, hw.symm⟩
  rw [he]
  have h : Lib.trimSuffix l (⟨#[10]⟩ : ByteArray).data.toList = trimS l := trimS_eq l
  rw [h]
  rfl
theorem trimS_len (l : List UInt8) : (trimS l).length ≤ l.length := by unfold trimS; split <;> simp
theorem iparse16_any (l : List UInt8) (hl : l.length ≤ 1048576) (w : World) (h : RdW w) :
    Calls Tryd.prog 120 #[.string (str l), .int .i64 10, .int .i64 16] w fun e w' => ∃ v ev, e = .returned (.tuple #[.int .i64 v, ev]) ∧ ((ev = .nilIface ∧ okI (Lib.parseIntB 16 l) = some v) ∨ ((∃ t p, ev = .iface t p) ∧ okI (Lib.parseIntB 16 l) = none)) ∧ Below w.heap.size w w' := by
  obtain ⟨_, ⟨t, p, h2⟩, ⟨u, q, h3⟩, _⟩ := h
  cases hp : Lib.parseIntB 16 l
  · rename_i v
    have k := Go.Proofs.Any.strconv_ParseInt_10_at16_ok layPar (str l) (by rw [str_size]; omega) v (by rw [data_str]; exact hp) w
    refine Calls.mono (f := 120) k ?_
    rintro e w' ⟨he, hw⟩
    refine ⟨v, _, he, .inl ⟨rfl, rfl⟩, ?_⟩
    rcases hw with rfl | ⟨t, rfl⟩
    · exact Below.refl _ _
    · exact Lib.bytesWorld_below _ _ _
  · have k := Go.Proofs.Any.strconv_ParseInt_10_at16_syntax layPar (str l) (by rw [str_size]; omega) (by rw [data_str]; exact hp) (.iface t p) w h2 (.inr ⟨t, p, rfl⟩)
    refine Calls.mono (f := 120) k ?_
    rintro e w' ⟨N, he, _, _, hb⟩
    exact ⟨_, _, he, .inr ⟨⟨_, _, rfl⟩, rfl⟩, hb⟩
  · have k := Go.Proofs.Any.strconv_ParseInt_10_at16_range layPar (str l) (by rw [str_size]; omega) (by rw [data_str]; exact hp) (.iface u q) w h3 (.inr ⟨u, q, rfl⟩)
    refine Calls.mono (f := 120) k ?_
    rintro e w' ⟨N, he, _, _, hb⟩
    exact ⟨_, _, he, .inr ⟨⟨_, _, rfl⟩, rfl⟩, hb⟩
theorem wrap_i16 (v : Int) : ∃ x0, IntKind.i16.wrap v = x0 ∧ -32768 ≤ x0 ∧ x0 ≤ 32767 := ⟨_, rfl, by simp only [IntKind.wrap, IntKind.bits, IntKind.signed]; simp; omega, by simp only [IntKind.wrap, IntKind.bits, IntKind.signed]; simp; omega⟩

set_option maxHeartbeats 1600000 in
set_option maxRecDepth 100000 in
theorem ireadL_any (l : List UInt8) (hl : l.length ≤ 1048576) (w : World) (h : RdW w) :
    Calls Tryd.prog 71 #[.string (str l)] w (RetLn w (lineI l)) := by
  obtain ⟨i0, hi, hz0, hz1, hz2⟩ := info_parts info_i16
  have HRW := Lib.hid h
  have HSP := Lib.hid (ispl_any l 32 hl w h)
  obtain ⟨lr, hlr⟩ : ∃ r, lineI l = r := ⟨_, rfl⟩
  obtain ⟨ws, hws⟩ : ∃ ws, spl 32 l = ws := ⟨_, rfl⟩
  have HRD : Hid (lr = mapO numI ws) := Lib.hid (by rw [← hlr, ← hws]; rfl)
  rw [hws] at HSP
  rw [hlr]
  have HWL : Hid (∀ x ∈ ws, x.length ≤ 1048576) := Lib.hid (fun x hx => by rw [← hws] at hx; have := spl_lenT hx; omega)
  have hwn : ws.length ≤ 1048577 := by rw [← hws]; have := spl_count 32 l; omega
  obtain ⟨nw, hnw⟩ : ∃ n, ws.length = n := ⟨_, rfl⟩
  have HNW := Lib.hid hnw
  rw [hnw] at hwn
  clear hws hlr hl hnw h
  go_enter Tryd.func71, Tryd.ntmps71
  go_wp2_with fail
  refine HSP.out.mono ?_
  rintro e w2 ⟨g, rfl, ows, b2⟩
  rw [HNW.out] at ows
  rw [HNW.out]
  have HOW := Lib.hid ows
  have HB2 := Lib.hid b2
  clear ows b2 HSP
  go_wp2_with fail
  go_loopw [4, 12] (fun ov iv wr => ∃ (k : Nat) (L : List Int), k ≤ nw ∧ iv = .int .i64 k ∧ OwnH w.heap.size wr ov L ∧ OwnW w.heap.size wr (.slice (some ⟨g, 0, none⟩) nw nw) ws ∧ mapO numI (ws.take k) = some L ∧ Fit16 L ∧ Below w.heap.size w wr) (fun _ i _ => nw - (intOf i).toNat)
  case atStart => exact ⟨0, [], Nat.zero_le _, rfl, World.ownsRow_nil _ _ _ _, HOW.out, rfl, (fun p hp => by cases hp), HB2.out⟩
  case round =>
    obtain ⟨k, L, hk, rfl, ho, hw, hm, hfit, hb⟩ := hrel
    have HO := Lib.hid ho
    have HW := Lib.hid hw
    have HM := Lib.hid hm
    have HFIT := Lib.hid hfit
    have HB := Lib.hid hb
    have hwr : w.heap.size ≤ wr.heap.size := hb.size
    have hLl : L.length = k := by have h := mapO_lenT hm; rw [List.length_take, HNW.out] at h; omega
    obtain ⟨la, lc, hlv⟩ := own_is ho
    rw [hLl] at hlv
    have HLL := Lib.hid hLl
    subst hlv
    by_cases hlt : k < nw
    · obtain ⟨g', hg', _, hg, hcell⟩ := ownW_someT hw (by omega)
      injection hg' with hg'
      injection hg' with hg'
      subst hg'
      have hck := hcell k hlt
      obtain ⟨x, hx⟩ : ∃ x, ws.getD k [] = x := ⟨_, rfl⟩
      rw [hx] at hck
      replace hck : wr.cell? ⟨g, k, none⟩ = some (.string (str x)) := hck
      have hxm : x ∈ ws := by rw [← hx]; simp [List.getD, show k < ws.length by rw [HNW.out]; exact hlt]
      have HXL : Hid (x.length ≤ 1048576) := Lib.hid (HWL.out x hxm)
      have hkn : (k : Int) < (nw : Int) := by omega
      have hk0 : (0 : Int) ≤ (k : Int) := by omega
      have HTK : Hid (ws.take (k + 1) = ws.take k ++ [x]) := Lib.hid (by rw [List.take_succ_eq_append_getElem (by rw [HNW.out]; exact hlt), ← hx]; simp [List.getD, show k < ws.length by rw [HNW.out]; exact hlt])
      have HSTOP : Hid (numI x = none → lr = none) := Lib.hid (fun h => by rw [HRD.out, mapO_stopT h hxm])
      have HNX := Lib.hid (iparse16_any x HXL.out wr (HRW.out.below' HB.out))
      have HNM : Hid (numI x = match okI (Lib.parseIntB 16 x) with | some v => some (IntKind.i16.wrap v) | none => none) := Lib.hid rfl
      clear hx hxm hcell hw ho hm hfit hb hLl
      go_wp2_with fail
      refine HNX.out.mono ?_
      rintro e w3 ⟨v, ev, rfl, hv, b3⟩
      have HV := Lib.hid hv
      have HB3 := Lib.hid (HB.out.trans (b3.mono hwr))
      have HO3 := Lib.hid (HO.out.below b3)
      have HW3 := Lib.hid (ownW_below HW.out b3)
      have hs3 : w.heap.size ≤ w3.heap.size := HB3.out.size
      clear hv b3 HNX hck
      rcases HV.out with ⟨he, hp⟩ | ⟨⟨t, p, he⟩, hp⟩
      rotate_left
      · subst he
        have E1 := Lib.hid (HSTOP.out (by rw [HNM.out, hp]))
        clear hp HV
        go_wp2_with fail
        go_ret2
        exact ⟨none, 0, 0, false, [], rfl, World.ownsRow_nil _ _ _ _, .inr ⟨rfl, E1.out⟩, HB3.out⟩
      subst he
      obtain ⟨a, ha, ha1, ha2⟩ := wrap_i16 v
      have HPY : Hid (numI x = some a) := Lib.hid (by rw [HNM.out, hp, ← ha])
      have HA := Lib.hid ha
      have HM2 : Hid (mapO numI (ws.take (k + 1)) = some (L ++ [a])) := Lib.hid (by rw [HTK.out, mapO_snocT HM.out, HPY.out]; rfl)
      have HFIT2 : Hid (Fit16 (L ++ [a])) := Lib.hid (fun q hq => by
        rcases List.mem_append.1 hq with hq | hq
        · exact HFIT.out q hq
        · have : q = a := by simpa using hq
          omega)
      have HOA : Hid ((w3.alloc (.cells #[.int .i16 a] 69)).ownsRow w.heap.size 69 1 (.slice la k lc) k (L.map (Value.int .i16))) := Lib.hid (by have h := World.ownsRow.alloc (show w3.ownsRow w.heap.size 69 1 (.slice la k lc) L.length (L.map (Value.int .i16)) from HO3.out) (.cells #[.int .i16 a] 69); rw [HLL.out] at h; exact h)
      have HWA : Hid (OwnW w.heap.size (w3.alloc (.cells #[.int .i16 a] 69)) (.slice (some ⟨g, 0, none⟩) nw nw) ws) := Lib.hid (ownW_below HW3.out ((Below.refl _ _).alloc (Nat.le_refl _) _))
      have HBA : Hid (Below w.heap.size w (w3.alloc (.cells #[.int .i16 a] 69))) := Lib.hid (HB3.out.alloc hs3 _)
      clear hg hp HV
      go_wp2_with (at_builtin; refine wpList_append_own _ rfl _ _ 33 rfl w.heap.size 69 i0 (.int .i16 0) 1 2 Tryd.underlying33 hi hz0 hz1 hz2 rfl (by decide) _ _ _ rfl HOA.out ⟨w3.heap.size, 0, none⟩ 1 1 [.int .i16 a] rfl rfl (cell_one_new _ _ _) (one_i16 _) ?c3 ?c4 ?c5 ?_)
      case c3 => unfold maxLen; omega
      case c4 => omega
      case c5 => first | omega | (simp; omega)
      intro v' w9 hown' hgrow _
      have HO9 : Hid (OwnH w.heap.size w9 v' (L ++ [a])) := Lib.hid (by
        unfold OwnH
        rw [List.map_append, List.length_append, HLL.out]
        exact hown')
      have HW9 : Hid (OwnW w.heap.size w9 (.slice (some ⟨g, 0, none⟩) nw nw) ws) := Lib.hid (World.ownsRow.kept HWA.out hgrow (.inr (fun e => row_typesT (by decide) HWA.out HOA.out _ rfl (by rw [← e]; rfl))))
      have HB9 : Hid (Below w.heap.size w w9) := Lib.hid (HBA.out.grown hgrow (by simp; omega) (fun j e => (HOA.out.lt j e).1))
      clear hown' hgrow
      go_wp2_with fail
      go_roundw
      case rel => exact ⟨k + 1, _, by omega, by go_num, HO9.out, HW9.out, HM2.out, HFIT2.out, HB9.out⟩
      case measure => simp [intOf]; omega
    · have hkw : k = nw := by omega
      have HMA : Hid (lr = some L) := Lib.hid (by
        have h := hm
        rw [hkw, ← HNW.out, List.take_length] at h
        rw [HRD.out, h])
      clear hw ho hm hfit hb hLl hkw
      go_wp2_with fail
      go_ret2
      exact ⟨la, k, lc, true, L, rfl, HO.out, .inl ⟨rfl, HMA.out, HFIT.out⟩, HB.out⟩
end Go.Proofs.YtbclmafplaipaaaDoor
