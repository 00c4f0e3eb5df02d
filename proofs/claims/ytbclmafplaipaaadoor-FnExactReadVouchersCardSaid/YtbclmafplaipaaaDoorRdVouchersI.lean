/-
  Reading the text of Vouchers: the program's.
-/
import Derived.Test.YtbclmafplaipaaaDoorRdI
import Derived.Test.YtbclmafplaipaaaDoorRdVouchersS
import Derived.Test.YtbclmafplaipaaaDoorWpVouchersI
import Derived.Test.YtbclmafplaipaaaDoorKeepO
import Derived.Laws.BitsLemmas
namespace Go.Proofs.YtbclmafplaipaaaDoor
open Go Go.RowKit
set_option linter.unusedVariables false

theorem OwnVo.out {T : TypeId} {B lo hi : Nat} {w w' : World} {v : Value} {ps : List (Int × Int)} (h : OwnVo T B w v ps) (K : KeepsOut lo hi w w') (hd : ∀ k, v.ownBlock = some k → k < lo ∨ hi ≤ k) : OwnVo T B w' v ps := row_out h K hd
theorem wrap_Vouchers0 (v : Int) : ∃ x0, IntKind.i32.wrap v = x0 ∧ -2147483648 ≤ x0 ∧ x0 ≤ 2147483647 := ⟨_, rfl, by simp only [IntKind.wrap, IntKind.bits, IntKind.signed]; simp; omega, by simp only [IntKind.wrap, IntKind.bits, IntKind.signed]; simp; omega⟩
theorem wrap_Vouchers1 (v : Int) : ∃ x1, IntKind.i16.wrap v = x1 ∧ -32768 ≤ x1 ∧ x1 ≤ 32767 := ⟨_, rfl, by simp only [IntKind.wrap, IntKind.bits, IntKind.signed]; simp; omega, by simp only [IntKind.wrap, IntKind.bits, IntKind.signed]; simp; omega⟩

def pIVouchers (l : List UInt8) : Option (Int × Int) := pairI 64 (IntKind.i32.wrap) (IntKind.i16.wrap) l
set_option maxHeartbeats 2000000 in
set_option maxRecDepth 100000 in
theorem ironeVouchers_any (l : List UInt8) (hl : l.length ≤ 1048576) (w : World) (h : RdW w) :
    Calls Tryd.prog 103 #[.string (str l)] w fun e w' => ∃ x0 x1 b, e = .returned (.tuple #[.agg #[.int .i32 x0, .int .i16 x1], .bool b]) ∧ (-2147483648 ≤ x0 ∧ x0 ≤ 2147483647) ∧ (-32768 ≤ x1 ∧ x1 ≤ 32767) ∧ ((b = true ∧ pIVouchers l = some (x0, x1)) ∨ (b = false ∧ pIVouchers l = none)) ∧ Below w.heap.size w w' := by
  have b1 : Below w.heap.size w (w.alloc (.cells #[.int .i32 0, .int .i16 0] 140)) := (Below.refl _ _).alloc (Nat.le_refl _) _
  have BX : BlkA (w.alloc (.cells #[.int .i32 0, .int .i16 0] 140)) w.heap.size 140 #[.int .i32 0, .int .i16 0] := BlkA.new rfl _ _
  obtain ⟨W1, hW⟩ : ∃ W, w.alloc (.cells #[.int .i32 0, .int .i16 0] 140) = W := ⟨_, rfl⟩
  rw [hW] at b1 BX
  have HW := Lib.hid hW
  have HB1 := Lib.hid b1
  have HBX := Lib.hid BX
  have HPR := Lib.hid (ipairR_any l 64 hl W1 (h.below b1))
  clear hW b1 BX h hl
  go_enter Tryd.func103, Tryd.ntmps103
  go_wp2_with fail
  rw [HW.out]
  refine HPR.out.mono ?_
  rintro e w2 ⟨v1, v2, b, rfl, hv, b2⟩
  have HB2 := Lib.hid (blink HB1.out b2)
  have BX2 := HBX.out.below b2
  have HV := Lib.hid hv
  obtain ⟨x0, h0, hr0⟩ := wrap_Vouchers0 v1
  obtain ⟨x1, h1, hr1⟩ := wrap_Vouchers1 v2
  have HR0 := Lib.hid hr0
  have HR1 := Lib.hid hr1
  have H0 := Lib.hid h0
  have H1 := Lib.hid h1
  have HP : Hid ((b = true ∧ pIVouchers l = some (x0, x1)) ∨ (b = false ∧ pIVouchers l = none)) := Lib.hid (by
    rcases HV.out with ⟨hb, g1, g2⟩ | ⟨hb, g⟩
    · refine .inl ⟨hb, ?_⟩
      unfold pIVouchers pairI
      rw [g1, g2, ← H0.out, ← H1.out]
    · refine .inr ⟨hb, ?_⟩
      unfold pIVouchers pairI
      rcases g with g | g
      · rw [g]
      · rw [g]; cases okI (Lib.parseIntB 64 (Lib.cut l [64]).1) <;> rfl)
  have c0 := BX2.at 0
  have c1 := BX2.at 1
  have f0 := BX2.frozen 0
  have f1 := BX2.frozen 1
  have hsz : w.heap.size < w2.heap.size := BX2.lt
  have HBE : Hid (Below w.heap.size w ((w2.setCell ⟨w.heap.size, 0, none⟩ (.int .i32 x0)).setCell ⟨w.heap.size, 1, none⟩ (.int .i16 x1))) := Lib.hid ((HB2.out.setCell (by simp) _).setCell (by simp) _)
  have BX3 := (BX2.set 0 (.int .i32 x0)).set 1 (.int .i16 x1)
  have z0 : ((w2.setCell ⟨w.heap.size, 0, none⟩ (.int .i32 x0)).setCell ⟨w.heap.size, 1, none⟩ (.int .i16 x1)).cell? ⟨w.heap.size, 0, none⟩ = some (.int .i32 x0) := BX3.at 0
  have z1 : ((w2.setCell ⟨w.heap.size, 0, none⟩ (.int .i32 x0)).setCell ⟨w.heap.size, 1, none⟩ (.int .i16 x1)).cell? ⟨w.heap.size, 1, none⟩ = some (.int .i16 x1) := BX3.at 1
  have HZ0 := Lib.hid z0
  have HZ1 := Lib.hid z1
  clear b2 hv BX2 BX3 hr0 hr1 HV HPR z0 z1
  go_wp2_with fail
  have z0 := HZ0.out
  have z1 := HZ1.out
  exact bodyPost_ret (v := .tuple #[.agg #[.int .i32 x0, .int .i16 x1], .bool b]) (by simp [results, Tryd.results103, go_sem, z0, z1]) rfl ⟨x0, x1, b, rfl, HR0.out, HR1.out, HP.out, HBE.out⟩

theorem pIVouchers_nil : pIVouchers [] = none := by
  unfold pIVouchers pairI
  rw [cut_free (by simp)]
  rfl
theorem rdI_at {α : Type} {f : List UInt8 → Option α} {tell : List α → List UInt8} {l : List UInt8} (h : ¬ l = []) : rdI f tell l = match mapO f (spl 32 l) with | none => none | some L => if tell L = l then some L else none := by
  unfold rdI
  rw [if_neg h]
  cases mapO f (spl 32 l) <;> rfl

set_option maxHeartbeats 4000000 in
set_option maxRecDepth 100000 in
theorem irwVouchers_any (l : List UInt8) (hl : l.length ≤ 1048576) (w : World) (h : RdW w) :
    Calls Tryd.prog 102 #[.string (str l), .func (.func 103) #[] #[], .func (.func 104) #[] #[]] w (RetRdVouchers w.heap.size w (rdRVouchers l) (rdCVouchers l)) := by
  obtain ⟨i0, hi, hz0, hz1, hz2⟩ := info_parts infoRdVouchers
  obtain ⟨rr, hrr⟩ : ∃ r, rdRVouchers l = r := ⟨_, rfl⟩
  obtain ⟨rc, hrc⟩ : ∃ r, rdCVouchers l = r := ⟨_, rfl⟩
  rw [hrr, hrc]
  by_cases h0 : l = []
  · have e1 : rr = [] := by rw [← hrr, h0]; rfl
    have e2 : rc = 0 := by rw [← hrc, h0]; rfl
    subst e1; subst e2
    subst h0
    have e0 : (str []).toList = [] := ByteArray.toList_mk []
    clear hrr hrc hl h
    go_enter Tryd.func102, Tryd.ntmps102
    go_wp2_with fail
    go_ret2
    exact ⟨_, rfl, World.ownsRow_nil _ _ _ _, Below.refl _ _⟩
  have teq : ((str l).toList == []) = false := by
    rw [beq_eq_false_iff_ne]
    intro e
    apply h0
    have : (str l).toList = l := by unfold str; exact ByteArray.toList_mk l
    rw [← this]; exact e
  have hne : ¬ (str l).toList = [] := fun e => by rw [e] at teq; simp at teq
  have HRW := Lib.hid h
  have HSP := Lib.hid (ispl_any l 32 hl w h)
  obtain ⟨ws, hws⟩ : ∃ ws, spl 32 l = ws := ⟨_, rfl⟩
  have HWS := Lib.hid hws
  rw [hws] at HSP
  have HRD : Hid (rdVouchers l = match mapO pIVouchers ws with | none => none | some L => if textVouchers L = l then some L else none) := Lib.hid (by rw [rdVouchers_same, show pairI 64 IntKind.i32.wrap IntKind.i16.wrap = pIVouchers from rfl, rdI_at h0, hws]; cases mapO pIVouchers ws <;> rfl)
  have HRR := Lib.hid hrr
  have HRC := Lib.hid hrc
  have HFAIL : Hid (rdVouchers l = none → rr = [] ∧ rc = 5) := Lib.hid (fun h => ⟨by rw [← hrr]; unfold rdRVouchers; rw [h]; rfl, by rw [← hrc]; unfold rdCVouchers; rw [h]; rfl⟩)
  have HWL : Hid (∀ x ∈ ws, x.length ≤ 1048576) := Lib.hid (fun x hx => by rw [← hws] at hx; have := spl_lenw hx; omega)
  have HWN : Hid (ws.length ≤ 1048577) := Lib.hid (by rw [← hws]; have := spl_count 32 l; omega)
  have HNL : Hid (∀ (L : List (Int × Int)), mapO pIVouchers ws = some L → ws.length ≤ 1048576) := Lib.hid (fun L hm => by
    cases hw : ws with
    | nil => simp
    | cons x r =>
      rw [hw] at hm
      have hx : x ≠ [] := by
        rintro rfl
        unfold mapO at hm
        rw [pIVouchers_nil] at hm
        cases hm
      have := spl_short (b := 32) (l := l) (x := x) (r := r) (by rw [hws, hw]) hx
      rw [hws, hw] at this
      omega)
  have HLT : Hid ((str l).toList = l) := Lib.hid (by unfold str; exact ByteArray.toList_mk l)
  clear hws hrr hrc h0 hl h
  go_enter Tryd.func102, Tryd.ntmps102
  go_wp2_with fail
  refine HSP.out.mono ?_
  rintro e w2 ⟨g, rfl, ows, b2⟩
  obtain ⟨nw, hnw⟩ : ∃ n, ws.length = n := ⟨_, rfl⟩
  have HNW := Lib.hid hnw
  rw [hnw] at ows
  rw [hnw]
  have hnwl : nw ≤ 1048577 := by rw [← hnw]; exact HWN.out
  have HOW := Lib.hid ows
  have HB2 := Lib.hid b2
  clear ows b2 hnw HSP
  go_wp2_with fail
  go_loopw [8, 18] (fun ov iv wr => ∃ (k : Nat) (L : List (Int × Int)), k ≤ nw ∧ iv = .int .i64 k ∧ OwnVo 140 w.heap.size wr ov L ∧ OwnW w.heap.size wr (.slice (some ⟨g, 0, none⟩) nw nw) ws ∧ mapO pIVouchers (ws.take k) = some L ∧ FitsVo L ∧ Below w.heap.size w wr) (fun _ i _ => nw - (intOf i).toNat)
  case atStart => exact ⟨0, [], Nat.zero_le _, rfl, World.ownsRow_nil _ _ _ _, HOW.out, rfl, ((fun p hp => by cases hp) : FitsVo []), HB2.out⟩
  case round =>
    obtain ⟨k, L, hk, rfl, ho, hw, hm, hfit, hb⟩ := hrel
    have HO := Lib.hid ho
    have HW := Lib.hid hw
    have HM := Lib.hid hm
    have HFIT := Lib.hid hfit
    have HB := Lib.hid hb
    have hwr : w.heap.size ≤ wr.heap.size := hb.size
    have hLl : L.length = k := by have h := mapO_len hm; rw [List.length_take, HNW.out] at h; omega
    obtain ⟨la, lc, hlv⟩ := own_is ho
    rw [hLl] at hlv
    have HLL := Lib.hid hLl
    subst hlv
    by_cases hlt : k < nw
    · obtain ⟨g', hg', _, hg, hcell⟩ := ownW_some hw (by omega)
      injection hg' with hg'
      injection hg' with hg'
      subst hg'
      have hck := hcell k hlt
      obtain ⟨x, hx⟩ : ∃ x, ws.getD k [] = x := ⟨_, rfl⟩
      rw [hx] at hck
      have hck : wr.cell? ⟨g, k, none⟩ = some (.string (str x)) := hck
      have hxm : x ∈ ws := by rw [← hx]; simp [List.getD, show k < ws.length by rw [HNW.out]; exact hlt]
      have HXL : Hid (x.length ≤ 1048576) := Lib.hid (HWL.out x hxm)
      have hkn : (k : Int) < (nw : Int) := by omega
      have hk0 : (0 : Int) ≤ (k : Int) := by omega
      have HTK : Hid (ws.take (k + 1) = ws.take k ++ [x]) := Lib.hid (by rw [List.take_succ_eq_append_getElem (by rw [HNW.out]; exact hlt), ← hx]; simp [List.getD, show k < ws.length by rw [HNW.out]; exact hlt])
      have HSTOP : Hid (pIVouchers x = none → rr = [] ∧ rc = 5) := Lib.hid (fun h => HFAIL.out (by rw [HRD.out, mapO_stop h hxm]))
      have HONE := Lib.hid (ironeVouchers_any x HXL.out wr (HRW.out.below' HB.out))
      clear hx hxm hcell hw ho hm hfit hb hLl hg
      go_wp2_with fail
      refine HONE.out.mono ?_
      rintro e w3 ⟨x0, x1, b, rfl, hr0, hr1, hp, b3⟩
      have HB3 := Lib.hid (HB.out.trans (b3.mono hwr))
      have HO3 := Lib.hid (HO.out.below b3)
      have HW3 := Lib.hid (ownW_below HW.out b3)
      have HP := Lib.hid hp
      have HR0 := Lib.hid hr0
      have HR1 := Lib.hid hr1
      have hs3 : w.heap.size ≤ w3.heap.size := HB3.out.size
      have BX : BlkA (w3.alloc (.cells #[.int .i32 0, .int .i16 0] 140)) w3.heap.size 140 #[.int .i32 0, .int .i16 0] := BlkA.new rfl _ _
      clear b3 hp hr0 hr1 hck HONE
      cases b with
      | false =>
        have hn : pIVouchers x = none := by
          rcases HP.out with ⟨e, _⟩ | ⟨_, e⟩
          · cases e
          · exact e
        obtain ⟨e1, e2⟩ := HSTOP.out hn
        subst e1; subst e2
        have HBE : Hid (Below w.heap.size w (w3.alloc (.cells #[.int .i32 x0, .int .i16 x1] 140))) := Lib.hid (HB3.out.alloc hs3 _)
        clear hn
        go_wp2_with fail
        go_ret2
        exact ⟨_, rfl, World.ownsRow_nil _ _ _ _, HBE.out⟩
      | true =>
      have HPY : Hid (pIVouchers x = some (x0, x1)) := Lib.hid (by
        rcases HP.out with ⟨_, e⟩ | ⟨e, _⟩
        · exact e
        · cases e)
      have HM2 : Hid (mapO pIVouchers (ws.take (k + 1)) = some (L ++ [(x0, x1)])) := Lib.hid (by rw [HTK.out, mapO_snoc HM.out, HPY.out]; rfl)
      have HFIT2 : Hid (FitsVo (L ++ [(x0, x1)])) := Lib.hid (fun p hp => by
        rcases List.mem_append.1 hp with hp | hp
        · exact HFIT.out p hp
        · have : p = (x0, x1) := by simpa using hp
          subst this
          have h0 := HR0.out
          have h1 := HR1.out
          show (_ ∧ _) ∧ (_ ∧ _); simp only; omega)
      clear BX
      have HOA : Hid (((w3.alloc (.cells #[.int .i32 x0, .int .i16 x1] 140)).alloc (.cells #[.int .i32 x0, .int .i16 x1] 140)).ownsRow w.heap.size 140 2 (.slice la k lc) k (flatVo L)) := Lib.hid (by have h := World.ownsRow.alloc (World.ownsRow.alloc (show w3.ownsRow w.heap.size 140 2 (.slice la k lc) L.length (flatVo L) from HO3.out) (.cells #[.int .i32 x0, .int .i16 x1] 140)) (.cells #[.int .i32 x0, .int .i16 x1] 140); rw [HLL.out] at h; exact h)
      have HWA : Hid (OwnW w.heap.size ((w3.alloc (.cells #[.int .i32 x0, .int .i16 x1] 140)).alloc (.cells #[.int .i32 x0, .int .i16 x1] 140)) (.slice (some ⟨g, 0, none⟩) nw nw) ws) := Lib.hid (ownW_below HW3.out (((Below.refl _ _).alloc (Nat.le_refl _) _).alloc (by simp) _))
      have HBA : Hid (Below w.heap.size w ((w3.alloc (.cells #[.int .i32 x0, .int .i16 x1] 140)).alloc (.cells #[.int .i32 x0, .int .i16 x1] 140))) := Lib.hid ((HB3.out.alloc hs3 _).alloc (by simp; omega) _)
      have hsz1 : (w3.alloc (.cells #[.int .i32 x0, .int .i16 x1] 140)).heap.size = w3.heap.size + 1 := by simp
      have hnew : ∀ j u, ([Value.int .i32 x0, .int .i16 x1] : List Value)[j]? = some u → ((w3.alloc (.cells #[.int .i32 x0, .int .i16 x1] 140)).alloc (.cells #[.int .i32 x0, .int .i16 x1] 140)).cell? (Addr.add ⟨w3.heap.size + 1, 0, none⟩ j) = some u := by rw [← hsz1]; exact newVouchers
      have HNEW := Lib.hid hnew
      clear hsz1 hnew
      clear HP
      go_wp2_with (at_builtin; refine wpList_append_own _ rfl _ _ 63 rfl w.heap.size 140 i0 (.agg #[.int .i32 0, .int .i16 0]) 2 8 Tryd.underlying63 hi hz0 hz1 hz2 rfl (by decide) _ _ _ rfl HOA.out ⟨w3.heap.size + 1, 0, none⟩ 1 1 [.int .i32 x0, .int .i16 x1] rfl rfl HNEW.out onesVouchers ?c3 ?c4 ?c5 ?_)
      case c3 => unfold maxLen; omega
      case c4 => omega
      case c5 => first | omega | (simp; omega)
      intro v' w9 hown' hgrow _
      have HO9 : Hid (OwnVo 140 w.heap.size w9 v' (L ++ [(x0, x1)])) := Lib.hid (by
        unfold OwnVo
        rw [List.length_append, HLL.out]
        have e : flatVo (L ++ [(x0, x1)]) = flatVo L ++ [.int .i32 x0, .int .i16 x1] := by simp [flatVo, flatE, encVo]
        rw [e]
        exact hown')
      have HW9 : Hid (OwnW w.heap.size w9 (.slice (some ⟨g, 0, none⟩) nw nw) ws) := Lib.hid (World.ownsRow.kept HWA.out hgrow (.inr (fun e => row_typesW (by decide) HWA.out HOA.out _ rfl (by rw [← e]; rfl))))
      have HB9 : Hid (Below w.heap.size w w9) := Lib.hid (HBA.out.grown hgrow (by simp; omega) (fun j e => (HOA.out.lt j e).1))
      clear hown' hgrow
      go_wp2_with fail
      go_roundw
      case rel => exact ⟨k + 1, _, by omega, by go_num, HO9.out, HW9.out, HM2.out, HFIT2.out, HB9.out⟩
      case measure => simp [intOf]; omega
    · have hkw : k = nw := by omega
      have HMA : Hid (mapO pIVouchers ws = some L) := Lib.hid (by
        have h := hm
        rw [hkw, ← HNW.out, List.take_length] at h
        exact h)
      have HTL := Lib.hid (iwVouchers_any _ L wr HO.out.reads HFIT.out (by rw [HLL.out, hkw, ← HNW.out]; exact HNL.out L HMA.out) (HRW.out.below' HB.out).2.2.2)
      clear hw ho hm hfit hb hLl hkw
      obtain ⟨t, ht⟩ : ∃ t, textVouchers L = t := ⟨_, rfl⟩
      have HT := Lib.hid ht
      rw [ht] at HTL
      have HTT : Hid ((str t).toList = t) := Lib.hid (by unfold str; exact ByteArray.toList_mk t)
      clear ht
      go_wp2_with fail
      refine HTL.out.mono ?_
      rintro e w4 ⟨rfl, b4⟩
      have HB4 := Lib.hid (HB.out.trans (b4.mono hwr))
      have HO4 := Lib.hid (HO.out.below b4)
      clear b4 HTL
      by_cases htl : t = l
      · have tt : ((str t).toList == (str l).toList) = true := by rw [htl]; simp
        have tq : (str t).toList = (str l).toList := by rw [htl]
        have hsome : rdVouchers l = some L := by rw [HRD.out, HMA.out]; simp only; rw [if_pos (by rw [HT.out]; exact htl)]
        have e1 : rr = L := by rw [← HRR.out]; unfold rdRVouchers; rw [hsome]; rfl
        have e2 : rc = 0 := by rw [← HRC.out]; unfold rdCVouchers; rw [hsome]; rfl
        subst e1
        subst e2
        clear hsome htl
        go_wp2_with fail
        go_ret2
        exact ⟨_, rfl, HO4.out, HB4.out⟩
      · have tq : ¬ (str t).toList = (str l).toList := by rw [HTT.out, HLT.out]; exact htl
        have tt : ((str t).toList == (str l).toList) = false := by rw [beq_eq_false_iff_ne]; exact tq
        obtain ⟨e1, e2⟩ := HFAIL.out (by rw [HRD.out, HMA.out]; simp only; rw [if_neg (by rw [HT.out]; exact htl)])
        subst e1; subst e2
        clear htl
        go_wp2_with fail
        go_ret2
        exact ⟨_, rfl, World.ownsRow_nil _ _ _ _, HB4.out⟩

set_option maxHeartbeats 1000000 in
theorem ireadVouchers_any (l : List UInt8) (hl : l.length ≤ 1048576) (w : World) (h : RdW w) :
    Calls Tryd.prog 46 #[.string (str l)] w (RetRdVouchers w.heap.size w (rdRVouchers l) (rdCVouchers l)) := by
  have HRW := Lib.hid (irwVouchers_any l hl w h)
  clear h hl
  go_enter Tryd.func46, Tryd.ntmps46
  go_wp2_with fail
  refine HRW.out.mono ?_
  rintro e w2 ⟨v, rfl, o, b⟩
  go_wp2_with fail
  go_ret2
  exact ⟨_, rfl, o, b⟩
end Go.Proofs.YtbclmafplaipaaaDoor
