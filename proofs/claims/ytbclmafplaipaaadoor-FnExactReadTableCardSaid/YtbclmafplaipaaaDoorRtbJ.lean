/-
  Reading the text of a table: the program's ReadTable.
-/
import Derived.Test.YtbclmafplaipaaaDoorRtbI
import Derived.Test.YtbclmafplaipaaaDoorTtI
namespace Go.Proofs.YtbclmafplaipaaaDoor
open Go Go.RowKit
set_option linter.unusedVariables false

theorem blk_grownI {w w9 : World} {B : Nat} {T : TypeId} {x y : Value} {row : Option Nat} (h : Blk2 w B T x y) (g : w.grownBy w9 row) (hne : ∀ q, row = some q → q ≠ B) : Blk2 w9 B T x y :=
  (g.block B h.lt (fun e => hne B e.symm rfl)).trans h
theorem koutSetI (w : World) (p : Addr) (u : Value) : KeepsOut p.block (p.block + 1) w (w.setCell p u) := by
  have h : Below p.block w (w.setCell p u) := (Below.refl _ _).setCell (Nat.le_refl _) _
  exact ⟨h.os, h.tape, h.output, h.size, fun k hk hd => heap_setCell_other w p k u (by omega)⟩
set_option maxHeartbeats 1600000 in
set_option maxRecDepth 100000 in
theorem ireadT_any (l : List UInt8) (hl : l.length ≤ 1048576) (w : World) (h : RdW w) :
    Calls Tryd.prog 22 #[.string (str l)] w (RetRt w (rtS l) (rtR l) (rtC l)) := by
  obtain ⟨o0, ho0, oz0, oz1, oz2⟩ := info_parts info_h
  obtain ⟨rs, hrs⟩ : ∃ r, rtS l = r := ⟨_, rfl⟩
  obtain ⟨rr, hrr⟩ : ∃ r, rtR l = r := ⟨_, rfl⟩
  obtain ⟨rc, hrc⟩ : ∃ r, rtC l = r := ⟨_, rfl⟩
  rw [hrs, hrr, hrc]
  have B20 : Blk2 (w.alloc (.cells #[nilS, nilS] 36)) w.heap.size 36 nilS nilS := Blk2.new rfl _ _ _
  have b10 : Below w.heap.size w (w.alloc (.cells #[nilS, nilS] 36)) := (Below.refl _ _).alloc (Nat.le_refl _) _
  have B21 := B20.alloc (.cells #[nilS, nilS] 36)
  have b11 : Below w.heap.size w ((w.alloc (.cells #[nilS, nilS] 36)).alloc (.cells #[nilS, nilS] 36)) := b10.alloc (by simp) _
  obtain ⟨B6, hB6⟩ : ∃ B, w.heap.size + 1 = B := ⟨_, rfl⟩
  have B60 : Blk2 ((w.alloc (.cells #[nilS, nilS] 36)).alloc (.cells #[nilS, nilS] 36)) B6 36 nilS nilS := Blk2.new (by simp; exact hB6) _ _ _
  obtain ⟨W1, hW1⟩ : ∃ W, (w.alloc (.cells #[nilS, nilS] 36)).alloc (.cells #[nilS, nilS] 36) = W := ⟨_, rfl⟩
  have HW1 := Lib.hid hW1
  rw [hW1] at B21 b11 B60
  have hb6 : w.heap.size < B6 := by omega
  have HB6 := Lib.hid hB6
  have HB10 := Lib.hid b11
  have HRW := Lib.hid h
  have HST0 := Lib.hid (TabAt.start B21 B60 hb6)
  have hs1 : B6 < W1.heap.size := B60.lt
  have HTR := Lib.hid (itrim_any l hl W1)
  have HSP := Lib.hid (ispl_any (trimS l) 10 (by have := trimS_len l; omega) W1 (h.below b11))
  have HNO : Hid (tabI l = none → rs = [] ∧ rr = [] ∧ rc = 5) := Lib.hid (fun h => by rw [← hrs, ← hrr, ← hrc]; exact rt_no (by rw [tab_same]; exact h))
  have HYES : Hid (∀ S R, tabI l = some (S, R) → rs = S ∧ rr = R ∧ rc = 0) := Lib.hid (fun S R h => by rw [← hrs, ← hrr, ← hrc]; exact rt_yes (by rw [tab_same]; exact h))
  obtain ⟨ws, hws⟩ : ∃ ws, spl 10 (trimS l) = ws := ⟨_, rfl⟩
  obtain ⟨nw, hnw⟩ : ∃ n, ws.length = n := ⟨_, rfl⟩
  have hnp : 0 < nw := by
    have h1 := List.length_pos_iff.2 (spl_ne 10 (trimS l))
    rw [hws, hnw] at h1
    exact h1
  have HTM : Hid (tabI l = match mapO lineI ws with
      | some (S :: R) => if textT S R = l then some (S, R) else none
      | _ => none) := Lib.hid (by
    unfold tabI
    rw [hws]
    cases mapO lineI ws with
    | none => rfl
    | some L => cases L <;> rfl)
  rw [hws] at HSP
  have HWL : Hid (∀ x ∈ ws, x.length ≤ 1048576) := Lib.hid (fun x hx => by rw [← hws] at hx; have := spl_lenT hx; have := trimS_len l; omega)
  have hnwl : nw ≤ 1048577 := by have h := spl_count 10 (trimS l); rw [hws, hnw] at h; have := trimS_len l; omega
  have HRB : Hid (∀ S R, mapO lineI ws = some (S :: R) → R.length ≤ 1048576) := Lib.hid (fun S R h => by have := mapO_lenT h; rw [hnw] at this; simp at this; omega)
  have HNW := Lib.hid hnw
  have HLT : Hid ((str l).toList = l) := Lib.hid (by unfold str; exact ByteArray.toList_mk l)
  have HF : Hid (∀ W, Blk2 W w.heap.size 36 nilS nilS → Below w.heap.size w W → ((W.setCell ⟨w.heap.size, 0, none⟩ nilS).setCell ⟨w.heap.size, 1, none⟩ nilS).cell? ⟨w.heap.size, 0, none⟩ = some nilS ∧ ((W.setCell ⟨w.heap.size, 0, none⟩ nilS).setCell ⟨w.heap.size, 1, none⟩ nilS).cell? ⟨w.heap.size, 1, none⟩ = some nilS ∧ Below w.heap.size w ((W.setCell ⟨w.heap.size, 0, none⟩ nilS).setCell ⟨w.heap.size, 1, none⟩ nilS)) := Lib.hid (fun W hb hB => by
    have h := (hb.set0 nilS).set1 nilS
    exact ⟨h.at0, h.at1, (hB.setCell (by simp) _).setCell (by simp) _⟩)
  clear hws hrs hrr hrc hl hnw hW1 B20 b10 B21 b11 B60 h hB6
  go_enter Tryd.func22, Tryd.ntmps22
  go_wp2_with fail
  rw [HW1.out]
  refine HTR.out.mono ?_
  rintro e _ ⟨rfl, rfl⟩
  go_wp2_with fail
  refine HSP.out.mono ?_
  rintro e w2 ⟨g, rfl, ows, b2⟩
  rw [HNW.out] at ows
  rw [HNW.out]
  have HOW := Lib.hid ows
  have HB2 := Lib.hid (HB10.out.trans (b2.mono (by omega)))
  have HST := Lib.hid (HST0.out.below b2)
  clear ows b2 HSP HTR
  rw [HB6.out]
  go_wp2_with fail
  go_loopw [13] (fun iv wr => ∃ (k : Nat) (L : List (List Int)) (u1 u2 : Value) (us : List Value) (mid : Nat), k ≤ nw ∧ iv = .int .i64 k ∧ mapO lineI (ws.take k) = some L ∧ (∀ r ∈ L, Fit16 r ∧ r.length ≤ 1048576) ∧ TabAt 36 wr w.heap.size B6 k L u1 u2 us mid ∧ OwnW W1.heap.size wr (.slice (some ⟨g, 0, none⟩) nw nw) ws ∧ Below w.heap.size w wr) (fun i _ => nw - (intOf i).toNat)
  case atStart => exact ⟨0, [], nilS, nilS, [], _, Nat.zero_le _, rfl, rfl, (fun r hr => by cases hr), HST.out, HOW.out, HB2.out⟩
  case round =>
      obtain ⟨k, L, u1, u2, us, mid, hk, rfl, hm, hfit, hta, hw, hb⟩ := hrel
      have HM := Lib.hid hm
      have HFIT := Lib.hid hfit
      have HTA := Lib.hid hta
      have HW := Lib.hid hw
      have HBW := Lib.hid hb
      have hwr : w.heap.size ≤ wr.heap.size := hb.size
      have hLl : L.length = k := by have h := mapO_lenT hm; rw [List.length_take, HNW.out] at h; omega
      have HLL := Lib.hid hLl
      obtain ⟨a1, c1, hu1⟩ := own_is hta.s
      obtain ⟨m1, hm1⟩ : ∃ m, (L.headD []).length = m := ⟨_, rfl⟩
      rw [hm1] at hu1
      clear hm1
      obtain ⟨a2, c2, hu2⟩ := own_is hta.o
      have hmid1 := hta.m1
      have hmid2 := hta.m2
      by_cases hlt : k < nw
      · obtain ⟨g', hg', _, hg, hcell⟩ := ownW_someT hw (by omega)
        injection hg' with hg'
        injection hg' with hg'
        subst hg'
        have hck := hcell k hlt
        obtain ⟨x, hx⟩ : ∃ x, ws.getD k [] = x := ⟨_, rfl⟩
        rw [hx] at hck
        replace hck : wr.cell? ⟨g, k, none⟩ = some (.string (str x)) := hck
        have hxm : x ∈ ws := by rw [← hx]; simp [List.getD, show k < ws.length by rw [HNW.out]; omega]
        have HXL : Hid (x.length ≤ 1048576) := Lib.hid (HWL.out x hxm)
        have hkw : (k : Int) < (nw : Int) := by omega
        have hk0 : (0 : Int) ≤ (k : Int) := by omega
        have HTK : Hid (ws.take (k + 1) = ws.take k ++ [x]) := Lib.hid (by rw [List.take_succ_eq_append_getElem (by rw [HNW.out]; omega), ← hx]; simp [List.getD, show k < ws.length by rw [HNW.out]; omega])
        have HXN : Hid (x ∈ ws) := Lib.hid hxm
        have HLN := Lib.hid (ireadL_any x HXL.out wr (HRW.out.below' hb))
        clear hx hxm hta hb hm hfit hLl hcell hg hw
        go_wp2_with fail
        refine HLN.out.mono ?_
        rintro e w3 ⟨va, vn, vc, b, r, rfl, hro, hrc, b3⟩
        have HRO := Lib.hid hro
        have HRC := Lib.hid hrc
        have HB3 := Lib.hid b3
        have HTA3 := Lib.hid (HTA.out.below b3)
        have HW3 := Lib.hid (ownW_below HW.out b3)
        have HBW3 := Lib.hid (HBW.out.trans (b3.mono (by omega)))
        have hs3 : wr.heap.size ≤ w3.heap.size := b3.size
        have y0 := HTA3.out.b2.at0
        have y1 := HTA3.out.b2.at1
        have yf0 := HTA3.out.b2.frozen 0
        have yf1 := HTA3.out.b2.frozen 1
        clear hro hrc b3 HLN hck
        cases b with
        | false =>
          have hnone : lineI x = none := by
            rcases HRC.out with ⟨e, _⟩ | ⟨_, e⟩
            · cases e
            · exact e
          obtain ⟨e1, e2, e3⟩ := HNO.out (by rw [HTM.out, mapO_stopT hnone HXN.out])
          subst e1; subst e2; subst e3
          obtain ⟨z0, z1, hBF3⟩ := HF.out w3 HTA3.out.b2 HBW3.out
          have HZ0 := Lib.hid z0
          have HZ1 := Lib.hid z1
          have HBF3 := Lib.hid hBF3
          clear z0 z1 hBF3 hnone
          go_wp2_with fail
          have z0 := HZ0.out
          have z1 := HZ1.out
          exact bodyPost_ret (v := .tuple #[.agg #[nilS, nilS], .int .i64 5]) (by simp [results, Tryd.results22, go_sem, z0, z1]) rfl ⟨_, rfl, ownT_nil _ _ _ HBF3.out.size, HBF3.out⟩
        | true =>
        obtain ⟨hr1, hr2⟩ : lineI x = some r ∧ Fit16 r := by
          rcases HRC.out with ⟨_, e1, e2⟩ | ⟨e, _⟩
          · exact ⟨e1, e2⟩
          · cases e
        have HM2 : Hid (mapO lineI (ws.take (k + 1)) = some (L ++ [r])) := Lib.hid (by rw [HTK.out, mapO_snocT HM.out, hr1]; rfl)
        have HFIT2 : Hid (∀ q ∈ L ++ [r], Fit16 q ∧ q.length ≤ 1048576) := Lib.hid (fun q hq => by
          rcases List.mem_append.1 hq with hq | hq
          · exact HFIT.out q hq
          · have : q = r := by simpa using hq
            subst this
            exact ⟨hr2, by have := lineI_len hr1; have := HXL.out; omega⟩)
        clear hr1 hr2 y0 y1 yf0 yf1
        by_cases hk00 : k = 0
        · subst hk00
          have tk : (((0 : Nat) : Int) == 0) = true := rfl
          have hL0 : L = [] := List.eq_nil_of_length_eq_zero HLL.out
          subst hL0
          have HTE := Lib.hid (TabAt.first HTA3.out HRO.out (by omega))
          have HBE3 : Hid (Below w.heap.size w (w3.setCell ⟨B6, 0, none⟩ (.slice va vn vc))) := Lib.hid (HBW3.out.setCell (by simp; omega) _)
          have HWE : Hid (OwnW W1.heap.size (w3.setCell ⟨B6, 0, none⟩ (.slice va vn vc)) (.slice (some ⟨g, 0, none⟩) nw nw) ws) := Lib.hid (row_other HW3.out _ _ (by show B6 < _; omega))
          have q0 := HTA3.out.b6.at0
          have q1 := HTA3.out.b6.at1
          have qf0 := HTA3.out.b6.frozen 0
          have qf1 := HTA3.out.b6.frozen 1
          rw [hu1] at q0
          rw [hu2] at q1
          go_wp2_with fail
          go_roundw
          case rel => exact ⟨1, _, _, _, _, _, by omega, rfl, HM2.out, HFIT2.out, HTE.out, HWE.out, HBE3.out⟩
          case measure => simp [intOf]; omega
        · obtain ⟨j, rfl⟩ : ∃ j, k = j + 1 := ⟨k - 1, by omega⟩
          have tk : (((j + 1 : Nat) : Int) == 0) = false := by simp; omega
          rw [Nat.add_sub_cancel] at hu2
          have HOA : Hid ((w3.alloc (.cells #[.slice va vn vc] 33)).ownsRow mid 33 1 (.slice a2 j c2) j us) := Lib.hid (by
            have h := World.ownsRow.alloc HTA3.out.o (.cells #[.slice va vn vc] 33)
            rw [hu2, Nat.add_sub_cancel] at h
            exact h)
          have q0 := HTA3.out.b6.at0
          have q1 := HTA3.out.b6.at1
          have qf0 := HTA3.out.b6.frozen 0
          have qf1 := HTA3.out.b6.frozen 1
          have HB6A : Hid (Blk2 (w3.alloc (.cells #[.slice va vn vc] 33)) B6 36 u1 u2) := Lib.hid (HTA3.out.b6.alloc _)
          have HBWA : Hid (Below w.heap.size w (w3.alloc (.cells #[.slice va vn vc] 33))) := Lib.hid (HBW3.out.alloc (by omega) _)
          have HU2 := Lib.hid hu2
          rw [hu1] at q0
          rw [hu2] at q1
          clear hu2
          go_wp2_with (at_builtin; refine wpList_append_own_at _ rfl _ _ 34 rfl mid 33 o0 (.slice none 0 0) 1 24 Tryd.underlying34 ho0 oz0 oz1 oz2 rfl (by decide) _ _ _ rfl HOA.out ⟨w3.heap.size, 0, none⟩ 1 1 [.slice va vn vc] rfl rfl (cell_one_new _ _ _) (fun u hu => by simp at hu; subst hu; rfl) ?d3 ?d4 ?d5 ?_)
          case d3 => unfold maxLen; omega
          case d4 => omega
          case d5 => first | (simp; omega) | omega
          intro v' w9 hown' hgrow _ _
          obtain ⟨a9, c9, hv9⟩ := own_is hown'
          subst hv9
          have HTE := Lib.hid (TabAt.more (T := 36) (by decide) HTA.out (by omega) HLL.out HB3.out HRO.out hown' (by rw [HU2.out]; exact hgrow))
          have hb69 : Blk2 w9 B6 36 u1 u2 := blk_grownI HB6A.out hgrow (fun q hq => by have := (HOA.out.lt q hq).1; omega)
          have HBW9 : Hid (Below w.heap.size w w9) := Lib.hid (HBWA.out.grown hgrow (by simp; omega) (fun q hq => by have := (HOA.out.lt q hq).1; omega))
          have HBE9 : Hid (Below w.heap.size w (w9.setCell ⟨B6, 1, none⟩ (.slice a9 (j + 1) c9))) := Lib.hid (HBW9.out.setCell (by simp; omega) _)
          have HWA : Hid (OwnW W1.heap.size (w3.alloc (.cells #[.slice va vn vc] 33)) (.slice (some ⟨g, 0, none⟩) nw nw) ws) := Lib.hid (ownW_below HW3.out ((Below.refl _ _).alloc (Nat.le_refl _) _))
          have HW9 : Hid (OwnW W1.heap.size w9 (.slice (some ⟨g, 0, none⟩) nw nw) ws) := Lib.hid (World.ownsRow.kept HWA.out hgrow (.inr (fun e => row_typesT (by decide) HWA.out HOA.out _ rfl (by rw [← e]; rfl))))
          have HWE : Hid (OwnW W1.heap.size (w9.setCell ⟨B6, 1, none⟩ (.slice a9 (j + 1) c9)) (.slice (some ⟨g, 0, none⟩) nw nw) ws) := Lib.hid (row_other HW9.out _ _ (by show B6 < _; omega))
          have p0 := hb69.at0
          have p1 := hb69.at1
          have pf0 := hb69.frozen 0
          have pf1 := hb69.frozen 1
          rw [hu1] at p0
          rw [HU2.out] at p1
          clear hown' hgrow hb69 q0 q1 qf0 qf1
          go_wp2_with fail
          go_roundw
          case rel => exact ⟨j + 1 + 1, _, _, _, _, _, by omega, by go_num, HM2.out, HFIT2.out, HTE.out, HWE.out, HBE9.out⟩
          case measure => simp [intOf]; omega
      · obtain ⟨m2, hm2⟩ : ∃ m, k - 1 = m := ⟨_, rfl⟩
        rw [hm2] at hu2
        clear hm2
        have hkn : k = nw := by omega
        have HMA : Hid (mapO lineI ws = some L) := Lib.hid (by
          have h := hm
          rw [hkn, ← HNW.out, List.take_length] at h
          exact h)
        subst hkn
        obtain ⟨S, R, hLSR⟩ : ∃ S R, L = S :: R := by
          cases L with
          | nil => simp at hLl; omega
          | cons S R => exact ⟨S, R, rfl⟩
        subst hLSR
        have hrl : R.length + 1 = k := by simpa using hLl
        have hS := hfit S (by simp)
        have hR : ∀ j, j < R.length → Fit16 (R.getD j []) ∧ (R.getD j []).length ≤ 1048576 := fun j hj => hfit _ (by simp [List.getD, hj])
        have HOWN := Lib.hid (hta.own (lo := B6) hrl (Nat.le_refl _))
        have HTX := Lib.hid (itab_any _ S R wr HOWN.out.reads ⟨hS.1, fun j hj => (hR j hj).1, hS.2, HRB.out S R HMA.out, fun j hj => (hR j hj).2⟩ (HRW.out.below' hb).2.2.2)
        have HTM3 : Hid (tabI l = if textT S R = l then some (S, R) else none) := Lib.hid (by
          rw [HTM.out, HMA.out])
        obtain ⟨t, ht⟩ : ∃ t, textT S R = t := ⟨_, rfl⟩
        have HT := Lib.hid ht
        rw [ht] at HTX
        have HTT : Hid ((str t).toList = t) := Lib.hid (by unfold str; exact ByteArray.toList_mk t)
        have x0 := hta.b6.at0
        have x1 := hta.b6.at1
        have xf0 := hta.b6.frozen 0
        have xf1 := hta.b6.frozen 1
        rw [hu1] at x0
        rw [hu2] at x1
        rw [hu1, hu2] at HTX
        clear hS hR hta hb hm hfit hLl ht hw
        go_wp2_with fail
        refine HTX.out.mono ?_
        rintro e w4 ⟨rfl, b4⟩
        have HB4 := Lib.hid (HBW.out.trans (b4.mono (by omega)))
        have HTA4 := Lib.hid (HTA.out.below b4)
        have HOWN4 := Lib.hid (HOWN.out.below b4)
        have hs4 : wr.heap.size ≤ w4.heap.size := b4.size
        have y0 := HTA4.out.b2.at0
        have y1 := HTA4.out.b2.at1
        have yf0 := HTA4.out.b2.frozen 0
        have yf1 := HTA4.out.b2.frozen 1
        clear b4 HTX x0 x1 xf0 xf1
        by_cases htl : t = l
        rotate_left
        · have tq : ¬ (str t).toList = (str l).toList := by rw [HTT.out, HLT.out]; exact htl
          have tt : ((str t).toList == (str l).toList) = false := by rw [beq_eq_false_iff_ne]; exact tq
          obtain ⟨e1, e2, e3⟩ := HNO.out (by rw [HTM3.out, if_neg (by rw [HT.out]; exact htl)])
          subst e1; subst e2; subst e3
          obtain ⟨z0, z1, hBF4⟩ := HF.out w4 HTA4.out.b2 HB4.out
          have HZ0 := Lib.hid z0
          have HZ1 := Lib.hid z1
          have HBF4 := Lib.hid hBF4
          clear z0 z1 hBF4 htl
          go_wp2_with fail
          have z0 := HZ0.out
          have z1 := HZ1.out
          exact bodyPost_ret (v := .tuple #[.agg #[nilS, nilS], .int .i64 5]) (by simp [results, Tryd.results22, go_sem, z0, z1]) rfl ⟨_, rfl, ownT_nil _ _ _ HBF4.out.size, HBF4.out⟩
        · have tt : ((str t).toList == (str l).toList) = true := by rw [htl]; simp
          have tq : (str t).toList = (str l).toList := by rw [htl]
          obtain ⟨e1, e2, e3⟩ := HYES.out S R (by rw [HTM3.out, if_pos (by rw [HT.out]; exact htl)])
          subst e1; subst e2; subst e3
          have h6 := (HTA4.out.b2.set0 u1).set1 u2
          have HZ0 := Lib.hid h6.at0
          have HZ1 := Lib.hid h6.at1
          have x0 := HTA4.out.b6.at0
          have x1 := HTA4.out.b6.at1
          have HBF4 : Hid (Below w.heap.size w ((w4.setCell ⟨w.heap.size, 0, none⟩ u1).setCell ⟨w.heap.size, 1, none⟩ u2)) := Lib.hid ((HB4.out.setCell (by simp) _).setCell (by simp) _)
          have HOE : Hid (OwnTD w.heap.size ((w4.setCell ⟨w.heap.size, 0, none⟩ u1).setCell ⟨w.heap.size, 1, none⟩ u2).heap.size ((w4.setCell ⟨w.heap.size, 0, none⟩ u1).setCell ⟨w.heap.size, 1, none⟩ u2) (.agg #[u1, u2]) rs rr) := Lib.hid (((HOWN4.out.out (koutSetI w4 ⟨w.heap.size, 0, none⟩ u1) (.inr (by show w.heap.size + 1 ≤ B6; omega))).out (koutSetI _ ⟨w.heap.size, 1, none⟩ u2) (.inr (by show w.heap.size + 1 ≤ B6; omega))).mono (by omega) (by simp; omega))
          rw [hu1] at x0 HZ0 HZ1
          rw [hu2] at x1 HZ0 HZ1
          rw [hu1, hu2] at HBF4 HOE
          clear htl h6 hu1 hu2
          go_wp2_with fail
          have z0 := HZ0.out
          have z1 := HZ1.out
          exact bodyPost_ret (v := .tuple #[.agg #[.slice a1 m1 c1, .slice a2 m2 c2], .int .i64 0]) (by simp [results, Tryd.results22, go_sem, z0, z1]) rfl ⟨_, rfl, HOE.out, HBF4.out⟩
end Go.Proofs.YtbclmafplaipaaaDoor
