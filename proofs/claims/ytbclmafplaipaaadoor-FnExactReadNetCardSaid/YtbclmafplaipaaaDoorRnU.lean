/-
  Reading the text of a net: the model's ReadNet, the walk.
-/
import Derived.Test.YtbclmafplaipaaaDoorRnT
namespace Go.Proofs.YtbclmafplaipaaaDoor
open Go Go.RowKit
set_option linter.unusedVariables false

set_option maxHeartbeats 1600000 in
set_option maxRecDepth 100000 in
theorem sreadN_any (l : List UInt8) (hl : l.length ≤ 1048576) (w : World) :
    Calls Tryd.prog 50 #[.string (str l)] w (RetRn w (rnS l) (rnY l) (rnL l) (rnC l)) := by
  obtain ⟨o0, ho0, oz0, oz1, oz2⟩ := info_parts infoR_La
  obtain ⟨rs, hrs⟩ : ∃ r, rnS l = r := ⟨_, rfl⟩
  obtain ⟨ry, hry⟩ : ∃ r, rnY l = r := ⟨_, rfl⟩
  obtain ⟨rl, hrl⟩ : ∃ r, rnL l = r := ⟨_, rfl⟩
  obtain ⟨rc, hrc⟩ : ∃ r, rnC l = r := ⟨_, rfl⟩
  rw [hrs, hry, hrl, hrc]
  have HNO : Hid (netM l = none → rs = 0 ∧ ry = 0 ∧ rl = [] ∧ rc = 5) := Lib.hid (fun h => by rw [← hrs, ← hry, ← hrl, ← hrc]; exact rn_no h)
  have HYES : Hid (∀ a b L, netM l = some (a, b, L) → rs = a ∧ ry = b ∧ rl = L ∧ rc = 0) := Lib.hid (fun a b L h => by rw [← hrs, ← hry, ← hrl, ← hrc]; exact rn_yes h)
  have B20 : BlkA (w.alloc (.cells #[.int .i8 0, .int .i16 0, .slice none 0 0] 72)) w.heap.size 72 #[.int .i8 0, .int .i16 0, .slice none 0 0] := BlkA.new rfl _ _
  have b10 : Below w.heap.size w (w.alloc (.cells #[.int .i8 0, .int .i16 0, .slice none 0 0] 72)) := (Below.refl _ _).alloc (Nat.le_refl _) _
  obtain ⟨W1, hW1⟩ : ∃ W, w.alloc (.cells #[.int .i8 0, .int .i16 0, .slice none 0 0] 72) = W := ⟨_, rfl⟩
  have HW1 := Lib.hid hW1
  rw [hW1] at B20 b10
  have HB20 := Lib.hid B20
  have HB10 := Lib.hid b10
  have hs1 : w.heap.size < W1.heap.size := B20.lt
  have HSP := Lib.hid (ssplit_any l 10 hl W1)
  have HHD := Lib.hid (@netM_head l)
  have HLA := Lib.hid (@netM_lane l)
  obtain ⟨ws, hws⟩ : ∃ ws, spl 10 l = ws := ⟨_, rfl⟩
  obtain ⟨n, hn⟩ : ∃ n, nN l = n := ⟨_, rfl⟩
  obtain ⟨nw, hnw⟩ : ∃ n, ws.length = n := ⟨_, rfl⟩
  have hnn : nw = n + 1 := by
    have h1 := List.length_pos_iff.2 (spl_ne 10 l)
    rw [hws, hnw] at h1
    unfold nN at hn
    rw [hws, hnw] at hn
    omega
  have HCON : Hid (¬ (ws.getD n [] = [] ∧ 1 ≤ n ∧ n ≤ 21) → netM l = none) := Lib.hid (fun h => by unfold netM; rw [hn, hws, if_neg h])
  have HFIN : Hid (∀ a b L, (ws.getD n [] = [] ∧ 1 ≤ n ∧ n ≤ 21) → pairM 32 ok40 (ws.getD 0 []) = some (a, b) → mapO laneM ((ws.take n).drop 1) = some L → netM l = if vldN a b L = true then some (a, b, L) else none) := Lib.hid (fun a b L h h1 h2 => by unfold netM; rw [hn, hws, if_pos h, h1, h2])
  rw [hws] at HSP HHD HLA
  rw [hn] at HLA
  have HWL : Hid (∀ x ∈ ws, x.length ≤ 1048576) := Lib.hid (fun x hx => by rw [← hws] at hx; have := spl_lenN hx; omega)
  have hnl : n ≤ 1048576 := by have h := spl_count 10 l; rw [hws, hnw] at h; omega
  have HNW := Lib.hid hnw
  have hn1 : (nw : Int) - 1 = (n : Int) := by omega
  have hnwl : nw ≤ 1048577 := by omega
  clear hws hn hrs hry hrl hrc hl hnw hW1 B20 b10
  go_enter Tryd.func50, Tryd.ntmps50
  go_wp2_with fail
  rw [HW1.out]
  refine HSP.out.mono ?_
  rintro e w2 ⟨sv, rfl, ows, b2⟩
  obtain ⟨sa, sc, hsv⟩ := own_is ows
  rw [HNW.out] at hsv
  subst hsv
  obtain ⟨g, rfl, _, hcell⟩ := ownW_cells (show OwnW W1.heap.size w2 (.slice sa nw sc) ws from ows) (by omega)
  obtain ⟨y, hy⟩ : ∃ y, ws.getD n [] = y := ⟨_, rfl⟩
  have hcy := hcell n (by omega)
  rw [hy] at hcy
  have HCL := Lib.hid hcell
  have HGL : Hid (g < w2.heap.size) := Lib.hid (World.block_lt_of_cell? w2 _ hcy)
  have HB2 := Lib.hid (blink HB10.out b2)
  have HBK := Lib.hid (HB20.out.below b2)
  have hs2 : W1.heap.size ≤ w2.heap.size := b2.size
  have hnr : (0 : Int) ≤ (n : Int) := by omega
  have hnr2 : (n : Int) < (nw : Int) := by omega
  have HF : Hid (∀ W, BlkA W w.heap.size 72 #[.int .i8 0, .int .i16 0, .slice none 0 0] → Below w.heap.size w W →
      (((W.setCell ⟨w.heap.size, 0, none⟩ (.int .i8 0)).setCell ⟨w.heap.size, 1, none⟩ (.int .i16 0)).setCell ⟨w.heap.size, 2, none⟩ (.slice none 0 0)).cell? ⟨w.heap.size, 0, none⟩ = some (.int .i8 0) ∧
      (((W.setCell ⟨w.heap.size, 0, none⟩ (.int .i8 0)).setCell ⟨w.heap.size, 1, none⟩ (.int .i16 0)).setCell ⟨w.heap.size, 2, none⟩ (.slice none 0 0)).cell? ⟨w.heap.size, 1, none⟩ = some (.int .i16 0) ∧
      (((W.setCell ⟨w.heap.size, 0, none⟩ (.int .i8 0)).setCell ⟨w.heap.size, 1, none⟩ (.int .i16 0)).setCell ⟨w.heap.size, 2, none⟩ (.slice none 0 0)).cell? ⟨w.heap.size, 2, none⟩ = some (.slice none 0 0) ∧
      Below w.heap.size w (((W.setCell ⟨w.heap.size, 0, none⟩ (.int .i8 0)).setCell ⟨w.heap.size, 1, none⟩ (.int .i16 0)).setCell ⟨w.heap.size, 2, none⟩ (.slice none 0 0))) := Lib.hid (fun W hb hB => by
    have h := ((hb.set 0 (.int .i8 0)).set 1 (.int .i16 0)).set 2 (.slice none 0 0)
    exact ⟨h.at 0, h.at 1, h.at 2, ((hB.setCell (by simp) _).setCell (by simp) _).setCell (by simp) _⟩)
  have v0 := HBK.out.at 0
  have v1 := HBK.out.at 1
  have v2 := HBK.out.at 2
  have vf0 := HBK.out.frozen 0
  have vf1 := HBK.out.frozen 1
  have vf2 := HBK.out.frozen 2
  obtain ⟨z0, z1, z2, hBF⟩ := HF.out w2 HBK.out HB2.out
  have HZ0 := Lib.hid z0
  have HZ1 := Lib.hid z1
  have HZ2 := Lib.hid z2
  have HBF := Lib.hid hBF
  clear ows b2 HSP z0 z1 z2 hBF hcell
  by_cases hye : y = []
  rotate_left
  · have teq : ((str y).toList == []) = false := by
      rw [beq_eq_false_iff_ne]
      intro e
      apply hye
      have : (str y).toList = y := by unfold str; exact ByteArray.toList_mk y
      rw [← this]; exact e
    have hne : ¬ (str y).toList = [] := fun e => by rw [e] at teq; simp at teq
    obtain ⟨e1, e2, e3, e4⟩ := HNO.out (HCON.out (by rw [hy]; exact fun h => hye h.1))
    subst e1; subst e2; subst e3; subst e4
    clear hye hy
    go_wp2_with fail
    have z0 := HZ0.out
    have z1 := HZ1.out
    have z2 := HZ2.out
    exact bodyPost_ret (v := .tuple #[netV 0 0 (.slice none 0 0), .int .i64 5]) (by simp [results, Tryd.results50, go_sem, z0, z1, z2]) rfl ⟨_, rfl, World.ownsRow_nil _ _ _ _, HBF.out⟩
  · subst hye
    have e0 : (str []).toList = [] := ByteArray.toList_mk []
    by_cases hn1' : 1 ≤ n
    rotate_left
    · have t2 : decide ((n : Int) < 1) = true := decide_eq_true (by omega)
      obtain ⟨e1, e2, e3, e4⟩ := HNO.out (HCON.out (fun h => hn1' h.2.1))
      subst e1; subst e2; subst e3; subst e4
      clear hn1' hy
      go_wp2_with fail
      have z0 := HZ0.out
      have z1 := HZ1.out
      have z2 := HZ2.out
      exact bodyPost_ret (v := .tuple #[netV 0 0 (.slice none 0 0), .int .i64 5]) (by simp [results, Tryd.results50, go_sem, z0, z1, z2]) rfl ⟨_, rfl, World.ownsRow_nil _ _ _ _, HBF.out⟩
    have t2 : decide ((n : Int) < 1) = false := decide_eq_false (by omega)
    by_cases hn21 : n ≤ 21
    rotate_left
    · have t3 : decide ((21 : Int) < (n : Int)) = true := decide_eq_true (by omega)
      obtain ⟨e1, e2, e3, e4⟩ := HNO.out (HCON.out (fun h => hn21 h.2.2))
      subst e1; subst e2; subst e3; subst e4
      clear hn21 hy
      go_wp2_with fail
      have z0 := HZ0.out
      have z1 := HZ1.out
      have z2 := HZ2.out
      exact bodyPost_ret (v := .tuple #[netV 0 0 (.slice none 0 0), .int .i64 5]) (by simp [results, Tryd.results50, go_sem, z0, z1, z2]) rfl ⟨_, rfl, World.ownsRow_nil _ _ _ _, HBF.out⟩
    have t3 : decide ((21 : Int) < (n : Int)) = false := decide_eq_false (by omega)
    have HOKN : Hid (ws.getD n [] = [] ∧ 1 ≤ n ∧ n ≤ 21) := Lib.hid ⟨hy, hn1', hn21⟩
    obtain ⟨x0, hx0⟩ : ∃ x, ws.getD 0 [] = x := ⟨_, rfl⟩
    have hc0 := HCL.out 0 (by omega)
    rw [hx0] at hc0
    have HX0L : Hid (x0.length ≤ 1048576) := Lib.hid (HWL.out x0 (by rw [← hx0]; simp [List.getD, show 0 < ws.length by rw [HNW.out]; omega]))
    have HTW := Lib.hid (stwo_any x0 32 HX0L.out w2)
    rw [hx0] at HHD
    have HFIN2 : Hid (∀ a b L, pairM 32 ok40 x0 = some (a, b) → mapO laneM ((ws.take n).drop 1) = some L → netM l = if vldN a b L = true then some (a, b, L) else none) := Lib.hid (fun a b L h1 h2 => HFIN.out a b L HOKN.out (by rw [hx0]; exact h1) h2)
    clear hy hx0 HCON HFIN
    go_wp2_with fail
    refine HTW.out.mono ?_
    rintro e w3 ⟨p0, p1, b, rfl, hp0, hp1, hpr, b3⟩
    have HPR := Lib.hid hpr
    have HB3 := Lib.hid (HB2.out.trans (b3.mono (by omega)))
    have HBK3 := Lib.hid (HBK.out.below b3)
    have HCL3 : Hid (∀ j, j < nw → w3.cell? ⟨g, j, none⟩ = some (.string (str (ws.getD j [])))) := Lib.hid (fun j hj => (b3.cell (p := ⟨g, j, none⟩) HGL.out).trans (HCL.out j hj))
    have hs3 : w2.heap.size ≤ w3.heap.size := b3.size
    obtain ⟨s8, hs8, hr8, hi8⟩ := wr8 p0
    obtain ⟨s16, hs16, hr16, hi16⟩ := wr16 p1
    have HR8 := Lib.hid hr8
    have HR16 := Lib.hid hr16
    have HHR : Hid ((b = true ∧ pairM 32 ok40 x0 = some (s8, s16)) ∨ (b = false ∧ netM l = none)) := Lib.hid (by
      rcases HPR.out with ⟨hb, h⟩ | ⟨hb, h⟩
      · obtain ⟨q1, q2⟩ := pair40 h
        exact .inl ⟨hb, by rw [hi8 q1, hi16 q2]; exact h⟩
      · exact .inr ⟨hb, HHD.out h⟩)
    obtain ⟨B6, hB6⟩ : ∃ B, w3.heap.size = B := ⟨_, rfl⟩
    have HB6 := Lib.hid hB6
    have BX : BlkA (w3.alloc (.cells #[.int .i8 s8, .int .i16 s16, .slice none 0 0] 72)) B6 72 #[.int .i8 s8, .int .i16 s16, .slice none 0 0] := BlkA.new hB6 _ _
    have BE : Below w3.heap.size w3 (w3.alloc (.cells #[.int .i8 s8, .int .i16 s16, .slice none 0 0] 72)) := (Below.refl _ _).alloc (Nat.le_refl _) _
    have HBX := Lib.hid BX
    have HBE := Lib.hid BE
    clear b3 hpr hc0 hcy hr8 hr16 hi8 hi16 hp0 hp1 BX BE HTW v0 v1 v2 vf0 vf1 vf2
    go_wp2_with fail
    go_loopw [8, 10] (fun okv iv wr => ∃ (k : Nat) (L : List Lan) (v : Value) (okb : Bool), 1 ≤ k ∧ k ≤ n ∧ iv = .int .i64 k ∧ okv = .bool okb ∧ ((okb = true ∧ pairM 32 ok40 x0 = some (s8, s16) ∧ mapO laneM ((ws.take k).drop 1) = some L) ∨ (okb = false ∧ netM l = none)) ∧ FitsLa L ∧ L.length + 1 = k ∧ BlkA wr B6 72 #[.int .i8 s8, .int .i16 s16, v] ∧ OwnLa 149 (B6 + 1) wr v L ∧ Below w3.heap.size w3 wr) (fun _ i _ => n - (intOf i).toNat)
    case atStart =>
      refine ⟨1, [], .slice none 0 0, b, Nat.le_refl _, hn1', rfl, rfl, ?_, (fun p hp => by cases hp), rfl, HBX.out, World.ownsRow_nil _ _ _ _, HBE.out⟩
      rcases HHR.out with ⟨h1, h2⟩ | h
      · refine .inl ⟨h1, h2, ?_⟩
        cases ws with
        | nil => have := HNW.out; simp at this; omega
        | cons x r => rfl
      · exact .inr h
    case round =>
      obtain ⟨k, L, v, okb, hk1, hk, rfl, rfl, hst, hfit, hLk, hbx, how, hb⟩ := hrel
      have HST := Lib.hid hst
      have HFIT := Lib.hid hfit
      have HBXR := Lib.hid hbx
      have HOW := Lib.hid how
      have HB := Lib.hid hb
      have hwr : w3.heap.size ≤ wr.heap.size := hb.size
      have HBW : Hid (Below w.heap.size w wr) := Lib.hid (HB3.out.trans (hb.mono (by omega)))
      have h6l : B6 < wr.heap.size := hbx.lt
      obtain ⟨la, lc, hv⟩ := own_is how
      obtain ⟨m, hm⟩ : ∃ m, L.length = m := ⟨_, rfl⟩
      have HLM := Lib.hid hm
      rw [hm] at hv hLk
      subst hv
      have HBKR := Lib.hid (HBK3.out.below hb)
      cases okb with
      | false =>
        have hnone : netM l = none := by
          rcases HST.out with ⟨e, _⟩ | ⟨_, e⟩
          · cases e
          · exact e
        obtain ⟨e1, e2, e3, e4⟩ := HNO.out hnone
        subst e1; subst e2; subst e3; subst e4
        obtain ⟨z0, z1, z2, hBF2⟩ := HF.out wr HBKR.out HBW.out
        have HZ0 := Lib.hid z0
        have HZ1 := Lib.hid z1
        have HZ2 := Lib.hid z2
        have HBF2 := Lib.hid hBF2
        have v0 := HBKR.out.at 0
        have v1 := HBKR.out.at 1
        have v2 := HBKR.out.at 2
        have vf0 := HBKR.out.frozen 0
        have vf1 := HBKR.out.frozen 1
        have vf2 := HBKR.out.frozen 2
        clear z0 z1 z2 hBF2 hnone hst hfit hbx how hb hm
        by_cases hkn : k < n
        · have hkn' : (k : Int) < (n : Int) := by omega
          go_wp2_with fail
          have z0 := HZ0.out
          have z1 := HZ1.out
          have z2 := HZ2.out
          exact bodyPost_ret (v := .tuple #[netV 0 0 (.slice none 0 0), .int .i64 5]) (by simp [results, Tryd.results50, go_sem, z0, z1, z2]) rfl ⟨_, rfl, World.ownsRow_nil _ _ _ _, HBF2.out⟩
        · have hkn' : decide ((k : Int) < (n : Int)) = false := decide_eq_false (by omega)
          go_wp2_with fail
          have z0 := HZ0.out
          have z1 := HZ1.out
          have z2 := HZ2.out
          exact bodyPost_ret (v := .tuple #[netV 0 0 (.slice none 0 0), .int .i64 5]) (by simp [results, Tryd.results50, go_sem, z0, z1, z2]) rfl ⟨_, rfl, World.ownsRow_nil _ _ _ _, HBF2.out⟩
      | true =>
      obtain ⟨hh1, hh2⟩ : pairM 32 ok40 x0 = some (s8, s16) ∧ mapO laneM ((ws.take k).drop 1) = some L := by
        rcases HST.out with ⟨_, e1, e2⟩ | ⟨e, _⟩
        · exact ⟨e1, e2⟩
        · cases e
      have HH1 := Lib.hid hh1
      have HH2 := Lib.hid hh2
      clear hh1 hh2 hst
      by_cases hlt : k < n
      · have hck : wr.cell? ⟨g, k, none⟩ = some (.string (str (ws.getD k []))) := (hb.cell (p := ⟨g, k, none⟩) (World.block_lt_of_cell? w3 _ (HCL3.out k (by omega)))).trans (HCL3.out k (by omega))
        obtain ⟨x, hx⟩ : ∃ x, ws.getD k [] = x := ⟨_, rfl⟩
        rw [hx] at hck
        have hkl : k < ws.length := by rw [HNW.out]; omega
        have hgx : ws[k] = x := by rw [← hx]; simp [List.getD, hkl]
        have HXL : Hid (x.length ≤ 1048576) := Lib.hid (HWL.out x (by rw [← hgx]; exact List.getElem_mem hkl))
        have HTK : Hid ((ws.take (k + 1)).drop 1 = (ws.take k).drop 1 ++ [x]) := Lib.hid (by rw [List.take_succ_eq_append_getElem hkl, List.drop_append_of_le_length (by rw [List.length_take]; omega), hgx])
        have HXN : Hid (laneM x = none → netM l = none) := Lib.hid (fun h => HLA.out (mapO_stopN h (by
          rw [← hgx]
          refine List.mem_iff_getElem.2 ⟨k - 1, by rw [List.length_drop, List.length_take, HNW.out]; omega, ?_⟩
          rw [List.getElem_drop, List.getElem_take]
          congr 1
          omega)))
        have hkn' : (k : Int) < (n : Int) := by omega
        have hkw : (k : Int) < (nw : Int) := by omega
        have hk0 : (0 : Int) ≤ (k : Int) := by omega
        have HSX := Lib.hid (ssplit_any x 32 HXL.out wr)
        have HNOT := Lib.hid (@laneM_not x)
        have HTWO := Lib.hid (fun (p q : List UInt8) => @laneM_two x p q)
        obtain ⟨ps, hps⟩ : ∃ ps, spl 32 x = ps := ⟨_, rfl⟩
        rw [hps] at HSX HNOT HTWO
        have HPL : Hid (∀ y ∈ ps, y.length ≤ 1048576) := Lib.hid (fun y hy => by rw [← hps] at hy; have := spl_lenN hy; have := HXL.out; omega)
        obtain ⟨np, hnp⟩ : ∃ n, ps.length = n := ⟨_, rfl⟩
        have HNP := Lib.hid hnp
        have hnpl : np ≤ 1048577 := by rw [← hnp, ← hps]; have := spl_count 32 x; have := HXL.out; omega
        clear hx hgx hps hnp hfit hbx how hb hm hkl
        go_wp2_with fail
        refine HSX.out.mono ?_
        rintro e w4 ⟨pv, rfl, opv, b4⟩
        obtain ⟨pa, pc, hpv⟩ := own_is opv
        rw [HNP.out] at hpv
        subst hpv
        have HB4W := Lib.hid (HBW.out.trans (b4.mono (by omega)))
        have HB4 := Lib.hid (HB.out.trans (b4.mono hwr))
        have HBK4 := Lib.hid (HBKR.out.below b4)
        have HBX4 := Lib.hid (HBXR.out.below b4)
        have hs4 : wr.heap.size ≤ w4.heap.size := b4.size
        have HPO := Lib.hid opv
        have HOW4 : Hid (OwnLa 149 (B6 + 1) w4 (.slice la m lc) L) := Lib.hid (by
          refine ⟨HOW.out.1, ?_⟩
          rcases HOW.out.2 with hn' | ⟨g', cap, cur, e', hB', hg', rest⟩
          · exact .inl hn'
          · exact .inr ⟨g', cap, cur, e', hB', by rw [b4.block g' (Array.getElem?_eq_some_iff.1 hg').1]; exact hg', rest⟩)
        clear opv b4 HSX hck
        by_cases h2 : np = 2
        rotate_left
        · have t4 : ((np : Int) != 2) = true := by simp; omega
          obtain ⟨e1, e2, e3, e4⟩ := HNO.out (HXN.out (HNOT.out (by rw [HNP.out]; exact h2)))
          subst e1; subst e2; subst e3; subst e4
          obtain ⟨z0, z1, z2, hBF2⟩ := HF.out w4 HBK4.out HB4W.out
          have HZ0 := Lib.hid z0
          have HZ1 := Lib.hid z1
          have HZ2 := Lib.hid z2
          have HBF2 := Lib.hid hBF2
          have v0 := HBK4.out.at 0
          have v1 := HBK4.out.at 1
          have v2 := HBK4.out.at 2
          have vf0 := HBK4.out.frozen 0
          have vf1 := HBK4.out.frozen 1
          have vf2 := HBK4.out.frozen 2
          clear z0 z1 z2 hBF2 h2
          go_wp2_with fail
          have z0 := HZ0.out
          have z1 := HZ1.out
          have z2 := HZ2.out
          exact bodyPost_ret (v := .tuple #[netV 0 0 (.slice none 0 0), .int .i64 5]) (by simp [results, Tryd.results50, go_sem, z0, z1, z2]) rfl ⟨_, rfl, World.ownsRow_nil _ _ _ _, HBF2.out⟩
        subst h2
        obtain ⟨p, q, hpq⟩ : ∃ p q, ps = [p, q] := by
          have h := HNP.out
          match ps, h with
          | [p, q], _ => exact ⟨p, q, rfl⟩
        subst hpq
        obtain ⟨g2, rfl, _, hcell2⟩ := ownW_cells HPO.out (by omega)
        have cp : w4.cell? ⟨g2, 0, none⟩ = some (.string (str p)) := hcell2 0 (by omega)
        have hcq : w4.cell? ⟨g2, 1, none⟩ = some (.string (str q)) := hcell2 1 (by omega)
        have HCQ := Lib.hid hcq
        have t4 : ((2 : Int) != 2) = false := by decide
        have HTP := Lib.hid (stwo_any p 45 (HPL.out p (by simp)) w4)
        have HTQ := Lib.hid (fun W => stwo_any q 45 (HPL.out q (by simp)) W)
        have HLM2 := Lib.hid (HTWO.out p q rfl)
        clear hcell2 hcq
        go_wp2_with fail
        refine HTP.out.mono ?_
        rintro e w5 ⟨a0, a1, b1, rfl, ha0, ha1, hpr1, b5⟩
        have cq : w5.cell? ⟨g2, 1, none⟩ = some (.string (str q)) := (b5.cell (p := ⟨g2, 1, none⟩) (World.block_lt_of_cell? w4 _ HCQ.out)).trans HCQ.out
        have HP1 := Lib.hid hpr1
        have HB5 := Lib.hid b5
        have hs5 : w4.heap.size ≤ w5.heap.size := b5.size
        clear hpr1 b5 cp HTP ha0 ha1
        go_wp2_with fail
        refine (HTQ.out w5).mono ?_
        rintro e w6 ⟨a2, a3, b2, rfl, ha2, ha3, hpr2, b6⟩
        have HP2 := Lib.hid hpr2
        have b46 : Below w4.heap.size w4 w6 := blink HB5.out b6
        have HB6W := Lib.hid (HB4.out.trans (b46.mono (by omega)))
        have HBX6 := Lib.hid (HBX4.out.below b46)
        have hs6 : w5.heap.size ≤ w6.heap.size := b6.size
        have HOW6 : Hid (OwnLa 149 (B6 + 1) w6 (.slice la m lc) L) := Lib.hid (by
          refine ⟨HOW4.out.1, ?_⟩
          rcases HOW4.out.2 with hn' | ⟨g', cap, cur, e', hB', hg', rest⟩
          · exact .inl hn'
          · exact .inr ⟨g', cap, cur, e', hB', by rw [b46.block g' (Array.getElem?_eq_some_iff.1 hg').1]; exact hg', rest⟩)
        obtain ⟨c0, hc0, hr0, hi0⟩ := wr8 a0
        obtain ⟨c1, hc1, hr1, hi1⟩ := wr8 a1
        obtain ⟨c2, hc2, hr2, hi2⟩ := wr16 a2
        obtain ⟨c3, hc3, hr3, hi3⟩ := wr16 a3
        have HFT : Hid (FitsLa (L ++ [(c0, c1, c2, c3)])) := Lib.hid (fun z hz => by
          rcases List.mem_append.1 hz with hz | hz
          · exact HFIT.out z hz
          · have e : z = (c0, c1, c2, c3) := by simpa using hz
            subst e
            unfold FitLa
            simp only
            omega)
        have HSTN : Hid ((Bool.and b1 b2 = true ∧ pairM 32 ok40 x0 = some (s8, s16) ∧ mapO laneM ((ws.take (k + 1)).drop 1) = some (L ++ [(c0, c1, c2, c3)])) ∨ (Bool.and b1 b2 = false ∧ netM l = none)) := Lib.hid (by
          rcases HP1.out with ⟨e1, h1⟩ | ⟨e1, h1⟩
          · rcases HP2.out with ⟨e2, h2⟩ | ⟨e2, h2⟩
            · obtain ⟨q0, q1⟩ := pair40 h1
              obtain ⟨q2, q3⟩ := pair40 h2
              refine .inl ⟨by rw [e1, e2]; rfl, HH1.out, ?_⟩
              rw [HTK.out]
              exact mapO_snocN (by rw [HLM2.out, h1, h2, hi0 q0, hi1 q1, hi2 q2, hi3 q3]) HH2.out
            · exact .inr ⟨by rw [e1, e2]; rfl, HXN.out (by rw [HLM2.out, h1, h2])⟩
          · exact .inr ⟨by rw [e1]; rfl, HXN.out (by rw [HLM2.out, h1])⟩)
        have u0 := HBX6.out.at 0
        have u1 := HBX6.out.at 1
        have u2 := HBX6.out.at 2
        have uf2 := HBX6.out.frozen 2
        have HOA : Hid ((w6.alloc (.cells #[.int .i8 c0, .int .i8 c1, .int .i16 c2, .int .i16 c3] 149)).ownsRow (B6 + 1) 149 4 (.slice la m lc) m (flatLa L)) := Lib.hid (by have h := World.ownsRow.alloc (show w6.ownsRow (B6 + 1) 149 4 (.slice la m lc) L.length (flatLa L) from HOW6.out) (.cells #[.int .i8 c0, .int .i8 c1, .int .i16 c2, .int .i16 c3] 149); rw [HLM.out] at h; exact h)
        have HBA : Hid (Below w3.heap.size w3 (w6.alloc (.cells #[.int .i8 c0, .int .i8 c1, .int .i16 c2, .int .i16 c3] 149))) := Lib.hid (HB6W.out.alloc (by omega) _)
        have HBXA := Lib.hid (HBX6.out.alloc (.cells #[.int .i8 c0, .int .i8 c1, .int .i16 c2, .int .i16 c3] 149))
        obtain ⟨b12, hb12⟩ : ∃ b, Bool.and b1 b2 = b := ⟨_, rfl⟩
        rw [hb12] at HSTN
        clear hpr2 b6 b46 cq HTQ ha2 ha3 hr0 hr1 hr2 hr3 hi0 hi1 hi2 hi3 HP1 HP2
        have hm22 : m + 2 ≤ 22 := by omega
        have HLK := Lib.hid hLk
        clear hLk
        cases b1 <;> cases b2
        all_goals
          subst hb12
          go_wp2_with (at_builtin; refine wpList_append_own _ rfl _ _ 70 rfl (B6 + 1) 149 o0 (.agg #[.int .i8 0, .int .i8 0, .int .i16 0, .int .i16 0]) 4 6 Tryd.underlying70 ho0 oz0 oz1 oz2 rfl (by decide) _ _ _ rfl HOA.out ⟨w6.heap.size, 0, none⟩ 1 1 [.int .i8 c0, .int .i8 c1, .int .i16 c2, .int .i16 c3] rfl rfl new4 ones4 (by unfold maxLen; omega) (by omega) (by first | omega | (simp; omega)) ?_)
          intro v' w9 hown' hgrow _
          obtain ⟨a9, c9, hv9⟩ := own_is hown'
          subst hv9
          have hbx9 : BlkA w9 B6 72 #[.int .i8 s8, .int .i16 s16, .slice la m lc] := (hgrow.block B6 HBXA.out.lt (fun e => by have := (HOA.out.lt B6 e.symm).1; omega)).trans HBXA.out
          have HBXE : Hid (BlkA (w9.setCell ⟨B6, 2, none⟩ (.slice a9 (m + 1) c9)) B6 72 #[.int .i8 s8, .int .i16 s16, .slice a9 (m + 1) c9]) := Lib.hid (hbx9.set 2 (.slice a9 (m + 1) c9))
          have HB9 : Hid (Below w3.heap.size w3 (w9.setCell ⟨B6, 2, none⟩ (.slice a9 (m + 1) c9))) := Lib.hid ((HBA.out.grown hgrow (by simp; omega) (fun j e => by have := (HOA.out.lt j e).1; omega)).setCell (by simp; omega) _)
          have HOE : Hid (OwnLa 149 (B6 + 1) (w9.setCell ⟨B6, 2, none⟩ (.slice a9 (m + 1) c9)) (.slice a9 (m + 1) c9) (L ++ [(c0, c1, c2, c3)])) := Lib.hid (by
            have ho : OwnLa 149 (B6 + 1) w9 (.slice a9 (m + 1) c9) (L ++ [(c0, c1, c2, c3)]) := by
              unfold OwnLa
              rw [List.length_append, HLM.out, flatLa_append]
              exact hown'
            refine ⟨ho.1, ?_⟩
            rcases ho.2 with hn' | ⟨g', cap, cur, e', hB', hg', rest⟩
            · exact .inl hn'
            · exact .inr ⟨g', cap, cur, e', hB', by rw [heap_setCell_other w9 ⟨B6, 2, none⟩ g' _ (by show g' ≠ B6; omega)]; exact hg', rest⟩)
          have p0 := hbx9.at 0
          have p1 := hbx9.at 1
          have p2 := hbx9.at 2
          have pf2 := hbx9.frozen 2
          clear hown' hgrow hbx9 u0 u1 u2 uf2
          go_wp2_with fail
          go_roundw
          case rel => exact ⟨k + 1, _, _, _, by omega, by omega, by go_num, rfl, HSTN.out, HFT.out, by have h := HLK.out; rw [List.length_append, HLM.out]; simp; omega, HBXE.out, HOE.out, HB9.out⟩
          case measure => simp [intOf]; omega
      · have hkn : k = n := by omega
        subst hkn
        have tkk : decide ((k : Int) < (k : Int)) = false := decide_eq_false (by omega)
        have HNM : Hid (netM l = if vldN s8 s16 L = true then some (s8, s16, L) else none) := Lib.hid (HFIN2.out s8 s16 L HH1.out HH2.out)
        have HOK := Lib.hid (sok_any B6 s8 s16 (.slice la m lc) L wr ⟨HR8.out, HR16.out, hfit, by omega⟩ how.reads hbx)
        have hOL : OwnLa 149 w.heap.size wr (.slice la m lc) L := by
          refine ⟨how.1, ?_⟩
          rcases how.2 with hn' | ⟨g', cap, cur, e', hB', rest⟩
          · exact .inl hn'
          · exact .inr ⟨g', cap, cur, e', by omega, rest⟩
        have HOL := Lib.hid hOL
        have u0 := hbx.at 0
        have u1 := hbx.at 1
        have u2 := hbx.at 2
        have uf0 := hbx.frozen 0
        clear hfit hbx how hb hm hOL
        go_wp2_with fail
        refine HOK.out.mono ?_
        rintro e w4 ⟨rfl, b4⟩
        have HB4 := Lib.hid (HBW.out.trans (b4.mono (by omega)))
        have HBK4 := Lib.hid (HBKR.out.below b4)
        have HBX4 := Lib.hid (HBXR.out.below b4)
        have HOL4 : Hid (OwnLa 149 w.heap.size w4 (.slice la m lc) L) := Lib.hid (by
          refine ⟨HOL.out.1, ?_⟩
          rcases HOL.out.2 with hn' | ⟨g', cap, cur, e', hB', hg', rest⟩
          · exact .inl hn'
          · exact .inr ⟨g', cap, cur, e', hB', by rw [b4.block g' (Array.getElem?_eq_some_iff.1 hg').1]; exact hg', rest⟩)
        have HLB : Hid (∀ q, (Value.slice la m lc).ownBlock = some q → B6 < q) := Lib.hid (fun q hq => by have := (World.ownsRow.lt HOW.out q hq).1; omega)
        clear u0 u1 u2 uf0 b4 HOK
        have v0 := HBK4.out.at 0
        have v1 := HBK4.out.at 1
        have v2 := HBK4.out.at 2
        have vf0 := HBK4.out.frozen 0
        have vf1 := HBK4.out.frozen 1
        have vf2 := HBK4.out.frozen 2
        cases hv : vldN s8 s16 L with
        | false =>
          obtain ⟨e1, e2, e3, e4⟩ := HNO.out (by rw [HNM.out, hv]; rfl)
          subst e1; subst e2; subst e3; subst e4
          obtain ⟨z0, z1, z2, hBF2⟩ := HF.out w4 HBK4.out HB4.out
          have HZ0 := Lib.hid z0
          have HZ1 := Lib.hid z1
          have HZ2 := Lib.hid z2
          have HBF2 := Lib.hid hBF2
          clear z0 z1 z2 hBF2 hv
          go_wp2_with fail
          have z0 := HZ0.out
          have z1 := HZ1.out
          have z2 := HZ2.out
          exact bodyPost_ret (v := .tuple #[netV 0 0 (.slice none 0 0), .int .i64 5]) (by simp [results, Tryd.results50, go_sem, z0, z1, z2]) rfl ⟨_, rfl, World.ownsRow_nil _ _ _ _, HBF2.out⟩
        | true =>
          obtain ⟨e1, e2, e3, e4⟩ := HYES.out s8 s16 L (by rw [HNM.out, hv]; rfl)
          subst e1; subst e2; subst e3; subst e4
          have u0 := HBX4.out.at 0
          have u1 := HBX4.out.at 1
          have u2 := HBX4.out.at 2
          have h6 := ((HBK4.out.set 0 (.int .i8 rs)).set 1 (.int .i16 ry)).set 2 (.slice la m lc)
          have HZ0 := Lib.hid (h6.at 0)
          have HZ1 := Lib.hid (h6.at 1)
          have HZ2 := Lib.hid (h6.at 2)
          have HBF2 : Hid (Below w.heap.size w (((w4.setCell ⟨w.heap.size, 0, none⟩ (.int .i8 rs)).setCell ⟨w.heap.size, 1, none⟩ (.int .i16 ry)).setCell ⟨w.heap.size, 2, none⟩ (.slice la m lc))) := Lib.hid (((HB4.out.setCell (by simp) _).setCell (by simp) _).setCell (by simp) _)
          have HOE : Hid (OwnLa 149 w.heap.size (((w4.setCell ⟨w.heap.size, 0, none⟩ (.int .i8 rs)).setCell ⟨w.heap.size, 1, none⟩ (.int .i16 ry)).setCell ⟨w.heap.size, 2, none⟩ (.slice la m lc)) (.slice la m lc) rl) := Lib.hid (by
            refine ⟨HOL4.out.1, ?_⟩
            rcases HOL4.out.2 with hn' | ⟨g', cap, cur, e', hB', hg', rest⟩
            · exact .inl hn'
            · refine .inr ⟨g', cap, cur, e', hB', ?_, rest⟩
              have hq := HLB.out g' (by rw [e']; rfl)
              have hne : ∀ i, g' ≠ (⟨w.heap.size, i, none⟩ : Addr).block := fun i => by show g' ≠ w.heap.size; omega
              rw [heap_setCell_other _ _ g' _ (hne 2), heap_setCell_other _ _ g' _ (hne 1), heap_setCell_other _ _ g' _ (hne 0)]
              exact hg')
          clear hv h6
          go_wp2_with fail
          have z0 := HZ0.out
          have z1 := HZ1.out
          have z2 := HZ2.out
          exact bodyPost_ret (v := .tuple #[netV rs ry (.slice la m lc), .int .i64 0]) (by simp [results, Tryd.results50, go_sem, z0, z1, z2]) rfl ⟨_, rfl, HOE.out, HBF2.out⟩
end Go.Proofs.YtbclmafplaipaaaDoor
