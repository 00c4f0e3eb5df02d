/-
  The program's text of a list of Box.
-/
import Derived.Test.YtbclmafplaipaaaDoorWdBoxesP
import Derived.Test.YtbclmafplaipaaaDoorItoa
import Derived.Test.YtbclmafplaipaaaDoorBlk
import Derived.Test.YtbclmafplaipaaaDoorBxV
import Derived.Deep.RegionHeld3
namespace Go.Proofs.YtbclmafplaipaaaDoor
open Go Go.RowKit
set_option linter.unusedVariables false

theorem infoSBoxes : (Tryd.prog.info? 9).map (fun i => (i.zero, i.size, i.bytes)) = some (some (.string ⟨#[]⟩), 1, 16) := by kernel_rfl
theorem ownWBoxes_below {B n g cap : Nat} {w w' : World} {xs : List Value} (h : w.ownsRow B 9 1 (.slice (some ⟨g, 0, none⟩) n cap) n xs) (hb : Below w.heap.size w w') : w'.ownsRow B 9 1 (.slice (some ⟨g, 0, none⟩) n cap) n xs := by
  refine ⟨h.1, ?_⟩
  rcases h.2 with hn | ⟨g, cap, cur, e, hB, hg, rest⟩
  · exact .inl hn
  · exact .inr ⟨g, cap, cur, e, hB, by rw [hb.block g (Array.getElem?_eq_some_iff.1 hg).1]; exact hg, rest⟩
theorem keepWBoxes {z : World} {B g k : Nat} {u b0 b1 b2 : Value} (hne : g ≠ B) (h : z.cell? ⟨B, 0, none⟩ = some b0 ∧ z.cell? ⟨B, 1, none⟩ = some b1 ∧ z.cell? ⟨B, 2, none⟩ = some b2) : (z.setCell ⟨g, k, none⟩ u).cell? ⟨B, 0, none⟩ = some b0 ∧ (z.setCell ⟨g, k, none⟩ u).cell? ⟨B, 1, none⟩ = some b1 ∧ (z.setCell ⟨g, k, none⟩ u).cell? ⟨B, 2, none⟩ = some b2 := by
  rw [World.cell?_setCell_far z ⟨g, k, none⟩ ⟨B, 0, none⟩ u hne, World.cell?_setCell_far z ⟨g, k, none⟩ ⟨B, 1, none⟩ u hne, World.cell?_setCell_far z ⟨g, k, none⟩ ⟨B, 2, none⟩ u hne]
  exact h

set_option maxHeartbeats 2000000 in
set_option maxRecDepth 100000 in
theorem iwBoxes_row (b len cap : Nat) (ps : List (Int × Int × Int)) (hl : ps.length = len) (hvf : vldX ps = true) (hfit : FitsB ps) (w : World) (hc : CellsB w b ps) (ht : PowTab w) :
    Calls Tryd.prog 65 #[.slice (some ⟨b, 0, none⟩) len cap] w fun e w' => e = .returned (.string (str (wJ (wordsBoxes ps) len))) ∧ Below w.heap.size w w' := by
  obtain ⟨i0, hi, hz0, hz1, hz2⟩ := info_parts infoSBoxes
  have h10 := capBoxes hvf
  have HV := Lib.hid hvf
  have HU : Hid (ReadsB w (.slice (some ⟨b, 0, none⟩) len cap) ps) := Lib.hid ⟨_, cap, by rw [hl], fun _ => ⟨b, rfl, hc⟩⟩
  have HL := Lib.hid hl
  have HI := Lib.hid hfit
  have HPT := Lib.hid ht
  rw [hl] at h10
  obtain ⟨ws, hws⟩ : ∃ ws, wordsBoxes ps = ws := ⟨_, rfl⟩
  have HWS := Lib.hid hws
  have hwl : ws.length = len := by rw [← hws, wordsBoxes_len, hl]
  have HWL := Lib.hid hwl
  rw [hws]
  clear hl hvf hfit ht hws hwl
  go_enter Tryd.func65, Tryd.ntmps65
  go_wp2_with fail
  refine (ivldX_any _ ps _ HU.out HI.out (by rw [HL.out]; omega)).mono ?_
  rintro e w1 ⟨rfl, b1⟩
  rw [HV.out]
  have HC : Hid (CellsB w1 b ps) := Lib.hid (hc.below b1)
  have HB1 := Lib.hid b1
  have hs1 : w.heap.size ≤ w1.heap.size := b1.size
  clear b1 hc
  go_wp2_with (refine wpList_make_full _ rfl _ _ 77 rfl w1.heap.size 9 i0 (.string ⟨#[]⟩) 1 Tryd.underlying77 hi hz0 hz1 .i64 .i64 _ _ len rfl rfl rfl rfl (by rw [hz2]; omega) (by unfold maxLen; omega) (Nat.le_refl _) ?_; intro w2 hown2 hg2)
  rw [made_words] at hown2
  go_loopw [14] (fun i wr => ∃ k : Nat, k ≤ len ∧ i = .int .i64 k ∧ wr.ownsRow w1.heap.size 9 1 (.slice (some ⟨w1.heap.size, 0, none⟩) len len) len ((fillW ws k).map vS) ∧ Below w1.heap.size w1 wr) (fun i _ => len - (intOf i).toNat)
  case atStart => exact ⟨0, Nat.zero_le _, rfl, by rw [fillW_zero, HWL.out]; exact hown2, (Below.refl _ _).grown hg2 (Nat.le_refl _) (fun k hk => by simp at hk)⟩
  case round =>
    obtain ⟨k, hk, rfl, hor, hnx⟩ := hrel
    have HOR := Lib.hid hor
    have HN := Lib.hid hnx
    have hwr1 : w1.heap.size ≤ wr.heap.size := hnx.size
    have HB : Hid (Below w.heap.size w wr) := Lib.hid (HB1.out.trans (hnx.mono hs1))
    have hwr : w.heap.size ≤ wr.heap.size := HB.out.size
    by_cases hlt : k < len
    · obtain ⟨c0, c1, c2⟩ := HC.out.below hnx k (by have := HL.out; omega)
      obtain ⟨n0, n1, n2, hq, h0, h1, h2⟩ := natsBoxes HV.out (k := k) (by have := HL.out; omega)
      rw [hq] at c0 c1 c2
      simp only at c0 c1 c2
      have hgl : w1.heap.size < wr.heap.size := World.block_lt_of_cell? wr _ (OwnW.cell hor k hlt)
      have HWK : Hid (ws.getD k [] = wordBoxes ((n0 : Int), (n1 : Int), (n2 : Int))) := Lib.hid (by rw [← HWS.out, wordsBoxes_get ps k (by have := HL.out; omega), hq])
      have hkl : (k : Int) < (len : Int) := by omega
      have hkn : (0 : Int) ≤ (k : Int) := by omega
      obtain ⟨p1, hp1⟩ : ∃ s, dec n0 ++ [120] = s := ⟨_, rfl⟩
      have lp1 : p1.length ≤ 126 := by have e := congrArg List.length hp1; simp only [List.length_append, List.length_cons, List.length_nil] at e; have := dec_len n0; have := dec_len n1; have := dec_len n2; omega
      have ap1 : ∀ W, (Op.stringOp .add (str (dec n0)) ⟨#[120]⟩).run Tryd.prog W = .ok (.string (str p1)) W := fun W => by have h := add_str (P := Tryd.prog) (dec n0) ([120]) W (by have := dec_len n0; have := dec_len n1; have := dec_len n2; first | (simp only [List.length_cons, List.length_nil]; omega) | omega); rw [hp1] at h; exact h
      obtain ⟨p2, hp2⟩ : ∃ s, p1 ++ dec n1 = s := ⟨_, rfl⟩
      have lp2 : p2.length ≤ 189 := by have e := congrArg List.length hp2; simp only [List.length_append] at e; have := dec_len n0; have := dec_len n1; have := dec_len n2; omega
      have ap2 : ∀ W, (Op.stringOp .add (str (p1)) (str (dec n1))).run Tryd.prog W = .ok (.string (str p2)) W := fun W => by have h := add_str (P := Tryd.prog) (p1) (dec n1) W (by have := dec_len n0; have := dec_len n1; have := dec_len n2; first | (simp only [List.length_cons, List.length_nil]; omega) | omega); rw [hp2] at h; exact h
      obtain ⟨p3, hp3⟩ : ∃ s, p2 ++ [120] = s := ⟨_, rfl⟩
      have lp3 : p3.length ≤ 252 := by have e := congrArg List.length hp3; simp only [List.length_append, List.length_cons, List.length_nil] at e; have := dec_len n0; have := dec_len n1; have := dec_len n2; omega
      have ap3 : ∀ W, (Op.stringOp .add (str (p2)) ⟨#[120]⟩).run Tryd.prog W = .ok (.string (str p3)) W := fun W => by have h := add_str (P := Tryd.prog) (p2) ([120]) W (by have := dec_len n0; have := dec_len n1; have := dec_len n2; first | (simp only [List.length_cons, List.length_nil]; omega) | omega); rw [hp3] at h; exact h
      obtain ⟨p4, hp4⟩ : ∃ s, p3 ++ dec n2 = s := ⟨_, rfl⟩
      have lp4 : p4.length ≤ 315 := by have e := congrArg List.length hp4; simp only [List.length_append] at e; have := dec_len n0; have := dec_len n1; have := dec_len n2; omega
      have ap4 : ∀ W, (Op.stringOp .add (str (p3)) (str (dec n2))).run Tryd.prog W = .ok (.string (str p4)) W := fun W => by have h := add_str (P := Tryd.prog) (p3) (dec n2) W (by have := dec_len n0; have := dec_len n1; have := dec_len n2; first | (simp only [List.length_cons, List.length_nil]; omega) | omega); rw [hp4] at h; exact h
      have HLT : Hid (p4 = wordBoxes ((n0 : Int), (n1 : Int), (n2 : Int))) := Lib.hid (by rw [← hp4, ← hp3, ← hp2, ← hp1]; rfl)
      clear hp1 hp2 hp3 hp4
      have HN0 : Hid (∀ W, Below w.heap.size w W → Calls Tryd.prog 122 #[.int .i64 (IntKind.i64.wrap (n0 : Int))] W fun e w' => e = .returned (.string (str (dec n0))) ∧ Below W.heap.size W w') := Lib.hid (fun W hb => by rw [IntWalk.i64_in (n0 : Int) (by omega)]; exact iitoa_any n0 (by omega) W (HPT.out.below hb))
      have HN1 : Hid (∀ W, Below w.heap.size w W → Calls Tryd.prog 122 #[.int .i64 (IntKind.i64.wrap (n1 : Int))] W fun e w' => e = .returned (.string (str (dec n1))) ∧ Below W.heap.size W w') := Lib.hid (fun W hb => by rw [IntWalk.i64_in (n1 : Int) (by omega)]; exact iitoa_any n1 (by omega) W (HPT.out.below hb))
      have HN2 : Hid (∀ W, Below w.heap.size w W → Calls Tryd.prog 122 #[.int .i64 (IntKind.i64.wrap (n2 : Int))] W fun e w' => e = .returned (.string (str (dec n2))) ∧ Below W.heap.size W w') := Lib.hid (fun W hb => by rw [IntWalk.i64_in (n2 : Int) (by omega)]; exact iitoa_any n2 (by omega) W (HPT.out.below hb))
      obtain ⟨W1, hW1⟩ : ∃ W, wr.alloc (.cells #[.int .i8 (n0 : Int), .int .i8 (n1 : Int), .int .i8 (n2 : Int)] 90) = W := ⟨_, rfl⟩
      have B1 : BlkA W1 wr.heap.size 90 #[.int .i8 (n0 : Int), .int .i8 (n1 : Int), .int .i8 (n2 : Int)] := by rw [← hW1]; exact BlkA.new rfl _ _
      have E1 : Below wr.heap.size wr W1 := by rw [← hW1]; exact (Below.refl _ _).alloc (Nat.le_refl _) _
      have HW1 := Lib.hid hW1
      have C0 := B1.drew
      have K0 : Below wr.heap.size wr W1.drew := E1.drew
      have SD : W1.drew.cell? ⟨wr.heap.size, 0, none⟩ = some (.int .i8 (n0 : Int)) ∧ W1.drew.cell? ⟨wr.heap.size, 1, none⟩ = some (.int .i8 (n1 : Int)) ∧ W1.drew.cell? ⟨wr.heap.size, 2, none⟩ = some (.int .i8 (n2 : Int)) := ⟨C0.at 0, C0.at 1, C0.at 2⟩
      clear hq hnx hW1 hor
      go_wp2_with fail
      rw [HW1.out]
      clear c0 c1 c2
      go_region_held3 (fun u => u.cell? ⟨wr.heap.size, 0, none⟩ = some (.int .i8 (n0 : Int)) ∧ u.cell? ⟨wr.heap.size, 1, none⟩ = some (.int .i8 (n1 : Int)) ∧ u.cell? ⟨wr.heap.size, 2, none⟩ = some (.int .i8 (n2 : Int))) (first | (with_reducible exact SD) | (with_reducible exact zS3) | (with_reducible exact zS2) | (with_reducible exact zS1) | exact keepWBoxes (by omega) zS3) (first | (go_at_call 122; (with_reducible refine (HN0.out _ (HB.out.trans (K0.mono hwr))).mono ?_); rintro e v1 ⟨rfl, d1⟩; have C1 := C0.below d1; have zS1 : v1.cell? ⟨wr.heap.size, 0, none⟩ = some (.int .i8 (n0 : Int)) ∧ v1.cell? ⟨wr.heap.size, 1, none⟩ = some (.int .i8 (n1 : Int)) ∧ v1.cell? ⟨wr.heap.size, 2, none⟩ = some (.int .i8 (n2 : Int)) := ⟨C1.at 0, C1.at 1, C1.at 2⟩; have K1 := blink K0 d1) | (go_at_call 122; (with_reducible refine (HN1.out _ (HB.out.trans (K1.mono hwr))).mono ?_); rintro e v2 ⟨rfl, d2⟩; have C2 := C1.below d2; have zS2 : v2.cell? ⟨wr.heap.size, 0, none⟩ = some (.int .i8 (n0 : Int)) ∧ v2.cell? ⟨wr.heap.size, 1, none⟩ = some (.int .i8 (n1 : Int)) ∧ v2.cell? ⟨wr.heap.size, 2, none⟩ = some (.int .i8 (n2 : Int)) := ⟨C2.at 0, C2.at 1, C2.at 2⟩; have K2 := blink K1 d2) | (go_at_call 122; (with_reducible refine (HN2.out _ (HB.out.trans (K2.mono hwr))).mono ?_); rintro e v3 ⟨rfl, d3⟩; have C3 := C2.below d3; have zS3 : v3.cell? ⟨wr.heap.size, 0, none⟩ = some (.int .i8 (n0 : Int)) ∧ v3.cell? ⟨wr.heap.size, 1, none⟩ = some (.int .i8 (n1 : Int)) ∧ v3.cell? ⟨wr.heap.size, 2, none⟩ = some (.int .i8 (n2 : Int)) := ⟨C3.at 0, C3.at 1, C3.at 2⟩; have K3 := blink K2 d3; have O := ownWBoxes_below HOR.out K3; have fz := O.frozenAt k; have rz := OwnW.cell O k hlt))
      all_goals
        have O2 := OwnW.store O k p4
        have hwsl : k < ws.length := by have := HWL.out; omega
        have e2 : (fillW ws k).set k p4 = fillW ws (k + 1) := by rw [HLT.out, ← HWK.out]; exact fillW_set ws k hwsl
        rw [e2] at O2
        have HO2 := Lib.hid O2
        have HB3 : Hid (Below w1.heap.size w1 (v3.setCell ⟨w1.heap.size, k, none⟩ (.string (str p4)))) := Lib.hid ((HN.out.trans (K3.mono hwr1)).setCell (by simp) _)
        clear O O2 e2 fz rz
        generalize (v3.setCell ⟨w1.heap.size, k, none⟩ (.string (str p4))) = WZ at HO2 HB3 ⊢
        go_wp2_with fail
        go_roundw
        case rel => exact ⟨k + 1, by omega, by go_num, HO2.out, HB3.out⟩
        case measure => simp [intOf]; omega
    · have hk' : k = len := by omega
      have HO : Hid (wr.ownsRow w1.heap.size 9 1 (.slice (some ⟨w1.heap.size, 0, none⟩) len len) len (ws.map vS)) := Lib.hid (by
        have h := HOR.out
        rw [hk', ← HWL.out, fillW_all, HWL.out] at h
        exact h)
      have hlen := wlenBoxes HV.out len (by rw [HL.out]; exact Nat.le_refl _)
      rw [HWS.out] at hlen
      clear hk' hnx hor
      go_wp2_with fail
      refine (ijoin_any w1.heap.size len ws HWL.out (by omega) (by omega) _ wr HO.out).mono ?_
      rintro e w3 ⟨rfl, b3⟩
      have b3 := HB.out.trans (b3.mono hwr)
      go_wp2_with fail
      go_ret
      exact ⟨rfl, b3⟩
theorem iwBoxes_any (v : Value) (ps : List (Int × Int × Int)) (w : World) (hv : ReadsB w v ps) (hfit : FitsB ps) (hx : ps.length ≤ 1048576) (ht : PowTab w) :
    Calls Tryd.prog 65 #[v] w fun e w' => e = .returned (.string (str (textBoxes ps))) ∧ Below w.heap.size w w' := by
  cases hvf : vldX ps
  · rw [textBoxes_no hvf]
    have HV := Lib.hid hvf
    clear hvf
    go_enter Tryd.func65, Tryd.ntmps65
    go_wp2_with fail
    refine (ivldX_any _ ps _ hv hfit hx).mono ?_
    rintro e w1 ⟨rfl, b1⟩
    rw [HV.out]
    go_wp2_with fail
    go_ret
    exact ⟨rfl, b1⟩
  · rw [textBoxes_ok hvf]
    obtain ⟨a, cap, rfl, h⟩ := id hv
    by_cases h0 : ps = []
    · subst h0
      obtain ⟨i0, hi, hz0, hz1, hz2⟩ := info_parts infoSBoxes
      have HV := Lib.hid hvf
      clear hvf h
      go_enter Tryd.func65, Tryd.ntmps65
      go_wp2_with fail
      refine (ivldX_any _ [] _ hv hfit (by simp)).mono ?_
      rintro e w1 ⟨rfl, b1⟩
      rw [HV.out]
      go_wp2_with (refine wpList_make_full _ rfl _ _ 77 rfl w1.heap.size 9 i0 (.string ⟨#[]⟩) 1 Tryd.underlying77 hi hz0 hz1 .i64 .i64 _ _ 0 rfl rfl rfl rfl (by rw [hz2]; omega) (by unfold maxLen; omega) (Nat.le_refl _) ?_; intro w2 hown2 hg2)
      rw [made_words] at hown2
      have HO := Lib.hid hown2
      have b2 : Below w.heap.size w w2 := b1.grown hg2 b1.size (fun k hk => by simp at hk)
      clear hown2 hg2
      refine wp_loop_rounds 1 ?_
      rw [rounds_succ]
      go_wp2_with fail
      refine (ijoin_any w1.heap.size 0 [] rfl (by omega) (by simp [wJ]) _ w2 HO.out).mono ?_
      rintro e w3 ⟨rfl, b3⟩
      have b3 := blink b2 b3
      go_wp2_with fail
      go_ret
      exact ⟨rfl, b3⟩
    · obtain ⟨b, rfl, hcl⟩ := h h0
      exact iwBoxes_row b ps.length cap ps rfl hvf hfit w hcl ht
end Go.Proofs.YtbclmafplaipaaaDoor
