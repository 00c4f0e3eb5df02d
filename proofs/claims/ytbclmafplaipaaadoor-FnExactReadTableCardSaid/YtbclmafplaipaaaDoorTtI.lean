/-
  The program's text of a table.
-/
import Derived.Test.YtbclmafplaipaaaDoorTtP
import Derived.Test.YtbclmafplaipaaaDoorItoa
import Derived.Test.YtbclmafplaipaaaDoorTabK
namespace Go.Proofs.YtbclmafplaipaaaDoor
open Go Go.RowKit
set_option linter.unusedVariables false

theorem infoST : (Tryd.prog.info? 9).map (fun i => (i.zero, i.size, i.bytes)) = some (some (.string ⟨#[]⟩), 1, 16) := by kernel_rfl
theorem ownWT_below {B n g cap : Nat} {w w' : World} {xs : List Value} (h : w.ownsRow B 9 1 (.slice (some ⟨g, 0, none⟩) n cap) n xs) (hb : Below w.heap.size w w') : w'.ownsRow B 9 1 (.slice (some ⟨g, 0, none⟩) n cap) n xs := by
  refine ⟨h.1, ?_⟩
  rcases h.2 with hn | ⟨g, cap, cur, e, hB, hg, rest⟩
  · exact .inl hn
  · exact .inr ⟨g, cap, cur, e, hB, by rw [hb.block g (Array.getElem?_eq_some_iff.1 hg).1]; exact hg, rest⟩

set_option maxHeartbeats 1000000 in
set_option maxRecDepth 100000 in
theorem iline_row (b len cap : Nat) (r : List Int) (hl : r.length = len) (hok : okN r) (w : World) (hc : CellsH w b r) (ht : PowTab w) :
    Calls Tryd.prog 126 #[.slice (some ⟨b, 0, none⟩) len cap] w fun e w' => e = .returned (.string (str (lineB r))) ∧ Below w.heap.size w w' := by
  obtain ⟨i0, hi, hz0, hz1, hz2⟩ := info_parts infoST
  have h10 : len ≤ 10 := by rw [← hl]; exact hok.2.1
  have HV := Lib.hid hok
  have HL := Lib.hid hl
  have HPT := Lib.hid ht
  have HC := Lib.hid hc
  obtain ⟨ws, hws⟩ : ∃ ws, rowW r = ws := ⟨_, rfl⟩
  have HWS := Lib.hid hws
  have hwl : ws.length = len := by rw [← hws, rowW_len, hl]
  have HWL := Lib.hid hwl
  have hlen0 := hok.wlen len (by rw [hl]; exact Nat.le_refl _)
  rw [hws] at hlen0
  obtain ⟨t, htq⟩ : ∃ t, wJ ws len ++ [10] = t := ⟨_, rfl⟩
  have HT : Hid (lineB r = t) := Lib.hid (by unfold lineB; rw [hws, hl, htq])
  have HADD : Hid (∀ W, (Op.stringOp .add (str (wJ ws len)) ⟨#[10]⟩).run Tryd.prog W = .ok (.string (str t)) W) := Lib.hid (fun W => by
    have h := add_str (P := Tryd.prog) (wJ ws len) [10] W (by simp only [List.length_cons, List.length_nil]; omega)
    rw [htq] at h
    exact h)
  rw [HT.out]
  clear hl hok ht hws hwl hc htq
  go_enter Tryd.func126, Tryd.ntmps126
  go_wp2_with (refine wpList_make_full _ rfl _ _ 77 rfl w.heap.size 9 i0 (.string ⟨#[]⟩) 1 Tryd.underlying77 hi hz0 hz1 .i64 .i64 _ _ len rfl rfl rfl rfl (by rw [hz2]; omega) (by unfold maxLen; omega) (Nat.le_refl _) ?_; intro w2 hown2 hg2)
  rw [made_words] at hown2
  go_loopw [11] (fun i wr => ∃ k : Nat, k ≤ len ∧ i = .int .i64 k ∧ wr.ownsRow w.heap.size 9 1 (.slice (some ⟨w.heap.size, 0, none⟩) len len) len ((fillW ws k).map vS) ∧ Below w.heap.size w wr) (fun i _ => len - (intOf i).toNat)
  case atStart => exact ⟨0, Nat.zero_le _, rfl, by rw [fillW_zero, HWL.out]; exact hown2, (Below.refl _ _).grown hg2 (Nat.le_refl _) (fun k hk => by simp at hk)⟩
  case round =>
    obtain ⟨k, hk, rfl, hor, hnx⟩ := hrel
    have HOR := Lib.hid hor
    have HB := Lib.hid hnx
    have hwr : w.heap.size ≤ wr.heap.size := hnx.size
    by_cases hlt : k < len
    · have c0 := HC.out.below hnx k (by have := HL.out; omega)
      obtain ⟨n, hq, hn⟩ := HV.out.nat (k := k) (by have := HL.out; omega)
      rw [hq] at c0
      have HWK : Hid (ws.getD k [] = dec n) := Lib.hid (by rw [← HWS.out, rowW_get r k (by have := HL.out; omega), hq, Int.toNat_natCast])
      have hkl : (k : Int) < (len : Int) := by omega
      have hkn : (0 : Int) ≤ (k : Int) := by omega
      clear hor hnx hq
      go_wp2_with fail
      refine (iitoa_any n (by omega) _ (HPT.out.below HB.out)).mono ?_
      rintro e v1 ⟨rfl, d1⟩
      have O := ownWT_below HOR.out d1
      have fz := O.frozenAt k
      have rz := OwnW.cell O k hlt
      have O2 := OwnW.store O k (dec n)
      have e2 : (fillW ws k).set k (dec n) = fillW ws (k + 1) := by rw [← HWK.out]; exact fillW_set ws k (by have := HWL.out; omega)
      rw [e2] at O2
      have HO2 := Lib.hid O2
      have HB3 : Hid (Below w.heap.size w (v1.setCell ⟨w.heap.size, k, none⟩ (.string (str (dec n))))) := Lib.hid ((HB.out.trans (d1.mono hwr)).setCell (by simp) _)
      clear O O2 e2 d1 c0
      go_wp2_with fail
      go_roundw
      case rel => exact ⟨k + 1, by omega, by go_num, HO2.out, HB3.out⟩
      case measure => simp [intOf]; omega
    · have hk' : k = len := by omega
      have HO : Hid (wr.ownsRow w.heap.size 9 1 (.slice (some ⟨w.heap.size, 0, none⟩) len len) len (ws.map vS)) := Lib.hid (by
        have h := HOR.out
        rw [hk', ← HWL.out, fillW_all, HWL.out] at h
        exact h)
      clear hk' hnx hor
      go_wp2_with fail
      refine (ijoin_any w.heap.size len ws HWL.out (by omega) (by omega) _ wr HO.out).mono ?_
      rintro e w3 ⟨rfl, b3⟩
      have b3 := HB.out.trans (b3.mono hwr)
      have hadd := HADD.out w3
      go_wp2_with fail
      go_ret
      exact ⟨rfl, b3⟩
theorem iline_any (v : Value) (r : List Int) (w : World) (hv : ReadsH w v r) (hok : okN r) (ht : PowTab w) :
    Calls Tryd.prog 126 #[v] w fun e w' => e = .returned (.string (str (lineB r))) ∧ Below w.heap.size w w' := by
  obtain ⟨a, cap, rfl, h⟩ := hv
  obtain ⟨b, rfl, hc⟩ := h hok.ne
  exact iline_row b r.length cap r rfl hok w hc ht

set_option maxHeartbeats 1000000 in
set_option maxRecDepth 100000 in
theorem itab_any (v : Value) (S : List Int) (R : List (List Int)) (w : World) (hv : ReadsT w v S R) (k : TabOk S R) (ht : PowTab w) :
    Calls Tryd.prog 72 #[v] w fun e w' => e = .returned (.string (str (textT S R))) ∧ Below w.heap.size w w' := by
  have HV := Lib.hid hv
  have HK := Lib.hid k
  have HPT := Lib.hid ht
  obtain ⟨v1, v2, rfl, h1, h2⟩ := hv
  have H1 := Lib.hid h1
  obtain ⟨b, c2, rfl, hbm⟩ := h2
  have HM := Lib.hid hbm
  obtain ⟨m, hm'⟩ : ∃ m, R.length = m := ⟨_, rfl⟩
  rw [hm'] at HV ⊢
  have HMM := Lib.hid hm'
  clear h1 hbm k ht hm'
  cases hvf : vldT S R
  · rw [textT_no hvf]
    have HVF := Lib.hid hvf
    clear hvf
    go_enter Tryd.func72, Tryd.ntmps72
    go_wp2_with fail
    refine (ivalT_ok _ S R _ (HV.out.below ((Below.refl _ _).alloc (Nat.le_refl _) _)) HK.out).mono ?_
    rintro e w2 ⟨rfl, b2⟩
    rw [HVF.out]
    go_wp2_with fail
    go_ret
    exact ⟨rfl, ((Below.refl _ _).alloc (Nat.le_refl _) _).trans (b2.mono (by simp))⟩
  · rw [textT_ok hvf, HMM.out]
    have HVF := Lib.hid hvf
    have hm : m ≤ 6 := by have := (vldT_spec hvf).2.2.1; have := HMM.out; omega
    clear hvf
    go_enter Tryd.func72, Tryd.ntmps72
    go_wp2_with fail
    refine (ivalT_ok _ S R _ (HV.out.below ((Below.refl _ _).alloc (Nat.le_refl _) _)) HK.out).mono ?_
    rintro e w2 ⟨rfl, b2⟩
    have Q := (Blk2.new (w := w) rfl 36 v1 (.slice b m c2)).below b2
    have B2 : Hid (Below w.heap.size w w2) := Lib.hid (((Below.refl _ _).alloc (Nat.le_refl _) _).trans (b2.mono (by simp)))
    rw [HVF.out]
    have g0 := Q.at0
    have g1 := Q.at1
    have HQ := Lib.hid Q
    clear b2 Q
    go_wp2_with fail
    refine (iline_any _ S _ (H1.out.below B2.out) (vldT_okS HVF.out) (HPT.out.below B2.out)).mono ?_
    rintro e w3 ⟨rfl, b3⟩
    have g1 := (HQ.out.below b3).at1
    have B3 := Lib.hid (blink B2.out b3)
    have HL0 : Hid (lineB S = lnT S R 0) := Lib.hid rfl
    rw [HL0.out]
    clear b3
    go_wp2_with fail
    go_loopw [3, 15] (fun t i wr => ∃ z : Nat, z ≤ m ∧ i = .int .i64 z ∧ t = .string (str (lnT S R z)) ∧ Below w.heap.size w wr) (fun _ i _ => m - (intOf i).toNat)
    case atStart => exact ⟨0, Nat.zero_le _, rfl, rfl, B3.out⟩
    case round =>
      obtain ⟨z, hz, rfl, rfl, hnx⟩ := hrel
      have HB := Lib.hid hnx
      have hwr : w.heap.size ≤ wr.heap.size := hnx.size
      by_cases hlt : z < m
      · obtain ⟨gb, rfl, hcr⟩ := HM.out (by intro e; have := HMM.out; rw [e] at this; simp at this; omega)
        obtain ⟨u, d0, r0⟩ := hcr z (by have := HMM.out; omega)
        have d1 : wr.cell? ⟨gb, z, none⟩ = some u := by rw [hnx.cell (p := ⟨gb, z, none⟩) (World.block_lt_of_cell? w _ d0)]; exact d0
        have R1 := Lib.hid (r0.below hnx)
        have HOK := Lib.hid (vldT_okR HVF.out (j := z) (by have := HMM.out; omega))
        have hlen := lnT_len HVF.out z (by have := HMM.out; omega)
        have hbl := HOK.out.blen
        have HS : Hid (lnT S R (z + 1) = lnT S R z ++ lineB (R.getD z [])) := Lib.hid rfl
        obtain ⟨r, hr⟩ : ∃ r, R.getD z [] = r := ⟨_, rfl⟩
        rw [hr] at R1 HOK HS hbl
        obtain ⟨t, htq⟩ : ∃ t, lnT S R z = t := ⟨_, rfl⟩
        rw [htq] at HS hlen ⊢
        have hkl : (z : Int) < (m : Int) := by omega
        have hkn : (0 : Int) ≤ (z : Int) := by omega
        clear hcr d0 r0 hr htq hnx
        go_wp2_with fail
        refine (iline_any _ r _ R1.out HOK.out (HPT.out.below HB.out)).mono ?_
        rintro e w4 ⟨rfl, b4⟩
        have hadd : (Op.stringOp .add (str t) (str (lineB r))).run Tryd.prog w4 = .ok (.string (str (t ++ lineB r))) w4 := add_str _ _ _ (by omega)
        rw [← HS.out] at hadd
        have HB4 := Lib.hid (HB.out.trans (b4.mono hwr))
        clear b4 d1
        go_wp2_with fail
        go_roundw
        case rel => exact ⟨z + 1, by omega, by go_num, rfl, HB4.out⟩
        case measure => simp [intOf]; omega
      · have hz' : z = m := by omega
        have HE : Hid (lnT S R z = lnT S R m) := Lib.hid (by rw [hz'])
        clear hz' hnx
        go_wp2_with fail
        go_ret
        exact ⟨by rw [← HE.out]; rfl, HB.out⟩
end Go.Proofs.YtbclmafplaipaaaDoor
