/-
  The program's text of a list of Voucher.
-/
import Derived.Test.YtbclmafplaipaaaDoorWdVouchersP
import Derived.Test.YtbclmafplaipaaaDoorFmt
import Derived.Test.YtbclmafplaipaaaDoorBlk
import Derived.Test.YtbclmafplaipaaaDoorVlVo
import Derived.Deep.RegionHeld3
namespace Go.Proofs.YtbclmafplaipaaaDoor
open Go Go.RowKit
set_option linter.unusedVariables false

theorem infoSVouchers : (Tryd.prog.info? 9).map (fun i => (i.zero, i.size, i.bytes)) = some (some (.string ⟨#[]⟩), 1, 16) := by kernel_rfl
theorem ownWVouchers_below {B n g cap : Nat} {w w' : World} {xs : List Value} (h : w.ownsRow B 9 1 (.slice (some ⟨g, 0, none⟩) n cap) n xs) (hb : Below w.heap.size w w') : w'.ownsRow B 9 1 (.slice (some ⟨g, 0, none⟩) n cap) n xs := by
  refine ⟨h.1, ?_⟩
  rcases h.2 with hn | ⟨g, cap, cur, e, hB, hg, rest⟩
  · exact .inl hn
  · exact .inr ⟨g, cap, cur, e, hB, by rw [hb.block g (Array.getElem?_eq_some_iff.1 hg).1]; exact hg, rest⟩
theorem keepWVouchers {z : World} {B g k : Nat} {u b0 b1 : Value} (hne : g ≠ B) (h : z.cell? ⟨B, 0, none⟩ = some b0 ∧ z.cell? ⟨B, 1, none⟩ = some b1) : (z.setCell ⟨g, k, none⟩ u).cell? ⟨B, 0, none⟩ = some b0 ∧ (z.setCell ⟨g, k, none⟩ u).cell? ⟨B, 1, none⟩ = some b1 := by
  rw [World.cell?_setCell_far z ⟨g, k, none⟩ ⟨B, 0, none⟩ u hne, World.cell?_setCell_far z ⟨g, k, none⟩ ⟨B, 1, none⟩ u hne]
  exact h

set_option maxHeartbeats 2000000 in
set_option maxRecDepth 100000 in
theorem iwVouchers_row (b len cap : Nat) (ps : List (Int × Int)) (hl : ps.length = len) (hvf : vldVo ps = true) (hfit : FitsVo ps) (w : World) (hc : CellsVo w b ps) (ht : PowTab w) :
    Calls Tryd.prog 104 #[.slice (some ⟨b, 0, none⟩) len cap] w fun e w' => e = .returned (.string (str (wJ (wordsVouchers ps) len))) ∧ Below w.heap.size w w' := by
  obtain ⟨i0, hi, hz0, hz1, hz2⟩ := info_parts infoSVouchers
  have h10 := capVouchers hvf
  have HV := Lib.hid hvf
  have HU : Hid (ReadsVo w (.slice (some ⟨b, 0, none⟩) len cap) ps) := Lib.hid ⟨_, cap, by rw [hl], fun _ => ⟨b, rfl, hc⟩⟩
  have HL := Lib.hid hl
  have HI := Lib.hid hfit
  have HPT := Lib.hid ht
  rw [hl] at h10
  obtain ⟨ws, hws⟩ : ∃ ws, wordsVouchers ps = ws := ⟨_, rfl⟩
  have HWS := Lib.hid hws
  have hwl : ws.length = len := by rw [← hws, wordsVouchers_len, hl]
  have HWL := Lib.hid hwl
  rw [hws]
  clear hl hvf hfit ht hws hwl
  go_enter Tryd.func104, Tryd.ntmps104
  go_wp2_with fail
  refine (ivldVo_any _ ps _ HU.out HI.out (by rw [HL.out]; omega)).mono ?_
  rintro e w1 ⟨rfl, b1⟩
  rw [HV.out]
  have HC : Hid (CellsVo w1 b ps) := Lib.hid (hc.below b1)
  have HB1 := Lib.hid b1
  have hs1 : w.heap.size ≤ w1.heap.size := b1.size
  clear b1 hc
  go_wp2_with (refine wpList_make_full _ rfl _ _ 77 rfl w1.heap.size 9 i0 (.string ⟨#[]⟩) 1 Tryd.underlying77 hi hz0 hz1 .i64 .i64 _ _ len rfl rfl rfl rfl (by rw [hz2]; omega) (by unfold maxLen; omega) (Nat.le_refl _) ?_; intro w2 hown2 hg2)
  rw [made_words] at hown2
  go_loopw [14] (fun i wr => ∃ k : Nat, k ≤ len ∧ i = .int .i64 k ∧ wr.ownsRow w1.heap.size 9 1 (.slice (some ⟨w1.heap.size, 0, none⟩) len len) len ((fillW ws k).map vS) ∧ Below w1.heap.size w1 wr) (fun i _ => len - (intOf i).toNat)
  case atStart => exact ⟨0, Nat.zero_le _, rfl, by rw [fillW_zero, HWL.out]; exact hown2, (Below.refl _ _).grown hg2 (Nat.le_refl _) (fun k hk => by simp at hk)⟩
  case round =>
    obtain ⟨k, hk, rfl, hor, hnx⟩ := hrel
    have HOR := Lib.hid hor
    have HN := Lib.hid hnx
    have hwr1 : w1.heap.size ≤ wr.heap.size := hnx.size
    have HB : Hid (Below w.heap.size w wr) := Lib.hid (HB1.out.trans (hnx.mono hs1))
    have hwr : w.heap.size ≤ wr.heap.size := HB.out.size
    by_cases hlt : k < len
    · obtain ⟨c0, c1⟩ := HC.out.below hnx k (by have := HL.out; omega)
      obtain ⟨n0, n1, hq, h0, h1⟩ := natsVouchers HV.out (k := k) (by have := HL.out; omega)
      rw [hq] at c0 c1
      simp only at c0 c1
      have hgl : w1.heap.size < wr.heap.size := World.block_lt_of_cell? wr _ (OwnW.cell hor k hlt)
      have HWK : Hid (ws.getD k [] = wordVouchers ((n0 : Int), (n1 : Int))) := Lib.hid (by rw [← HWS.out, wordsVouchers_get ps k (by have := HL.out; omega), hq])
      have hkl : (k : Int) < (len : Int) := by omega
      have hkn : (0 : Int) ≤ (k : Int) := by omega
      obtain ⟨p2, hp2⟩ : ∃ s, (dec n0 ++ [64]) ++ dec n1 = s := ⟨_, rfl⟩
      have HLT : Hid (p2 = wordVouchers ((n0 : Int), (n1 : Int))) := Lib.hid (by rw [← hp2]; rfl)
      have HNP : Hid (∀ W, Below w.heap.size w W → Calls Tryd.prog 117 #[.int .i64 (n0 : Int), .string ⟨#[64]⟩, .int .i64 (n1 : Int)] W fun e w' => e = .returned (.string (str p2)) ∧ Below W.heap.size W w') := Lib.hid (fun W hb => by rw [← hp2]; exact ipair_any n0 n1 64 (by omega) (by omega) W (HPT.out.below hb))
      have E1 : ∀ o : Obj, Below wr.heap.size wr (wr.alloc o) := fun o => (Below.refl _ _).alloc (Nat.le_refl _) _
      have HE1 := Lib.hid E1
      clear hp2 hq hnx hor E1
      go_wp2_with fail
      refine (HNP.out _ (HB.out.trans ((HE1.out _).mono hwr))).mono ?_
      rintro e v2 ⟨rfl, d2⟩
      have K2 := blink (HE1.out _) d2
      have O := ownWVouchers_below HOR.out K2
      have fz := O.frozenAt k
      have rz := OwnW.cell O k hlt
      have O2 := OwnW.store O k p2
      have hwsl : k < ws.length := by have := HWL.out; omega
      have e2 : (fillW ws k).set k p2 = fillW ws (k + 1) := by rw [HLT.out, ← HWK.out]; exact fillW_set ws k hwsl
      rw [e2] at O2
      have HO2 := Lib.hid O2
      have HB3 : Hid (Below w1.heap.size w1 (v2.setCell ⟨w1.heap.size, k, none⟩ (.string (str p2)))) := Lib.hid ((HN.out.trans (K2.mono hwr1)).setCell (by simp) _)
      clear O O2 e2 K2 d2
      go_wp2_with fail
      go_roundw
      case rel => exact ⟨k + 1, by omega, by go_num, HO2.out, HB3.out⟩
      case measure => simp [intOf]; omega
    · have hk' : k = len := by omega
      have HO : Hid (wr.ownsRow w1.heap.size 9 1 (.slice (some ⟨w1.heap.size, 0, none⟩) len len) len (ws.map vS)) := Lib.hid (by
        have h := HOR.out
        rw [hk', ← HWL.out, fillW_all, HWL.out] at h
        exact h)
      have hlen := wlenVouchers HV.out len (by rw [HL.out]; exact Nat.le_refl _)
      rw [HWS.out] at hlen
      clear hk' hnx hor
      go_wp2_with fail
      refine (ijoin_any w1.heap.size len ws HWL.out (by omega) (by omega) _ wr HO.out).mono ?_
      rintro e w3 ⟨rfl, b3⟩
      have b3 := HB.out.trans (b3.mono hwr)
      go_wp2_with fail
      go_ret
      exact ⟨rfl, b3⟩
theorem iwVouchers_any (v : Value) (ps : List (Int × Int)) (w : World) (hv : ReadsVo w v ps) (hfit : FitsVo ps) (hx : ps.length ≤ 1048576) (ht : PowTab w) :
    Calls Tryd.prog 104 #[v] w fun e w' => e = .returned (.string (str (textVouchers ps))) ∧ Below w.heap.size w w' := by
  cases hvf : vldVo ps
  · rw [textVouchers_no hvf]
    have HV := Lib.hid hvf
    clear hvf
    go_enter Tryd.func104, Tryd.ntmps104
    go_wp2_with fail
    refine (ivldVo_any _ ps _ hv hfit hx).mono ?_
    rintro e w1 ⟨rfl, b1⟩
    rw [HV.out]
    go_wp2_with fail
    go_ret
    exact ⟨rfl, b1⟩
  · rw [textVouchers_ok hvf]
    obtain ⟨a, cap, rfl, h⟩ := id hv
    by_cases h0 : ps = []
    · subst h0
      obtain ⟨i0, hi, hz0, hz1, hz2⟩ := info_parts infoSVouchers
      have HV := Lib.hid hvf
      clear hvf h
      go_enter Tryd.func104, Tryd.ntmps104
      go_wp2_with fail
      refine (ivldVo_any _ [] _ hv hfit (by simp)).mono ?_
      rintro e w1 ⟨rfl, b1⟩
      rw [HV.out]
      go_wp2_with (refine wpList_make_full _ rfl _ _ 77 rfl w1.heap.size 9 i0 (.string ⟨#[]⟩) 1 Tryd.underlying77 hi hz0 hz1 .i64 .i64 _ _ 0 rfl rfl rfl rfl (by rw [hz2]; omega) (by unfold maxLen; omega) (Nat.le_refl _) ?_; intro w2 hown2 hg2)
      rw [made_words] at hown2
      have HO := Lib.hid hown2
      have b2 : Below w.heap.size w w2 := b1.grown hg2 b1.size (fun k hk => by simp at hk)
      clear hown2 hg2
      refine wp_loop_rounds 1 ?_
      rw [rounds_succ]
      go_wp2_with fail
      refine (ijoin_any w1.heap.size 0 [] rfl (by omega) (by simp [wJ]) _ w2 HO.out).mono ?_
      rintro e w3 ⟨rfl, b3⟩
      have b3 := blink b2 b3
      go_wp2_with fail
      go_ret
      exact ⟨rfl, b3⟩
    · obtain ⟨b, rfl, hcl⟩ := h h0
      exact iwVouchers_row b ps.length cap ps rfl hvf hfit w hcl ht
end Go.Proofs.YtbclmafplaipaaaDoor
