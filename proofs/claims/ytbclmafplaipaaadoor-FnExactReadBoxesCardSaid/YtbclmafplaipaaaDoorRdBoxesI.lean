/-
  Reading the text of Boxes: the program's.
-/
import Derived.Test.YtbclmafplaipaaaDoorRdI
import Derived.Test.YtbclmafplaipaaaDoorRdBoxesS
import Derived.Test.YtbclmafplaipaaaDoorWdBoxesI
import Derived.Test.YtbclmafplaipaaaDoorKeepO
import Derived.Lib.ParseIntBTie
import Derived.Laws.NewBlocks
namespace Go.Proofs.YtbclmafplaipaaaDoor
open Go Go.RowKit
set_option linter.unusedVariables false

theorem OwnB.out {T : TypeId} {B lo hi : Nat} {w w' : World} {v : Value} {ps : List (Int × Int × Int)} (h : OwnB T B w v ps) (K : KeepsOut lo hi w w') (hd : ∀ k, v.ownBlock = some k → k < lo ∨ hi ≤ k) : OwnB T B w' v ps := row_out h K hd
theorem parse8_in {l : List UInt8} {v : Int} (h : okI (Lib.parseIntB 8 l) = some v) : -128 ≤ v ∧ v ≤ 127 := by
  cases hp : Lib.parseIntB 8 l
  · rename_i u
    rw [hp] at h
    cases h
    have := Lib.parseIntB_bounds hp
    simp at this
    omega
  · rw [hp] at h; cases h
  · rw [hp] at h; cases h
theorem triI_three {w p q r : List UInt8} (h : spl 120 w = [p, q, r]) {a b c : Int} (h0 : okI (Lib.parseIntB 8 p) = some a) (h1 : okI (Lib.parseIntB 8 q) = some b) (h2 : okI (Lib.parseIntB 8 r) = some c) : triI w = some (a, b, c) := by
  unfold triI
  rw [h]
  simp only [h0, h1, h2]
theorem triI_no {w p q r : List UInt8} (h : spl 120 w = [p, q, r]) (h0 : okI (Lib.parseIntB 8 p) = none ∨ okI (Lib.parseIntB 8 q) = none ∨ okI (Lib.parseIntB 8 r) = none) : triI w = none := by
  unfold triI
  rw [h]
  rcases h0 with h0 | h0 | h0
  · simp only [h0]
  · simp only [h0]; cases okI (Lib.parseIntB 8 p) <;> rfl
  · simp only [h0]; cases okI (Lib.parseIntB 8 p) <;> cases okI (Lib.parseIntB 8 q) <;> rfl
theorem triI_len {w : List UInt8} (h : (spl 120 w).length ≠ 3) : triI w = none := by
  unfold triI
  obtain ⟨ps, hps⟩ : ∃ ps, spl 120 w = ps := ⟨_, rfl⟩
  rw [hps] at h ⊢
  match ps, h with
  | [], _ => rfl
  | [_], _ => rfl
  | [_, _], _ => rfl
  | [_, _, _], h => exact absurd rfl h
  | _ :: _ :: _ :: _ :: _, _ => rfl

set_option maxHeartbeats 4000000 in
set_option maxRecDepth 100000 in
theorem ironeBoxes_any (l : List UInt8) (hl : l.length ≤ 1048576) (w : World) (h : RdW w) :
    Calls Tryd.prog 64 #[.string (str l)] w fun e w' => ∃ x0 x1 x2 b, e = .returned (.tuple #[.agg #[.int .i8 x0, .int .i8 x1, .int .i8 x2], .bool b]) ∧ I8s x0 x1 x2 ∧ ((b = true ∧ triI l = some (x0, x1, x2)) ∨ (b = false ∧ triI l = none)) ∧ Below w.heap.size w w' := by
  have HRW := Lib.hid h
  have b1 : Below w.heap.size w (w.alloc (.cells #[.int .i8 0, .int .i8 0, .int .i8 0] 90)) := (Below.refl _ _).alloc (Nat.le_refl _) _
  have BX : BlkA (w.alloc (.cells #[.int .i8 0, .int .i8 0, .int .i8 0] 90)) w.heap.size 90 #[.int .i8 0, .int .i8 0, .int .i8 0] := BlkA.new rfl _ _
  obtain ⟨W1, hW⟩ : ∃ W, w.alloc (.cells #[.int .i8 0, .int .i8 0, .int .i8 0] 90) = W := ⟨_, rfl⟩
  rw [hW] at b1 BX
  have HW := Lib.hid hW
  have HB1 := Lib.hid b1
  have HBX := Lib.hid BX
  have HSP := Lib.hid (ispl_any l 120 hl W1 (h.below b1))
  have hsp : ∀ x ∈ spl 120 l, x.length ≤ 1048576 := fun x hx => by have := spl_lenw hx; omega
  have HXL := Lib.hid hsp
  obtain ⟨ps, hps⟩ : ∃ ps, spl 120 l = ps := ⟨_, rfl⟩
  have HPS := Lib.hid hps
  rw [hps] at HSP HXL
  obtain ⟨np, hnp⟩ : ∃ n, ps.length = n := ⟨_, rfl⟩
  have HNP := Lib.hid hnp
  rw [hnp] at HSP
  have hnpl : np ≤ 1048577 := by rw [← hnp, ← hps]; have := spl_count 120 l; omega
  clear hW b1 BX h hl hps hnp hsp
  go_enter Tryd.func64, Tryd.ntmps64
  go_wp2_with fail
  rw [HW.out]
  refine HSP.out.mono ?_
  rintro e w2 ⟨g, rfl, ows, b2⟩
  have HB2 := Lib.hid (blink HB1.out b2)
  have BX2 := HBX.out.below b2
  have hw2 : w.heap.size < w2.heap.size := BX2.lt
  have HOW := Lib.hid ows
  clear b2 HSP ows
  by_cases h3 : np = 3
  rotate_left
  · have t3 : ((np : Int) != 3) = true := by simp; omega
    have HT : Hid (triI l = none) := Lib.hid (triI_len (by rw [HPS.out, HNP.out]; exact h3))
    have k0 := BX2.at 0
    have k1 := BX2.at 1
    have k2 := BX2.at 2
    have f0 := BX2.frozen 0
    have f1 := BX2.frozen 1
    have f2 := BX2.frozen 2
    have BZ := (((BX2.set 0 (.int .i8 0)).set 1 (.int .i8 0)).set 2 (.int .i8 0)).alloc (.cells #[.int .i8 0, .int .i8 0, .int .i8 0] 167)
    have HBF : Hid (Below w.heap.size w ((((w2.setCell ⟨w.heap.size, 0, none⟩ (.int .i8 0)).setCell ⟨w.heap.size, 1, none⟩ (.int .i8 0)).setCell ⟨w.heap.size, 2, none⟩ (.int .i8 0)).alloc (.cells #[.int .i8 0, .int .i8 0, .int .i8 0] 167))) := Lib.hid ((((HB2.out.setCell (by simp) _).setCell (by simp) _).setCell (by simp) _).alloc (by simp; omega) _)
    have HZ0 := Lib.hid (BZ.at 0)
    have HZ1 := Lib.hid (BZ.at 1)
    have HZ2 := Lib.hid (BZ.at 2)
    clear BZ h3
    go_wp2_with fail
    have z0 := HZ0.out
    have z1 := HZ1.out
    have z2 := HZ2.out
    exact bodyPost_ret (v := .tuple #[.agg #[.int .i8 0, .int .i8 0, .int .i8 0], .bool false]) (by simp [results, Tryd.results64, go_sem, z0, z1, z2]) rfl ⟨0, 0, 0, false, rfl, ⟨⟨by omega, by omega⟩, ⟨by omega, by omega⟩, ⟨by omega, by omega⟩⟩, .inr ⟨rfl, HT.out⟩, HBF.out⟩
  subst h3
  obtain ⟨p, q, r, hpq⟩ : ∃ p q r, ps = [p, q, r] := by
    have h := HNP.out
    match ps, h with
    | [p, q, r], _ => exact ⟨p, q, r, rfl⟩
  subst hpq
  have HPQ : Hid (spl 120 l = [p, q, r]) := HPS
  have hpl : p.length ≤ 1048576 := HXL.out p (by simp)
  have hql : q.length ≤ 1048576 := HXL.out q (by simp)
  have hrl : r.length ≤ 1048576 := HXL.out r (by simp)
  have t3 : ((3 : Int) != 3) = false := by decide
  have BS : BlkA (w2.alloc (.cells #[.int .i8 0, .int .i8 0, .int .i8 0] 167)) w2.heap.size 167 #[.int .i8 0, .int .i8 0, .int .i8 0] := BlkA.new rfl _ _
  have b23 : Below w2.heap.size w2 (w2.alloc (.cells #[.int .i8 0, .int .i8 0, .int .i8 0] 167)) := (Below.refl _ _).alloc (Nat.le_refl _) _
  obtain ⟨W3, hW3⟩ : ∃ W, w2.alloc (.cells #[.int .i8 0, .int .i8 0, .int .i8 0] 167) = W := ⟨_, rfl⟩
  rw [hW3] at BS b23
  have HW3 := Lib.hid hW3
  have HB3 := Lib.hid (blink HB2.out b23)
  have HBX3' := Lib.hid (BX2.below b23)
  have HOW3 := Lib.hid (ownW_below HOW.out b23)
  have HBS3' := Lib.hid BS
  have hs3 : w2.heap.size < W3.heap.size := BS.lt
  obtain ⟨g', hg', _, hg3, hcell⟩ := ownW_some HOW3.out (by omega)
  injection hg' with hg'
  injection hg' with hg'
  subst hg'
  have c0 : W3.cell? ⟨g, 0, none⟩ = some (.string (str p)) := hcell 0 (by omega)
  have c1 : W3.cell? ⟨g, 1, none⟩ = some (.string (str q)) := hcell 1 (by omega)
  have c2 : W3.cell? ⟨g, 2, none⟩ = some (.string (str r)) := hcell 2 (by omega)
  have HC1'0 := Lib.hid c1
  have HC2'0 := Lib.hid c2
  have hgS : g ≠ w2.heap.size := fun e => by
    have h := c0
    rw [e, HBS3'.out.at 0] at h
    cases h
  have HP1 := Lib.hid (iparse8_any p hpl W3 (HRW.out.below' HB3.out))
  clear hW3 BS b23 hcell c1 c2 BX2 HPS
  go_wp2_with fail
  rw [HW3.out]
  refine wp_loop_rounds 4 ?_
  rw [rounds_succ]
  go_wp2_with fail
  refine HP1.out.mono ?_
  rintro e W4 ⟨v0, e1, rfl, hv1, b4⟩
  have HB4 := Lib.hid (blink HB3.out b4)
  have HBX4 := Lib.hid (HBX3'.out.below b4)
  have HBS4 := Lib.hid (HBS3'.out.below b4)
  have hsz4 : w2.heap.size < W4.heap.size := HBS4.out.lt
  have HV1 := Lib.hid hv1
  have hc11 := (b4.cell (p := ⟨g, 1, none⟩) (World.block_lt_of_cell? _ _ HC1'0.out)).trans HC1'0.out
  have HC11 := Lib.hid hc11
  clear hc11
  have hc21 := (b4.cell (p := ⟨g, 2, none⟩) (World.block_lt_of_cell? _ _ HC2'0.out)).trans HC2'0.out
  have HC21 := Lib.hid hc21
  clear hc21
  clear b4 hv1 HP1
  rcases HV1.out with ⟨rfl, gv1⟩ | ⟨⟨t11, p11, rfl⟩, gv1⟩
  rotate_left
  · have HT : Hid (triI l = none) := Lib.hid (triI_no HPQ.out (.inl gv1))
    clear gv1 HV1
    have BZ := ((HBX4.out.set 0 (.int .i8 0)).set 1 (.int .i8 0)).set 2 (.int .i8 0)
    have HZ0 : Hid ((((W4.setCell ⟨w.heap.size, 0, none⟩ (.int .i8 0)).setCell ⟨w.heap.size, 1, none⟩ (.int .i8 0)).setCell ⟨w.heap.size, 2, none⟩ (.int .i8 0)).cell? ⟨w.heap.size, 0, none⟩ = some (.int .i8 0)) := Lib.hid (BZ.at 0)
    have HZ1 : Hid ((((W4.setCell ⟨w.heap.size, 0, none⟩ (.int .i8 0)).setCell ⟨w.heap.size, 1, none⟩ (.int .i8 0)).setCell ⟨w.heap.size, 2, none⟩ (.int .i8 0)).cell? ⟨w.heap.size, 1, none⟩ = some (.int .i8 0)) := Lib.hid (BZ.at 1)
    have HZ2 : Hid ((((W4.setCell ⟨w.heap.size, 0, none⟩ (.int .i8 0)).setCell ⟨w.heap.size, 1, none⟩ (.int .i8 0)).setCell ⟨w.heap.size, 2, none⟩ (.int .i8 0)).cell? ⟨w.heap.size, 2, none⟩ = some (.int .i8 0)) := Lib.hid (BZ.at 2)
    have HBF : Hid (Below w.heap.size w (((W4.setCell ⟨w.heap.size, 0, none⟩ (.int .i8 0)).setCell ⟨w.heap.size, 1, none⟩ (.int .i8 0)).setCell ⟨w.heap.size, 2, none⟩ (.int .i8 0))) := Lib.hid (((HB4.out.setCell (by simp) _).setCell (by simp) _).setCell (by simp) _)
    have k0 := HBX4.out.at 0
    have f0 := HBX4.out.frozen 0
    have k1 := HBX4.out.at 1
    have f1 := HBX4.out.frozen 1
    have k2 := HBX4.out.at 2
    have f2 := HBX4.out.frozen 2
    clear BZ
    go_wp2_with fail
    have z0 := HZ0.out
    have z1 := HZ1.out
    have z2 := HZ2.out
    exact bodyPost_ret (v := .tuple #[.agg #[.int .i8 0, .int .i8 0, .int .i8 0], .bool false]) (by simp [results, Tryd.results64, go_sem, z0, z1, z2]) rfl ⟨0, 0, 0, false, rfl, ⟨⟨by omega, by omega⟩, ⟨by omega, by omega⟩, ⟨by omega, by omega⟩⟩, .inr ⟨rfl, HT.out⟩, HBF.out⟩
  have HG1 := Lib.hid gv1
  have hr1 := parse8_in gv1
  have hi1 : IntKind.i8.wrap v0 = v0 := IntWalk.i8_in _ (by omega)
  have sf1 := HBS4.out.frozen 0
  have sk1 := HBS4.out.at 0
  obtain ⟨X1, hX1⟩ : ∃ X, (W4.setCell ⟨w2.heap.size, 0, none⟩ (.int .i8 v0)) = X := ⟨_, rfl⟩
  have HX1 := Lib.hid hX1
  have HBS4' : Hid (BlkA X1 w2.heap.size 167 #[.int .i8 v0, .int .i8 0, .int .i8 0]) := Lib.hid (by rw [← hX1]; exact HBS4.out.set 0 _)
  have HBX4' : Hid (BlkA X1 w.heap.size 90 #[.int .i8 0, .int .i8 0, .int .i8 0]) := Lib.hid (by rw [← hX1]; exact HBX4.out.other _ _ (by simp only; omega))
  have HB4' : Hid (Below w.heap.size w X1) := Lib.hid (by rw [← hX1]; exact HB4.out.setCell (by simp only; omega) _)
  have hszx1 : w2.heap.size < X1.heap.size := HBS4'.out.lt
  have HC1'1 : Hid (X1.cell? ⟨g, 1, none⟩ = some (.string (str q))) := Lib.hid (by rw [← hX1, World.cell?_setCell_far _ ⟨w2.heap.size, 0, none⟩ ⟨g, 1, none⟩ _ (by simp only; omega)]; exact HC11.out)
  have HC2'1 : Hid (X1.cell? ⟨g, 2, none⟩ = some (.string (str r))) := Lib.hid (by rw [← hX1, World.cell?_setCell_far _ ⟨w2.heap.size, 0, none⟩ ⟨g, 2, none⟩ _ (by simp only; omega)]; exact HC21.out)
  have cx1 := HC1'1.out
  have HP2 := Lib.hid (iparse8_any q hql X1 (HRW.out.below' HB4'.out))
  clear hX1 gv1 HV1
  go_wp2_with fail
  rw [HX1.out]
  rw [rounds_succ]
  go_wp2_with fail
  refine HP2.out.mono ?_
  rintro e W5 ⟨v1, e2, rfl, hv2, b5⟩
  have HB5 := Lib.hid (blink HB4'.out b5)
  have HBX5 := Lib.hid (HBX4'.out.below b5)
  have HBS5 := Lib.hid (HBS4'.out.below b5)
  have hsz5 : w2.heap.size < W5.heap.size := HBS5.out.lt
  have HV2 := Lib.hid hv2
  have hc22 := (b5.cell (p := ⟨g, 2, none⟩) (World.block_lt_of_cell? _ _ HC2'1.out)).trans HC2'1.out
  have HC22 := Lib.hid hc22
  clear hc22
  clear b5 hv2 HP2
  rcases HV2.out with ⟨rfl, gv2⟩ | ⟨⟨t12, p12, rfl⟩, gv2⟩
  rotate_left
  · have HT : Hid (triI l = none) := Lib.hid (triI_no HPQ.out (.inr (.inl gv2)))
    clear gv2 HV2
    have BZ := ((HBX5.out.set 0 (.int .i8 0)).set 1 (.int .i8 0)).set 2 (.int .i8 0)
    have HZ0 : Hid ((((W5.setCell ⟨w.heap.size, 0, none⟩ (.int .i8 0)).setCell ⟨w.heap.size, 1, none⟩ (.int .i8 0)).setCell ⟨w.heap.size, 2, none⟩ (.int .i8 0)).cell? ⟨w.heap.size, 0, none⟩ = some (.int .i8 0)) := Lib.hid (BZ.at 0)
    have HZ1 : Hid ((((W5.setCell ⟨w.heap.size, 0, none⟩ (.int .i8 0)).setCell ⟨w.heap.size, 1, none⟩ (.int .i8 0)).setCell ⟨w.heap.size, 2, none⟩ (.int .i8 0)).cell? ⟨w.heap.size, 1, none⟩ = some (.int .i8 0)) := Lib.hid (BZ.at 1)
    have HZ2 : Hid ((((W5.setCell ⟨w.heap.size, 0, none⟩ (.int .i8 0)).setCell ⟨w.heap.size, 1, none⟩ (.int .i8 0)).setCell ⟨w.heap.size, 2, none⟩ (.int .i8 0)).cell? ⟨w.heap.size, 2, none⟩ = some (.int .i8 0)) := Lib.hid (BZ.at 2)
    have HBF : Hid (Below w.heap.size w (((W5.setCell ⟨w.heap.size, 0, none⟩ (.int .i8 0)).setCell ⟨w.heap.size, 1, none⟩ (.int .i8 0)).setCell ⟨w.heap.size, 2, none⟩ (.int .i8 0))) := Lib.hid (((HB5.out.setCell (by simp) _).setCell (by simp) _).setCell (by simp) _)
    have k0 := HBX5.out.at 0
    have f0 := HBX5.out.frozen 0
    have k1 := HBX5.out.at 1
    have f1 := HBX5.out.frozen 1
    have k2 := HBX5.out.at 2
    have f2 := HBX5.out.frozen 2
    clear BZ
    go_wp2_with fail
    have z0 := HZ0.out
    have z1 := HZ1.out
    have z2 := HZ2.out
    exact bodyPost_ret (v := .tuple #[.agg #[.int .i8 0, .int .i8 0, .int .i8 0], .bool false]) (by simp [results, Tryd.results64, go_sem, z0, z1, z2]) rfl ⟨0, 0, 0, false, rfl, ⟨⟨by omega, by omega⟩, ⟨by omega, by omega⟩, ⟨by omega, by omega⟩⟩, .inr ⟨rfl, HT.out⟩, HBF.out⟩
  have HG2 := Lib.hid gv2
  have hr2 := parse8_in gv2
  have hi2 : IntKind.i8.wrap v1 = v1 := IntWalk.i8_in _ (by omega)
  have sf2 := HBS5.out.frozen 1
  have sk2 := HBS5.out.at 1
  obtain ⟨X2, hX2⟩ : ∃ X, (W5.setCell ⟨w2.heap.size, 1, none⟩ (.int .i8 v1)) = X := ⟨_, rfl⟩
  have HX2 := Lib.hid hX2
  have HBS5' : Hid (BlkA X2 w2.heap.size 167 #[.int .i8 v0, .int .i8 v1, .int .i8 0]) := Lib.hid (by rw [← hX2]; exact HBS5.out.set 1 _)
  have HBX5' : Hid (BlkA X2 w.heap.size 90 #[.int .i8 0, .int .i8 0, .int .i8 0]) := Lib.hid (by rw [← hX2]; exact HBX5.out.other _ _ (by simp only; omega))
  have HB5' : Hid (Below w.heap.size w X2) := Lib.hid (by rw [← hX2]; exact HB5.out.setCell (by simp only; omega) _)
  have hszx2 : w2.heap.size < X2.heap.size := HBS5'.out.lt
  have HC2'2 : Hid (X2.cell? ⟨g, 2, none⟩ = some (.string (str r))) := Lib.hid (by rw [← hX2, World.cell?_setCell_far _ ⟨w2.heap.size, 1, none⟩ ⟨g, 2, none⟩ _ (by simp only; omega)]; exact HC22.out)
  have cx2 := HC2'2.out
  have HP3 := Lib.hid (iparse8_any r hrl X2 (HRW.out.below' HB5'.out))
  clear hX2 gv2 HV2
  go_wp2_with fail
  rw [HX2.out]
  rw [rounds_succ]
  go_wp2_with fail
  refine HP3.out.mono ?_
  rintro e W6 ⟨v2, e3, rfl, hv3, b6⟩
  have HB6 := Lib.hid (blink HB5'.out b6)
  have HBX6 := Lib.hid (HBX5'.out.below b6)
  have HBS6 := Lib.hid (HBS5'.out.below b6)
  have hsz6 : w2.heap.size < W6.heap.size := HBS6.out.lt
  have HV3 := Lib.hid hv3
  clear b6 hv3 HP3
  rcases HV3.out with ⟨rfl, gv3⟩ | ⟨⟨t13, p13, rfl⟩, gv3⟩
  rotate_left
  · have HT : Hid (triI l = none) := Lib.hid (triI_no HPQ.out (.inr (.inr gv3)))
    clear gv3 HV3
    have BZ := ((HBX6.out.set 0 (.int .i8 0)).set 1 (.int .i8 0)).set 2 (.int .i8 0)
    have HZ0 : Hid ((((W6.setCell ⟨w.heap.size, 0, none⟩ (.int .i8 0)).setCell ⟨w.heap.size, 1, none⟩ (.int .i8 0)).setCell ⟨w.heap.size, 2, none⟩ (.int .i8 0)).cell? ⟨w.heap.size, 0, none⟩ = some (.int .i8 0)) := Lib.hid (BZ.at 0)
    have HZ1 : Hid ((((W6.setCell ⟨w.heap.size, 0, none⟩ (.int .i8 0)).setCell ⟨w.heap.size, 1, none⟩ (.int .i8 0)).setCell ⟨w.heap.size, 2, none⟩ (.int .i8 0)).cell? ⟨w.heap.size, 1, none⟩ = some (.int .i8 0)) := Lib.hid (BZ.at 1)
    have HZ2 : Hid ((((W6.setCell ⟨w.heap.size, 0, none⟩ (.int .i8 0)).setCell ⟨w.heap.size, 1, none⟩ (.int .i8 0)).setCell ⟨w.heap.size, 2, none⟩ (.int .i8 0)).cell? ⟨w.heap.size, 2, none⟩ = some (.int .i8 0)) := Lib.hid (BZ.at 2)
    have HBF : Hid (Below w.heap.size w (((W6.setCell ⟨w.heap.size, 0, none⟩ (.int .i8 0)).setCell ⟨w.heap.size, 1, none⟩ (.int .i8 0)).setCell ⟨w.heap.size, 2, none⟩ (.int .i8 0))) := Lib.hid (((HB6.out.setCell (by simp) _).setCell (by simp) _).setCell (by simp) _)
    have k0 := HBX6.out.at 0
    have f0 := HBX6.out.frozen 0
    have k1 := HBX6.out.at 1
    have f1 := HBX6.out.frozen 1
    have k2 := HBX6.out.at 2
    have f2 := HBX6.out.frozen 2
    clear BZ
    go_wp2_with fail
    have z0 := HZ0.out
    have z1 := HZ1.out
    have z2 := HZ2.out
    exact bodyPost_ret (v := .tuple #[.agg #[.int .i8 0, .int .i8 0, .int .i8 0], .bool false]) (by simp [results, Tryd.results64, go_sem, z0, z1, z2]) rfl ⟨0, 0, 0, false, rfl, ⟨⟨by omega, by omega⟩, ⟨by omega, by omega⟩, ⟨by omega, by omega⟩⟩, .inr ⟨rfl, HT.out⟩, HBF.out⟩
  have HG3 := Lib.hid gv3
  have hr3 := parse8_in gv3
  have hi3 : IntKind.i8.wrap v2 = v2 := IntWalk.i8_in _ (by omega)
  have sf3 := HBS6.out.frozen 2
  have sk3 := HBS6.out.at 2
  obtain ⟨X3, hX3⟩ : ∃ X, (W6.setCell ⟨w2.heap.size, 2, none⟩ (.int .i8 v2)) = X := ⟨_, rfl⟩
  have HX3 := Lib.hid hX3
  have HBS6' : Hid (BlkA X3 w2.heap.size 167 #[.int .i8 v0, .int .i8 v1, .int .i8 v2]) := Lib.hid (by rw [← hX3]; exact HBS6.out.set 2 _)
  have HBX6' : Hid (BlkA X3 w.heap.size 90 #[.int .i8 0, .int .i8 0, .int .i8 0]) := Lib.hid (by rw [← hX3]; exact HBX6.out.other _ _ (by simp only; omega))
  have HB6' : Hid (Below w.heap.size w X3) := Lib.hid (by rw [← hX3]; exact HB6.out.setCell (by simp only; omega) _)
  have hszx3 : w2.heap.size < X3.heap.size := HBS6'.out.lt
  clear hX3 gv3 HV3
  go_wp2_with fail
  rw [HX3.out]
  rw [rounds_succ]
  have HT : Hid (triI l = some (v0, v1, v2)) := Lib.hid (triI_three HPQ.out HG1.out HG2.out HG3.out)
  have s0 := HBS6'.out.at 0
  have s1 := HBS6'.out.at 1
  have s2 := HBS6'.out.at 2
  have BZ := ((HBX6'.out.set 0 (.int .i8 v0)).set 1 (.int .i8 v1)).set 2 (.int .i8 v2)
  have HZ0 : Hid ((((X3.setCell ⟨w.heap.size, 0, none⟩ (.int .i8 v0)).setCell ⟨w.heap.size, 1, none⟩ (.int .i8 v1)).setCell ⟨w.heap.size, 2, none⟩ (.int .i8 v2)).cell? ⟨w.heap.size, 0, none⟩ = some (.int .i8 v0)) := Lib.hid (BZ.at 0)
  have HZ1 : Hid ((((X3.setCell ⟨w.heap.size, 0, none⟩ (.int .i8 v0)).setCell ⟨w.heap.size, 1, none⟩ (.int .i8 v1)).setCell ⟨w.heap.size, 2, none⟩ (.int .i8 v2)).cell? ⟨w.heap.size, 1, none⟩ = some (.int .i8 v1)) := Lib.hid (BZ.at 1)
  have HZ2 : Hid ((((X3.setCell ⟨w.heap.size, 0, none⟩ (.int .i8 v0)).setCell ⟨w.heap.size, 1, none⟩ (.int .i8 v1)).setCell ⟨w.heap.size, 2, none⟩ (.int .i8 v2)).cell? ⟨w.heap.size, 2, none⟩ = some (.int .i8 v2)) := Lib.hid (BZ.at 2)
  have HBF : Hid (Below w.heap.size w (((X3.setCell ⟨w.heap.size, 0, none⟩ (.int .i8 v0)).setCell ⟨w.heap.size, 1, none⟩ (.int .i8 v1)).setCell ⟨w.heap.size, 2, none⟩ (.int .i8 v2))) := Lib.hid (((HB6'.out.setCell (by simp) _).setCell (by simp) _).setCell (by simp) _)
  have k0 := HBX6'.out.at 0
  have f0 := HBX6'.out.frozen 0
  have k1 := HBX6'.out.at 1
  have f1 := HBX6'.out.frozen 1
  have k2 := HBX6'.out.at 2
  have f2 := HBX6'.out.frozen 2
  clear BZ
  go_wp2_with fail
  have z0 := HZ0.out
  have z1 := HZ1.out
  have z2 := HZ2.out
  exact bodyPost_ret (v := .tuple #[.agg #[.int .i8 v0, .int .i8 v1, .int .i8 v2], .bool true]) (by simp [results, Tryd.results64, go_sem, z0, z1, z2]) rfl ⟨v0, v1, v2, true, rfl, ⟨⟨by omega, by omega⟩, ⟨by omega, by omega⟩, ⟨by omega, by omega⟩⟩, .inl ⟨rfl, HT.out⟩, HBF.out⟩

abbrev pIBoxes (l : List UInt8) : Option (Int × Int × Int) := triI l
theorem pIBoxes_nil : pIBoxes [] = none := triI_nil
theorem rdI_at {α : Type} {f : List UInt8 → Option α} {tell : List α → List UInt8} {l : List UInt8} (h : ¬ l = []) : rdI f tell l = match mapO f (spl 32 l) with | none => none | some L => if tell L = l then some L else none := by
  unfold rdI
  rw [if_neg h]
  cases mapO f (spl 32 l) <;> rfl

set_option maxHeartbeats 4000000 in
set_option maxRecDepth 100000 in
theorem irwBoxes_any (l : List UInt8) (hl : l.length ≤ 1048576) (w : World) (h : RdW w) :
    Calls Tryd.prog 63 #[.string (str l), .func (.func 64) #[] #[], .func (.func 65) #[] #[]] w (RetRdBoxes w.heap.size w (rdRBoxes l) (rdCBoxes l)) := by
  obtain ⟨i0, hi, hz0, hz1, hz2⟩ := info_parts infoRdBoxes
  obtain ⟨rr, hrr⟩ : ∃ r, rdRBoxes l = r := ⟨_, rfl⟩
  obtain ⟨rc, hrc⟩ : ∃ r, rdCBoxes l = r := ⟨_, rfl⟩
  rw [hrr, hrc]
  by_cases h0 : l = []
  · have e1 : rr = [] := by rw [← hrr, h0]; rfl
    have e2 : rc = 0 := by rw [← hrc, h0]; rfl
    subst e1; subst e2
    subst h0
    have e0 : (str []).toList = [] := ByteArray.toList_mk []
    clear hrr hrc hl h
    go_enter Tryd.func63, Tryd.ntmps63
    go_wp2_with fail
    go_ret2
    exact ⟨_, rfl, World.ownsRow_nil _ _ _ _, Below.refl _ _⟩
  have teq : ((str l).toList == []) = false := by
    rw [beq_eq_false_iff_ne]
    intro e
    apply h0
    have : (str l).toList = l := by unfold str; exact ByteArray.toList_mk l
    rw [← this]; exact e
  have hne : ¬ (str l).toList = [] := fun e => by rw [e] at teq; simp at teq
  have HRW := Lib.hid h
  have HSP := Lib.hid (ispl_any l 32 hl w h)
  obtain ⟨ws, hws⟩ : ∃ ws, spl 32 l = ws := ⟨_, rfl⟩
  have HWS := Lib.hid hws
  rw [hws] at HSP
  have HRD : Hid (rdBoxes l = match mapO pIBoxes ws with | none => none | some L => if textBoxes L = l then some L else none) := Lib.hid (by rw [rdBoxes_same, show triI = pIBoxes from rfl, rdI_at h0, hws]; cases mapO pIBoxes ws <;> rfl)
  have HRR := Lib.hid hrr
  have HRC := Lib.hid hrc
  have HFAIL : Hid (rdBoxes l = none → rr = [] ∧ rc = 5) := Lib.hid (fun h => ⟨by rw [← hrr]; unfold rdRBoxes; rw [h]; rfl, by rw [← hrc]; unfold rdCBoxes; rw [h]; rfl⟩)
  have HWL : Hid (∀ x ∈ ws, x.length ≤ 1048576) := Lib.hid (fun x hx => by rw [← hws] at hx; have := spl_lenw hx; omega)
  have HWN : Hid (ws.length ≤ 1048577) := Lib.hid (by rw [← hws]; have := spl_count 32 l; omega)
  have HNL : Hid (∀ (L : List (Int × Int × Int)), mapO pIBoxes ws = some L → ws.length ≤ 1048576) := Lib.hid (fun L hm => by
    cases hw : ws with
    | nil => simp
    | cons x r =>
      rw [hw] at hm
      have hx : x ≠ [] := by
        rintro rfl
        unfold mapO at hm
        rw [pIBoxes_nil] at hm
        cases hm
      have := spl_short (b := 32) (l := l) (x := x) (r := r) (by rw [hws, hw]) hx
      rw [hws, hw] at this
      omega)
  have HLT : Hid ((str l).toList = l) := Lib.hid (by unfold str; exact ByteArray.toList_mk l)
  clear hws hrr hrc h0 hl h
  go_enter Tryd.func63, Tryd.ntmps63
  go_wp2_with fail
  refine HSP.out.mono ?_
  rintro e w2 ⟨g, rfl, ows, b2⟩
  obtain ⟨nw, hnw⟩ : ∃ n, ws.length = n := ⟨_, rfl⟩
  have HNW := Lib.hid hnw
  rw [hnw] at ows
  rw [hnw]
  have hnwl : nw ≤ 1048577 := by rw [← hnw]; exact HWN.out
  have HOW := Lib.hid ows
  have HB2 := Lib.hid b2
  clear ows b2 hnw HSP
  go_wp2_with fail
  go_loopw [8, 18] (fun ov iv wr => ∃ (k : Nat) (L : List (Int × Int × Int)), k ≤ nw ∧ iv = .int .i64 k ∧ OwnB 90 w.heap.size wr ov L ∧ OwnW w.heap.size wr (.slice (some ⟨g, 0, none⟩) nw nw) ws ∧ mapO pIBoxes (ws.take k) = some L ∧ FitsB L ∧ Below w.heap.size w wr) (fun _ i _ => nw - (intOf i).toNat)
  case atStart => exact ⟨0, [], Nat.zero_le _, rfl, World.ownsRow_nil _ _ _ _, HOW.out, rfl, ((fun p hp => by cases hp) : FitsB []), HB2.out⟩
  case round =>
    obtain ⟨k, L, hk, rfl, ho, hw, hm, hfit, hb⟩ := hrel
    have HO := Lib.hid ho
    have HW := Lib.hid hw
    have HM := Lib.hid hm
    have HFIT := Lib.hid hfit
    have HB := Lib.hid hb
    have hwr : w.heap.size ≤ wr.heap.size := hb.size
    have hLl : L.length = k := by have h := mapO_len hm; rw [List.length_take, HNW.out] at h; omega
    obtain ⟨la, lc, hlv⟩ := own_is ho
    rw [hLl] at hlv
    have HLL := Lib.hid hLl
    subst hlv
    by_cases hlt : k < nw
    · obtain ⟨g', hg', _, hg, hcell⟩ := ownW_some hw (by omega)
      injection hg' with hg'
      injection hg' with hg'
      subst hg'
      have hck := hcell k hlt
      obtain ⟨x, hx⟩ : ∃ x, ws.getD k [] = x := ⟨_, rfl⟩
      rw [hx] at hck
      have hck : wr.cell? ⟨g, k, none⟩ = some (.string (str x)) := hck
      have hxm : x ∈ ws := by rw [← hx]; simp [List.getD, show k < ws.length by rw [HNW.out]; exact hlt]
      have HXL : Hid (x.length ≤ 1048576) := Lib.hid (HWL.out x hxm)
      have hkn : (k : Int) < (nw : Int) := by omega
      have hk0 : (0 : Int) ≤ (k : Int) := by omega
      have HTK : Hid (ws.take (k + 1) = ws.take k ++ [x]) := Lib.hid (by rw [List.take_succ_eq_append_getElem (by rw [HNW.out]; exact hlt), ← hx]; simp [List.getD, show k < ws.length by rw [HNW.out]; exact hlt])
      have HSTOP : Hid (pIBoxes x = none → rr = [] ∧ rc = 5) := Lib.hid (fun h => HFAIL.out (by rw [HRD.out, mapO_stop h hxm]))
      have HONE := Lib.hid (ironeBoxes_any x HXL.out wr (HRW.out.below' HB.out))
      clear hx hxm hcell hw ho hm hfit hb hLl hg
      go_wp2_with fail
      refine HONE.out.mono ?_
      rintro e w3 ⟨x0, x1, x2, b, rfl, hr0, hp, b3⟩
      have HB3 := Lib.hid (HB.out.trans (b3.mono hwr))
      have HO3 := Lib.hid (HO.out.below b3)
      have HW3 := Lib.hid (ownW_below HW.out b3)
      have HP := Lib.hid hp
      have HR0 := Lib.hid hr0
      have hs3 : w.heap.size ≤ w3.heap.size := HB3.out.size
      have BX : BlkA (w3.alloc (.cells #[.int .i8 0, .int .i8 0, .int .i8 0] 90)) w3.heap.size 90 #[.int .i8 0, .int .i8 0, .int .i8 0] := BlkA.new rfl _ _
      clear b3 hp hr0 hck HONE
      cases b with
      | false =>
        have hn : pIBoxes x = none := by
          rcases HP.out with ⟨e, _⟩ | ⟨_, e⟩
          · cases e
          · exact e
        obtain ⟨e1, e2⟩ := HSTOP.out hn
        subst e1; subst e2
        have HBE : Hid (Below w.heap.size w (w3.alloc (.cells #[.int .i8 x0, .int .i8 x1, .int .i8 x2] 90))) := Lib.hid (HB3.out.alloc hs3 _)
        clear hn
        go_wp2_with fail
        go_ret2
        exact ⟨_, rfl, World.ownsRow_nil _ _ _ _, HBE.out⟩
      | true =>
      have HPY : Hid (pIBoxes x = some (x0, x1, x2)) := Lib.hid (by
        rcases HP.out with ⟨_, e⟩ | ⟨e, _⟩
        · exact e
        · cases e)
      have HM2 : Hid (mapO pIBoxes (ws.take (k + 1)) = some (L ++ [(x0, x1, x2)])) := Lib.hid (by rw [HTK.out, mapO_snoc HM.out, HPY.out]; rfl)
      have HFIT2 : Hid (FitsB (L ++ [(x0, x1, x2)])) := Lib.hid (fun p hp => by
        rcases List.mem_append.1 hp with hp | hp
        · exact HFIT.out p hp
        · have : p = (x0, x1, x2) := by simpa using hp
          subst this
          exact HR0.out)
      clear BX
      have HOA : Hid (((w3.alloc (.cells #[.int .i8 x0, .int .i8 x1, .int .i8 x2] 90)).alloc (.cells #[.int .i8 x0, .int .i8 x1, .int .i8 x2] 90)).ownsRow w.heap.size 90 3 (.slice la k lc) k (flatB L)) := Lib.hid (by have h := World.ownsRow.alloc (World.ownsRow.alloc (show w3.ownsRow w.heap.size 90 3 (.slice la k lc) L.length (flatB L) from HO3.out) (.cells #[.int .i8 x0, .int .i8 x1, .int .i8 x2] 90)) (.cells #[.int .i8 x0, .int .i8 x1, .int .i8 x2] 90); rw [HLL.out] at h; exact h)
      have HWA : Hid (OwnW w.heap.size ((w3.alloc (.cells #[.int .i8 x0, .int .i8 x1, .int .i8 x2] 90)).alloc (.cells #[.int .i8 x0, .int .i8 x1, .int .i8 x2] 90)) (.slice (some ⟨g, 0, none⟩) nw nw) ws) := Lib.hid (ownW_below HW3.out (((Below.refl _ _).alloc (Nat.le_refl _) _).alloc (by simp) _))
      have HBA : Hid (Below w.heap.size w ((w3.alloc (.cells #[.int .i8 x0, .int .i8 x1, .int .i8 x2] 90)).alloc (.cells #[.int .i8 x0, .int .i8 x1, .int .i8 x2] 90))) := Lib.hid ((HB3.out.alloc hs3 _).alloc (by simp; omega) _)
      have hsz1 : (w3.alloc (.cells #[.int .i8 x0, .int .i8 x1, .int .i8 x2] 90)).heap.size = w3.heap.size + 1 := by simp
      have hnew : ∀ j u, ([Value.int .i8 x0, .int .i8 x1, .int .i8 x2] : List Value)[j]? = some u → ((w3.alloc (.cells #[.int .i8 x0, .int .i8 x1, .int .i8 x2] 90)).alloc (.cells #[.int .i8 x0, .int .i8 x1, .int .i8 x2] 90)).cell? (Addr.add ⟨w3.heap.size + 1, 0, none⟩ j) = some u := by rw [← hsz1]; exact newBoxes
      have HNEW := Lib.hid hnew
      clear hsz1 hnew
      clear HP
      go_wp2_with (at_builtin; refine wpList_append_own _ rfl _ _ 28 rfl w.heap.size 90 i0 (.agg #[.int .i8 0, .int .i8 0, .int .i8 0]) 3 3 Tryd.underlying28 hi hz0 hz1 hz2 rfl (by decide) _ _ _ rfl HOA.out ⟨w3.heap.size + 1, 0, none⟩ 1 1 [.int .i8 x0, .int .i8 x1, .int .i8 x2] rfl rfl HNEW.out onesBoxes ?c3 ?c4 ?c5 ?_)
      case c3 => unfold maxLen; omega
      case c4 => omega
      case c5 => first | omega | (simp; omega)
      intro v' w9 hown' hgrow _
      have HO9 : Hid (OwnB 90 w.heap.size w9 v' (L ++ [(x0, x1, x2)])) := Lib.hid (by
        unfold OwnB
        rw [List.length_append, HLL.out]
        have e : flatB (L ++ [(x0, x1, x2)]) = flatB L ++ [.int .i8 x0, .int .i8 x1, .int .i8 x2] := by simp [flatB, flatE, encB]
        rw [e]
        exact hown')
      have HW9 : Hid (OwnW w.heap.size w9 (.slice (some ⟨g, 0, none⟩) nw nw) ws) := Lib.hid (World.ownsRow.kept HWA.out hgrow (.inr (fun e => row_typesW (by decide) HWA.out HOA.out _ rfl (by rw [← e]; rfl))))
      have HB9 : Hid (Below w.heap.size w w9) := Lib.hid (HBA.out.grown hgrow (by simp; omega) (fun j e => (HOA.out.lt j e).1))
      clear hown' hgrow
      go_wp2_with fail
      go_roundw
      case rel => exact ⟨k + 1, _, by omega, by go_num, HO9.out, HW9.out, HM2.out, HFIT2.out, HB9.out⟩
      case measure => simp [intOf]; omega
    · have hkw : k = nw := by omega
      have HMA : Hid (mapO pIBoxes ws = some L) := Lib.hid (by
        have h := hm
        rw [hkw, ← HNW.out, List.take_length] at h
        exact h)
      have HTL := Lib.hid (iwBoxes_any _ L wr HO.out.reads HFIT.out (by rw [HLL.out, hkw, ← HNW.out]; exact HNL.out L HMA.out) (HRW.out.below' HB.out).2.2.2)
      clear hw ho hm hfit hb hLl hkw
      obtain ⟨t, ht⟩ : ∃ t, textBoxes L = t := ⟨_, rfl⟩
      have HT := Lib.hid ht
      rw [ht] at HTL
      have HTT : Hid ((str t).toList = t) := Lib.hid (by unfold str; exact ByteArray.toList_mk t)
      clear ht
      go_wp2_with fail
      refine HTL.out.mono ?_
      rintro e w4 ⟨rfl, b4⟩
      have HB4 := Lib.hid (HB.out.trans (b4.mono hwr))
      have HO4 := Lib.hid (HO.out.below b4)
      clear b4 HTL
      by_cases htl : t = l
      · have tt : ((str t).toList == (str l).toList) = true := by rw [htl]; simp
        have tq : (str t).toList = (str l).toList := by rw [htl]
        have hsome : rdBoxes l = some L := by rw [HRD.out, HMA.out]; simp only; rw [if_pos (by rw [HT.out]; exact htl)]
        have e1 : rr = L := by rw [← HRR.out]; unfold rdRBoxes; rw [hsome]; rfl
        have e2 : rc = 0 := by rw [← HRC.out]; unfold rdCBoxes; rw [hsome]; rfl
        subst e1
        subst e2
        clear hsome htl
        go_wp2_with fail
        go_ret2
        exact ⟨_, rfl, HO4.out, HB4.out⟩
      · have tq : ¬ (str t).toList = (str l).toList := by rw [HTT.out, HLT.out]; exact htl
        have tt : ((str t).toList == (str l).toList) = false := by rw [beq_eq_false_iff_ne]; exact tq
        obtain ⟨e1, e2⟩ := HFAIL.out (by rw [HRD.out, HMA.out]; simp only; rw [if_neg (by rw [HT.out]; exact htl)])
        subst e1; subst e2
        clear htl
        go_wp2_with fail
        go_ret2
        exact ⟨_, rfl, World.ownsRow_nil _ _ _ _, HB4.out⟩

set_option maxHeartbeats 1000000 in
theorem ireadBoxes_any (l : List UInt8) (hl : l.length ≤ 1048576) (w : World) (h : RdW w) :
    Calls Tryd.prog 17 #[.string (str l)] w (RetRdBoxes w.heap.size w (rdRBoxes l) (rdCBoxes l)) := by
  have HRW := Lib.hid (irwBoxes_any l hl w h)
  clear h hl
  go_enter Tryd.func17, Tryd.ntmps17
  go_wp2_with fail
  refine HRW.out.mono ?_
  rintro e w2 ⟨v, rfl, o, b⟩
  go_wp2_with fail
  go_ret2
  exact ⟨_, rfl, o, b⟩
end Go.Proofs.YtbclmafplaipaaaDoor
