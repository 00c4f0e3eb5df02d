/-
  Reading the text of a form: the program's line.
-/
import Derived.Test.YtbclmafplaipaaaDoorRfmP
import Derived.Test.YtbclmafplaipaaaDoorPar
import Derived.Test.YtbclmafplaipaaaDoorRLine
import Derived.Test.YtbclmafplaipaaaDoorBlk
namespace Go.Proofs.YtbclmafplaipaaaDoor
open Go Go.RowKit
set_option linter.unusedVariables false

/-- A line read, and whether there is one. -/
def RetFL (w : World) (r : Option Ln4) (e : Ending) (w' : World) : Prop := ∃ a b c d ok, e = .returned (.tuple #[.agg #[.int .i8 a, .int .i16 b, .int .i32 c, .int .i32 d], .bool ok]) ∧ FitL (a, b, c, d) ∧ ((ok = true ∧ r = some (a, b, c, d)) ∨ (ok = false ∧ r = none)) ∧ Below w.heap.size w w'
def lineC (o1 o2 o3 o4 : Option Int) : Option Ln4 := match o1, o2, o3, o4 with
  | some a, some b, some c, some d => some (IntKind.i8.wrap a, IntKind.i16.wrap b, IntKind.i32.wrap c, IntKind.i32.wrap d)
  | _, _, _, _ => none
theorem lineC_1 (o2 o3 o4 : Option Int) : lineC none o2 o3 o4 = none := rfl
theorem lineC_2 (o1 o3 o4 : Option Int) : lineC o1 none o3 o4 = none := by cases o1 <;> rfl
theorem lineC_3 (o1 o2 o4 : Option Int) : lineC o1 o2 none o4 = none := by cases o1 <;> cases o2 <;> rfl
theorem lineC_4 (o1 o2 o3 : Option Int) : lineC o1 o2 o3 none = none := by cases o1 <;> cases o2 <;> cases o3 <;> rfl
theorem wrF8 (v : Int) : ∃ x, IntKind.i8.wrap v = x ∧ (-128 ≤ x ∧ x ≤ 127) := ⟨_, rfl, by simp only [IntKind.wrap, IntKind.bits, IntKind.signed]; simp; omega⟩
theorem wrF16 (v : Int) : ∃ x, IntKind.i16.wrap v = x ∧ (-32768 ≤ x ∧ x ≤ 32767) := ⟨_, rfl, by simp only [IntKind.wrap, IntKind.bits, IntKind.signed]; simp; omega⟩
theorem wrF32 (v : Int) : ∃ x, IntKind.i32.wrap v = x ∧ (-2147483648 ≤ x ∧ x ≤ 2147483647) := ⟨_, rfl, by simp only [IntKind.wrap, IntKind.bits, IntKind.signed]; simp; omega⟩

set_option maxHeartbeats 1600000 in
set_option maxRecDepth 100000 in
theorem ireadFL_any (l : List UInt8) (hl : l.length ≤ 1048576) (w : World) (h : RdW w) :
    Calls Tryd.prog 95 #[.string (str l)] w (RetFL w (lineI l)) := by
  obtain ⟨rr, hrr⟩ : ∃ r, lineI l = r := ⟨_, rfl⟩
  have hri : rr = lineC (okI (Lib.parseIntB 8 (Lib.cut l [58]).1)) (okI (Lib.parseIntB 16 (Lib.cut (Lib.cut l [58]).2.1 [120]).1)) (okI (Lib.parseIntB 32 (Lib.cut (Lib.cut (Lib.cut l [58]).2.1 [120]).2.1 [47]).1)) (okI (Lib.parseIntB 32 (Lib.cut (Lib.cut (Lib.cut l [58]).2.1 [120]).2.1 [47]).2.1)) := by rw [← hrr]; rfl
  rw [hrr]
  have B10 : BlkA (w.alloc (.cells #[.int .i8 0, .int .i16 0, .int .i32 0, .int .i32 0] 124)) w.heap.size 124 #[.int .i8 0, .int .i16 0, .int .i32 0, .int .i32 0] := BlkA.new rfl _ _
  have b11 : Below w.heap.size w (w.alloc (.cells #[.int .i8 0, .int .i16 0, .int .i32 0, .int .i32 0] 124)) := (Below.refl _ _).alloc (Nat.le_refl _) _
  obtain ⟨W1, hW1⟩ : ∃ W, w.alloc (.cells #[.int .i8 0, .int .i16 0, .int .i32 0, .int .i32 0] 124) = W := ⟨_, rfl⟩
  rw [hW1] at B10 b11
  have HW1 := Lib.hid hW1
  have HB10 := Lib.hid B10
  have HB11 := Lib.hid b11
  have HR1 := Lib.hid (h.below b11)
  have HCU := Lib.hid (icut_any l 58 hl W1 HR1.out)
  have hcl := cut_len l 58
  obtain ⟨x1, hx1⟩ : ∃ x, (Lib.cut l [58]).1 = x := ⟨_, rfl⟩
  obtain ⟨y1, hy1⟩ : ∃ x, (Lib.cut l [58]).2.1 = x := ⟨_, rfl⟩
  rw [hx1, hy1] at hcl HCU hri
  have hcl2 := cut_len y1 120
  have HCU2 := Lib.hid (fun W h => icut_any y1 120 (by omega) W h)
  obtain ⟨x2, hx2⟩ : ∃ x, (Lib.cut y1 [120]).1 = x := ⟨_, rfl⟩
  obtain ⟨y2, hy2⟩ : ∃ x, (Lib.cut y1 [120]).2.1 = x := ⟨_, rfl⟩
  rw [hx2, hy2] at hcl2 HCU2 hri
  have hcl3 := cut_len y2 47
  have HCU3 := Lib.hid (fun W h => icut_any y2 47 (by omega) W h)
  obtain ⟨x3, hx3⟩ : ∃ x, (Lib.cut y2 [47]).1 = x := ⟨_, rfl⟩
  obtain ⟨y3, hy3⟩ : ∃ x, (Lib.cut y2 [47]).2.1 = x := ⟨_, rfl⟩
  rw [hx3, hy3] at hcl3 HCU3 hri
  have HP1 := Lib.hid (fun W h => iparse8_any x1 (by omega) W h)
  have HP2 := Lib.hid (fun W h => iparse16_any x2 (by omega) W h)
  have HP3 := Lib.hid (fun W h => iparse32_any x3 (by omega) W h)
  have HP4 := Lib.hid (fun W h => iparse32_any y3 (by omega) W h)
  obtain ⟨o1, ho1⟩ : ∃ o, okI (Lib.parseIntB 8 x1) = o := ⟨_, rfl⟩
  obtain ⟨o2, ho2⟩ : ∃ o, okI (Lib.parseIntB 16 x2) = o := ⟨_, rfl⟩
  obtain ⟨o3, ho3⟩ : ∃ o, okI (Lib.parseIntB 32 x3) = o := ⟨_, rfl⟩
  obtain ⟨o4, ho4⟩ : ∃ o, okI (Lib.parseIntB 32 y3) = o := ⟨_, rfl⟩
  rw [ho1, ho2, ho3, ho4] at hri
  simp only [ho1] at HP1
  simp only [ho2] at HP2
  simp only [ho3] at HP3
  simp only [ho4] at HP4
  have HRI := Lib.hid hri
  clear hrr hri hl hcl hcl2 hcl3 hx1 hy1 hx2 hy2 hx3 hy3 ho1 ho2 ho3 ho4 h hW1 B10 b11
  go_enter Tryd.func95, Tryd.ntmps95
  go_wp2_with fail
  rw [HW1.out]
  refine HCU.out.mono ?_
  rintro e w2 ⟨b0, rfl, b2⟩
  have HR2 := Lib.hid (HR1.out.below b2)
  have HB2 := Lib.hid b2
  clear b2 HCU
  go_wp2_with fail
  refine (HCU2.out w2 HR2.out).mono ?_
  rintro e w3 ⟨b1, rfl, b3⟩
  have HR3 := Lib.hid (HR2.out.below b3)
  have HB3 := Lib.hid (blink HB2.out b3)
  clear b3 HCU2
  go_wp2_with fail
  refine (HCU3.out w3 HR3.out).mono ?_
  rintro e w4 ⟨b2', rfl, b4⟩
  have HR4 := Lib.hid (HR3.out.below b4)
  have HB4 := Lib.hid (blink HB3.out b4)
  clear b4 HCU3
  go_wp2_with fail
  refine (HP1.out w4 HR4.out).mono ?_
  rintro e w5 ⟨v1, e1, rfl, hv1, b5⟩
  have HR5 := Lib.hid (HR4.out.below b5)
  have HB5 := Lib.hid (blink HB4.out b5)
  have HV1 := Lib.hid hv1
  clear b5 HP1 hv1
  go_wp2_with fail
  refine (HP2.out w5 HR5.out).mono ?_
  rintro e w6 ⟨v2, e2, rfl, hv2, b6⟩
  have HR6 := Lib.hid (HR5.out.below b6)
  have HB6 := Lib.hid (blink HB5.out b6)
  have HV2 := Lib.hid hv2
  clear b6 HP2 hv2
  go_wp2_with fail
  refine (HP3.out w6 HR6.out).mono ?_
  rintro e w7 ⟨v3, e3, rfl, hv3, b7⟩
  have HR7 := Lib.hid (HR6.out.below b7)
  have HB7 := Lib.hid (blink HB6.out b7)
  have HV3 := Lib.hid hv3
  clear b7 HP3 hv3
  go_wp2_with fail
  refine (HP4.out w7 HR7.out).mono ?_
  rintro e w8 ⟨v4, e4, rfl, hv4, b8⟩
  have HB8 := Lib.hid (blink HB7.out b8)
  have HV4 := Lib.hid hv4
  clear b8 HP4 hv4
  have HBK := Lib.hid (HB10.out.below HB8.out)
  have HBW := Lib.hid (blink HB11.out HB8.out)
  obtain ⟨c0, hc0, hr0⟩ := wrF8 v1
  obtain ⟨c1, hc1, hr1⟩ := wrF16 v2
  obtain ⟨c2, hc2, hr2⟩ := wrF32 v3
  obtain ⟨c3, hc3, hr3⟩ := wrF32 v4
  have HFT : Hid (FitL (c0, c1, c2, c3)) := Lib.hid ⟨hr0, hr1, hr2, hr3⟩
  have HF : Hid (∀ (z0 z1 z2 z3 : Int), BlkA ((((w8.setCell ⟨w.heap.size, 0, none⟩ (.int .i8 z0)).setCell ⟨w.heap.size, 1, none⟩ (.int .i16 z1)).setCell ⟨w.heap.size, 2, none⟩ (.int .i32 z2)).setCell ⟨w.heap.size, 3, none⟩ (.int .i32 z3)) w.heap.size 124 #[.int .i8 z0, .int .i16 z1, .int .i32 z2, .int .i32 z3] ∧
      Below w.heap.size w ((((w8.setCell ⟨w.heap.size, 0, none⟩ (.int .i8 z0)).setCell ⟨w.heap.size, 1, none⟩ (.int .i16 z1)).setCell ⟨w.heap.size, 2, none⟩ (.int .i32 z2)).setCell ⟨w.heap.size, 3, none⟩ (.int .i32 z3))) := Lib.hid (fun z0 z1 z2 z3 =>
    ⟨((((show BlkA w8 w.heap.size 124 #[.int .i8 0, .int .i16 0, .int .i32 0, .int .i32 0] from HBK.out).set 0 (.int .i8 z0)).set 1 (.int .i16 z1)).set 2 (.int .i32 z2)).set 3 (.int .i32 z3), (((HBW.out.setCell (by simp) _).setCell (by simp) _).setCell (by simp) _).setCell (by simp) _⟩)
  have k0 := HBK.out.at 0
  have k1 := HBK.out.at 1
  have k2 := HBK.out.at 2
  have k3 := HBK.out.at 3
  have f0 := HBK.out.frozen 0
  have f1 := HBK.out.frozen 1
  have f2 := HBK.out.frozen 2
  have f3 := HBK.out.frozen 3
  clear hr0 hr1 hr2 hr3
  rcases HV1.out with ⟨rfl, g1⟩ | ⟨⟨t1, p1, rfl⟩, g1⟩
  rotate_left
  · have HNN : Hid (rr = none) := Lib.hid (by rw [HRI.out, g1]; exact lineC_1 _ _ _)
    clear g1 HV1 HV2 HV3 HV4
    go_wp2_with fail
    obtain ⟨g1, g2⟩ := HF.out 0 0 0 0
    have z0 := g1.at 0
    have z1 := g1.at 1
    have z2 := g1.at 2
    have z3 := g1.at 3
    exact bodyPost_ret (v := .tuple #[.agg #[.int .i8 0, .int .i16 0, .int .i32 0, .int .i32 0], .bool false]) (by simp [results, Tryd.results95, go_sem, z0, z1, z2, z3]) rfl ⟨0, 0, 0, 0, false, rfl, (by unfold FitL; simp), .inr ⟨rfl, HNN.out⟩, g2⟩
  rcases HV2.out with ⟨rfl, g2⟩ | ⟨⟨t2, p2, rfl⟩, g2⟩
  rotate_left
  · have HNN : Hid (rr = none) := Lib.hid (by rw [HRI.out, g2]; exact lineC_2 _ _ _)
    clear g1 g2 HV1 HV2 HV3 HV4
    go_wp2_with fail
    obtain ⟨g1, g2⟩ := HF.out 0 0 0 0
    have z0 := g1.at 0
    have z1 := g1.at 1
    have z2 := g1.at 2
    have z3 := g1.at 3
    exact bodyPost_ret (v := .tuple #[.agg #[.int .i8 0, .int .i16 0, .int .i32 0, .int .i32 0], .bool false]) (by simp [results, Tryd.results95, go_sem, z0, z1, z2, z3]) rfl ⟨0, 0, 0, 0, false, rfl, (by unfold FitL; simp), .inr ⟨rfl, HNN.out⟩, g2⟩
  rcases HV3.out with ⟨rfl, g3⟩ | ⟨⟨t3, p3, rfl⟩, g3⟩
  rotate_left
  · have HNN : Hid (rr = none) := Lib.hid (by rw [HRI.out, g3]; exact lineC_3 _ _ _)
    clear g1 g2 g3 HV1 HV2 HV3 HV4
    go_wp2_with fail
    obtain ⟨g1, g2⟩ := HF.out 0 0 0 0
    have z0 := g1.at 0
    have z1 := g1.at 1
    have z2 := g1.at 2
    have z3 := g1.at 3
    exact bodyPost_ret (v := .tuple #[.agg #[.int .i8 0, .int .i16 0, .int .i32 0, .int .i32 0], .bool false]) (by simp [results, Tryd.results95, go_sem, z0, z1, z2, z3]) rfl ⟨0, 0, 0, 0, false, rfl, (by unfold FitL; simp), .inr ⟨rfl, HNN.out⟩, g2⟩
  rcases HV4.out with ⟨rfl, g4⟩ | ⟨⟨t4, p4, rfl⟩, g4⟩
  rotate_left
  · have HNN : Hid (rr = none) := Lib.hid (by rw [HRI.out, g4]; exact lineC_4 _ _ _)
    clear g1 g2 g3 g4 HV1 HV2 HV3 HV4
    go_wp2_with fail
    obtain ⟨g1, g2⟩ := HF.out 0 0 0 0
    have z0 := g1.at 0
    have z1 := g1.at 1
    have z2 := g1.at 2
    have z3 := g1.at 3
    exact bodyPost_ret (v := .tuple #[.agg #[.int .i8 0, .int .i16 0, .int .i32 0, .int .i32 0], .bool false]) (by simp [results, Tryd.results95, go_sem, z0, z1, z2, z3]) rfl ⟨0, 0, 0, 0, false, rfl, (by unfold FitL; simp), .inr ⟨rfl, HNN.out⟩, g2⟩
  have HNN : Hid (rr = some (c0, c1, c2, c3)) := Lib.hid (by rw [HRI.out, g1, g2, g3, g4]; unfold lineC; simp only; rw [hc0, hc1, hc2, hc3])
  clear g1 g2 g3 g4 HV1 HV2 HV3 HV4
  go_wp2_with fail
  obtain ⟨g1, g2⟩ := HF.out c0 c1 c2 c3
  have z0 := g1.at 0
  have z1 := g1.at 1
  have z2 := g1.at 2
  have z3 := g1.at 3
  exact bodyPost_ret (v := .tuple #[.agg #[.int .i8 c0, .int .i16 c1, .int .i32 c2, .int .i32 c3], .bool true]) (by simp [results, Tryd.results95, go_sem, z0, z1, z2, z3]) rfl ⟨c0, c1, c2, c3, true, rfl, HFT.out, .inl ⟨rfl, HNN.out⟩, g2⟩
end Go.Proofs.YtbclmafplaipaaaDoor
