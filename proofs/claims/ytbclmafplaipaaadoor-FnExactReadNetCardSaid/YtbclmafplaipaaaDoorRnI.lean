/-
  Reading the text of a net: the program's lane.
-/
import Derived.Test.YtbclmafplaipaaaDoorRnT
import Derived.Test.YtbclmafplaipaaaDoorRdI
namespace Go.Proofs.YtbclmafplaipaaaDoor
open Go Go.RowKit
set_option linter.unusedVariables false

/-- A lane read, and whether there is one. -/
def RetLane (w : World) (r : Option Lan) (e : Ending) (w' : World) : Prop := ∃ a b c d ok, e = .returned (.tuple #[.agg #[.int .i8 a, .int .i8 b, .int .i16 c, .int .i16 d], .bool ok]) ∧ FitLa (a, b, c, d) ∧ ((ok = true ∧ r = some (a, b, c, d)) ∨ (ok = false ∧ r = none)) ∧ Below w.heap.size w w'
theorem pairI_yes {m : UInt8} {k0 k1 : Int → Int} {l : List UInt8} {a b : Int} (h1 : okI (Lib.parseIntB 64 (Lib.cut l [m]).1) = some a) (h2 : okI (Lib.parseIntB 64 (Lib.cut l [m]).2.1) = some b) : pairI m k0 k1 l = some (k0 a, k1 b) := by unfold pairI; rw [h1, h2]
theorem pairI_no {m : UInt8} {k0 k1 : Int → Int} {l : List UInt8} (h : okI (Lib.parseIntB 64 (Lib.cut l [m]).1) = none ∨ okI (Lib.parseIntB 64 (Lib.cut l [m]).2.1) = none) : pairI m k0 k1 l = none := by
  unfold pairI
  rcases h with h | h
  · rw [h]
  · rw [h]; cases okI (Lib.parseIntB 64 (Lib.cut l [m]).1) <;> rfl

set_option maxHeartbeats 1600000 in
set_option maxRecDepth 100000 in
theorem ireadLa_any (l : List UInt8) (hl : l.length ≤ 1048576) (w : World) (h : RdW w) :
    Calls Tryd.prog 110 #[.string (str l)] w (RetLane w (laneI l)) := by
  obtain ⟨rr, hrr⟩ : ∃ r, laneI l = r := ⟨_, rfl⟩
  have hri : rr = match pairI 45 (IntKind.i8.wrap) (IntKind.i8.wrap) (Lib.cut l [32]).1, pairI 45 (IntKind.i16.wrap) (IntKind.i16.wrap) (Lib.cut l [32]).2.1 with
    | some p, some q => some (p.1, p.2, q.1, q.2)
    | _, _ => none := by rw [← hrr]; rfl
  rw [hrr]
  have B10 : BlkA (w.alloc (.cells #[.int .i8 0, .int .i8 0, .int .i16 0, .int .i16 0] 149)) w.heap.size 149 #[.int .i8 0, .int .i8 0, .int .i16 0, .int .i16 0] := BlkA.new rfl _ _
  have b11 : Below w.heap.size w (w.alloc (.cells #[.int .i8 0, .int .i8 0, .int .i16 0, .int .i16 0] 149)) := (Below.refl _ _).alloc (Nat.le_refl _) _
  obtain ⟨W1, hW1⟩ : ∃ W, w.alloc (.cells #[.int .i8 0, .int .i8 0, .int .i16 0, .int .i16 0] 149) = W := ⟨_, rfl⟩
  rw [hW1] at B10 b11
  have HW1 := Lib.hid hW1
  have HB10 := Lib.hid B10
  have HB11 := Lib.hid b11
  have HR1 := Lib.hid (h.below b11)
  have HCU := Lib.hid (icut_any l 32 hl W1 HR1.out)
  have hcl := cut_len l 32
  obtain ⟨x, hx⟩ : ∃ x, (Lib.cut l [32]).1 = x := ⟨_, rfl⟩
  obtain ⟨y, hy⟩ : ∃ x, (Lib.cut l [32]).2.1 = x := ⟨_, rfl⟩
  rw [hx, hy] at hcl HCU hri
  have hxl : x.length ≤ 1048576 := by omega
  have hyl : y.length ≤ 1048576 := by omega
  have HRI := Lib.hid hri
  clear hrr hri hl hcl hx hy h hW1 B10 b11
  go_enter Tryd.func110, Tryd.ntmps110
  go_wp2_with fail
  rw [HW1.out]
  refine HCU.out.mono ?_
  rintro e w2 ⟨b0, rfl, b2⟩
  have HR2 := Lib.hid (HR1.out.below b2)
  have HB2 := Lib.hid (blink HB11.out b2)
  have HBK2 := Lib.hid (HB10.out.below b2)
  have HP1 := Lib.hid (ipairR_any x 45 hxl w2 HR2.out)
  clear b2 HCU
  go_wp2_with fail
  refine HP1.out.mono ?_
  rintro e w3 ⟨v1, v2, p1, rfl, hp1, b3⟩
  have HR3 := Lib.hid (HR2.out.below b3)
  have HB3 := Lib.hid (blink HB2.out b3)
  have HBK3 := Lib.hid (HBK2.out.below b3)
  have HP2 := Lib.hid (ipairR_any y 45 hyl w3 HR3.out)
  have HV1 := Lib.hid hp1
  clear b3 HP1 hp1
  go_wp2_with fail
  refine HP2.out.mono ?_
  rintro e w4 ⟨v3, v4, p2, rfl, hp2, b4⟩
  have HB4 := Lib.hid (blink HB3.out b4)
  have HBK4 := Lib.hid (HBK3.out.below b4)
  have HV2 := Lib.hid hp2
  clear b4 HP2 hp2 hxl hyl
  obtain ⟨c0, hc0, hr0, -⟩ := wr8 v1
  obtain ⟨c1, hc1, hr1, -⟩ := wr8 v2
  obtain ⟨c2, hc2, hr2, -⟩ := wr16 v3
  obtain ⟨c3, hc3, hr3, -⟩ := wr16 v4
  have HFT : Hid (FitLa (c0, c1, c2, c3)) := Lib.hid ⟨hr0, hr1, hr2, hr3⟩
  have HST : Hid ((Bool.and p1 p2 = true ∧ rr = some (c0, c1, c2, c3)) ∨ (Bool.and p1 p2 = false ∧ rr = none)) := Lib.hid (by
    rcases HV1.out with ⟨rfl, e1, e2⟩ | ⟨rfl, e1⟩
    · rcases HV2.out with ⟨rfl, e3, e4⟩ | ⟨rfl, e3⟩
      · refine .inl ⟨rfl, ?_⟩
        rw [HRI.out, pairI_yes e1 e2, pairI_yes e3 e4]
        simp only
        rw [hc0, hc1, hc2, hc3]
      · refine .inr ⟨rfl, ?_⟩
        rw [HRI.out, pairI_yes e1 e2, pairI_no e3]
    · refine .inr ⟨rfl, ?_⟩
      rw [HRI.out, pairI_no e1])
  have h4 := (((HBK4.out.set 0 (.int .i8 c0)).set 1 (.int .i8 c1)).set 2 (.int .i16 c2)).set 3 (.int .i16 c3)
  have HZ0 := Lib.hid (h4.at 0)
  have HZ1 := Lib.hid (h4.at 1)
  have HZ2 := Lib.hid (h4.at 2)
  have HZ3 := Lib.hid (h4.at 3)
  have HBF : Hid (Below w.heap.size w ((((w4.setCell ⟨w.heap.size, 0, none⟩ (.int .i8 c0)).setCell ⟨w.heap.size, 1, none⟩ (.int .i8 c1)).setCell ⟨w.heap.size, 2, none⟩ (.int .i16 c2)).setCell ⟨w.heap.size, 3, none⟩ (.int .i16 c3))) := Lib.hid ((((HB4.out.setCell (by simp) _).setCell (by simp) _).setCell (by simp) _).setCell (by simp) _)
  have k0 := HBK4.out.at 0
  have k1 := HBK4.out.at 1
  have k2 := HBK4.out.at 2
  have k3 := HBK4.out.at 3
  have f0 := HBK4.out.frozen 0
  have f1 := HBK4.out.frozen 1
  have f2 := HBK4.out.frozen 2
  have f3 := HBK4.out.frozen 3
  clear hr0 hr1 hr2 hr3 h4 HV1 HV2
  obtain ⟨b12, hb12⟩ : ∃ b, Bool.and p1 p2 = b := ⟨_, rfl⟩
  rw [hb12] at HST
  cases p1 <;> cases p2
  all_goals
    subst hb12
    go_wp2_with fail
    have z0 := HZ0.out
    have z1 := HZ1.out
    have z2 := HZ2.out
    have z3 := HZ3.out
    exact bodyPost_ret (v := .tuple #[.agg #[.int .i8 c0, .int .i8 c1, .int .i16 c2, .int .i16 c3], .bool _]) (by simp [results, Tryd.results110, go_sem, z0, z1, z2, z3]; try rfl) rfl ⟨c0, c1, c2, c3, _, rfl, HFT.out, HST.out, HBF.out⟩
end Go.Proofs.YtbclmafplaipaaaDoor
