/-
  The walk of FnExactReadTable: program and model answer the same at every argument; what is answered lies in new memory.
-/
import Derived.Test.YtbclmafplaipaaaDoorRtbT
import Derived.Test.YtbclmafplaipaaaDoorRtbJ
namespace Go.Proofs.YtbclmafplaipaaaDoor.fnExactReadTable
open Go Go.RowKit
set_option linter.unusedVariables false

theorem blk_out {w w' : World} {B lo hi : Nat} {T : TypeId} {x y : Value} (h : Blk2 w B T x y) (K : KeepsOut lo hi w w') (hd : B < lo ∨ hi ≤ B) : Blk2 w' B T x y := (K.block B h.lt hd).trans h
theorem td_is {lo hi : Nat} {w : World} {v : Value} {S : List Int} {R : List (List Int)} (h : OwnTD lo hi w v S R) : ∃ a n c b m d, v = .agg #[.slice a n c, .slice b m d] := by
  obtain ⟨u1, u2, mid, rfl, h1, _, ⟨us, h2, _⟩, _, _⟩ := h
  obtain ⟨a, c, rfl⟩ := own_is h1
  obtain ⟨b, d, rfl⟩ := own_is h2
  exact ⟨_, _, _, _, _, _, rfl⟩

set_option maxHeartbeats 3200000 in
set_option maxRecDepth 100000 in
theorem walk (s0 : ByteArray) (w : World) (hrd : RdW w) :
    Calls Tryd.prog 5 #[.string s0] w fun e w' => e = .returned (.bool true) ∧ Below w.heap.size w w' := by
  have HRDW := Lib.hid hrd
  clear hrd
  by_cases hm0 : s0.size ≤ 1048576
  rotate_left
  · have t0 : decide ((1048576 : Int) < (s0.size : Int)) = true := by simp; omega
    go_enter Tryd.func5, Tryd.ntmps5
    go_wp2_with fail
    go_ret
    exact ⟨rfl, Below.refl _ _⟩
  obtain ⟨l0, hl0⟩ : ∃ l, s0 = str l := ⟨s0.data.toList, by unfold str; apply ByteArray.ext; simp⟩
  subst hl0
  have hsz0 : (str l0).size = l0.length := str_size l0
  have HX0 : Hid (l0.length ≤ 1048576) := Lib.hid (by omega)
  have t0 : decide ((1048576 : Int) < (l0.length : Int)) = false := by simp; omega
  clear hm0
  obtain ⟨hb1, hb2, hb3, hb4⟩ := rt_bd l0
  have HS := Lib.hid (sreadT_any l0 HX0.out w)
  have HI := Lib.hid (fun W h => ireadT_any l0 HX0.out W h)
  obtain ⟨S, hS⟩ : ∃ S, rtS l0 = S := ⟨_, rfl⟩
  obtain ⟨R, hR⟩ : ∃ R, rtR l0 = R := ⟨_, rfl⟩
  obtain ⟨C, hC⟩ : ∃ C, rtC l0 = C := ⟨_, rfl⟩
  rw [hS] at hb1
  rw [hR] at hb2 hb3 hb4
  rw [hS, hR, hC] at HS
  have HI : Hid (∀ W, RdW W → Calls Tryd.prog 22 #[.string (str l0)] W (RetRt W S R C)) := Lib.hid (fun W h => by have := HI.out W h; rw [hS, hR, hC] at this; exact this)
  have HB1 : Hid (S.length ≤ 1048576) := Lib.hid (by omega)
  have HB2 : Hid (R.length ≤ 1048576) := Lib.hid (by omega)
  have HB3 : Hid (tot R ≤ 1048576) := Lib.hid (by omega)
  have HB4 : Hid (∀ j, j < R.length → (R.getD j []).length ≤ 1048576) := Lib.hid (fun j hj => by have := hb4 j hj; omega)
  have tq : decide ((1 : Int) + (S.length : Int) + (tot R : Int) < 0) = false := decide_eq_false (by omega)
  have HIL := Lib.hid (iotaH_length 1 S.length)
  clear hS hR hC hb1 hb2 hb3 hb4
  go_enter Tryd.func5, Tryd.ntmps5
  go_wp2_with fail
  refine HS.out.mono ?_
  rintro e w1 ⟨sv, rfl, so, b1⟩
  obtain ⟨sa, sn, sc, sb, sm, sd, rfl⟩ := td_is so
  have HC1 := Lib.hid b1
  have hs1 : w.heap.size ≤ w1.heap.size := b1.size
  have BX3 : Blk2 (w1.alloc (.cells #[.slice sa sn sc, .slice sb sm sd] 36)) w1.heap.size 36 (.slice sa sn sc) (.slice sb sm sd) := Blk2.new rfl _ _ _
  have bA : Below w1.heap.size w1 (w1.alloc (.cells #[.slice sa sn sc, .slice sb sm sd] 36)) := (Below.refl _ _).alloc (Nat.le_refl _) _
  have c1A := blink b1 bA
  have so1 := so.below bA
  obtain ⟨W1, hW1⟩ : ∃ W, w1.alloc (.cells #[.slice sa sn sc, .slice sb sm sd] 36) = W := ⟨_, rfl⟩
  have HW1 := Lib.hid hW1
  rw [hW1] at BX3 c1A so1
  have HSO1 := Lib.hid so1
  have HBX3 := Lib.hid BX3
  have HC1A := Lib.hid c1A
  have h31 : w1.heap.size < W1.heap.size := BX3.lt
  clear so b1 bA so1 BX3 c1A hW1 HS
  go_wp2_with fail
  rw [HW1.out]
  refine (HI.out W1 (HRDW.out.below HC1A.out)).mono ?_
  rintro e w2 ⟨gv, rfl, go, b2⟩
  obtain ⟨ga, gn, gc, gb, gm, gd, rfl⟩ := td_is go
  have hs2 : W1.heap.size ≤ w2.heap.size := b2.size
  have BX5 : Blk2 (w2.alloc (.cells #[.slice ga gn gc, .slice gb gm gd] 36)) w2.heap.size 36 (.slice ga gn gc) (.slice gb gm gd) := Blk2.new rfl _ _ _
  have bB : Below w2.heap.size w2 (w2.alloc (.cells #[.slice ga gn gc, .slice gb gm gd] 36)) := (Below.refl _ _).alloc (Nat.le_refl _) _
  have c2A := blink (blink HC1A.out b2) bB
  have go1 := go.below bB
  have so2 := (HSO1.out.below b2).below bB
  have BX32 := (HBX3.out.below b2).below bB
  have HGO1 := Lib.hid go1
  have HSO2 := Lib.hid so2
  have HBX5 := Lib.hid BX5
  have HBX32 := Lib.hid BX32
  have HC2A := Lib.hid c2A
  have h52 : w2.heap.size < (w2.alloc (.cells #[.slice ga gn gc, .slice gb gm gd] 36)).heap.size := BX5.lt
  have p30 := BX32.at0
  have p31 := BX32.at1
  have p50 := BX5.at0
  have p51 := BX5.at1
  clear go b2 bB go1 so2 BX32 BX5 c2A
  go_wp2_with fail
  refine (eqT_any _ _ S R _ HGO1.out.reads HSO2.out.reads HB1.out HB2.out HB4.out).mono ?_
  rintro e w3 ⟨rfl, b3⟩
  have hs3 : (w2.alloc (.cells #[.slice ga gn gc, .slice gb gm gd] 36)).heap.size ≤ w3.heap.size := b3.size
  have HC3 := Lib.hid (blink HC2A.out b3)
  have HGO3 := Lib.hid (HGO1.out.below b3)
  have HSO3 := Lib.hid (HSO2.out.below b3)
  have HBX53 := Lib.hid (HBX5.out.below b3)
  have HBX33 := Lib.hid (HBX32.out.below b3)
  clear p30 p31 p50 p51 b3
  have p50 := HBX53.out.at0
  have p51 := HBX53.out.at1
  go_wp2_with fail
  refine (markT_any W1.heap.size w2.heap.size _ S R 1 w3 HGO3.out (by omega) (by omega) (by omega) HB1.out HB2.out HB3.out).mono ?_
  rintro e w4 ⟨rfl, mk, K4⟩
  have hs4 : w3.heap.size ≤ w4.heap.size := K4.size
  have HC4 := Lib.hid (kout_below HC3.out K4 (by omega) (by omega))
  have HMK := Lib.hid mk
  have HBX54 := Lib.hid (blk_out HBX53.out K4 (.inr (Nat.le_refl _)))
  have HBX34 := Lib.hid (blk_out HBX33.out K4 (.inl h31))
  have HSO4 := Lib.hid (HSO3.out.out K4 (.inl (by omega)))
  clear mk K4 p50 p51
  have p50 := HBX54.out.at0
  have p51 := HBX54.out.at1
  go_wp2_with fail
  refine (heldT_any _ S R 1 w4 HMK.out.reads (by omega) (by omega) HB1.out HB2.out HB3.out).mono ?_
  rintro e w5 ⟨rfl, b5⟩
  have hs5 : w4.heap.size ≤ w5.heap.size := b5.size
  have HC5 := Lib.hid (blink HC4.out b5)
  have HMK5 := Lib.hid (HMK.out.below b5)
  have HBX55 := Lib.hid (HBX54.out.below b5)
  have HBX35 := Lib.hid (HBX34.out.below b5)
  have HSO5 := Lib.hid (HSO4.out.below b5)
  clear b5 p50 p51
  go_wp2_with fail
  refine (HI.out w5 (HRDW.out.below HC5.out)).mono ?_
  rintro e w6 ⟨hv, rfl, ho, b6⟩
  obtain ⟨ka, kn, kc, kb, km, kd, rfl⟩ := td_is ho
  have hs6 : w5.heap.size ≤ w6.heap.size := b6.size
  have bC : Below w6.heap.size w6 (w6.alloc (.cells #[.slice ka kn kc, .slice kb km kd] 36)) := (Below.refl _ _).alloc (Nat.le_refl _) _
  have BX9 : Blk2 (w6.alloc (.cells #[.slice ka kn kc, .slice kb km kd] 36)) w6.heap.size 36 (.slice ka kn kc) (.slice kb km kd) := Blk2.new rfl _ _ _
  have c6A := blink (blink HC5.out b6) bC
  have ho1 := ho.below bC
  have so6 := (HSO5.out.below b6).below bC
  have mk6 := (HMK5.out.below b6).below bC
  have BX36 := (HBX35.out.below b6).below bC
  have BX56 := (HBX55.out.below b6).below bC
  have HHO := Lib.hid ho1
  have HSO6 := Lib.hid so6
  have HMK6 := Lib.hid mk6
  have HBX56 := Lib.hid BX56
  have HC6 := Lib.hid c6A
  have p30 := BX36.at0
  have p31 := BX36.at1
  have p90 := BX9.at0
  have p91 := BX9.at1
  clear ho b6 bC ho1 so6 mk6 BX36 BX56 BX9 c6A
  go_wp2_with fail
  refine (eqT_any _ _ S R _ HHO.out.reads HSO6.out.reads HB1.out HB2.out HB4.out).mono ?_
  rintro e w7 ⟨rfl, b7⟩
  have HC7 := Lib.hid (blink HC6.out b7)
  have HMK7 := Lib.hid (HMK6.out.below b7)
  have HBX57 := Lib.hid (HBX56.out.below b7)
  clear p30 p31 p90 p91 b7
  have p50 := HBX57.out.at0
  have p51 := HBX57.out.at1
  go_wp2_with fail
  refine (heldT_any _ S R 1 w7 HMK7.out.reads (by omega) (by omega) HB1.out HB2.out HB3.out).mono ?_
  rintro e w8 ⟨rfl, b8⟩
  have HC8 := Lib.hid (blink HC7.out b8)
  clear b8 p50 p51
  go_wp2_with fail
  go_ret
  exact ⟨rfl, HC8.out⟩
end Go.Proofs.YtbclmafplaipaaaDoor.fnExactReadTable
