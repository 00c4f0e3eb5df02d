/-
  The walk of FnExactReadNet: program and model answer the same at every argument; what is answered lies in new memory.
-/
import Derived.Test.YtbclmafplaipaaaDoorRnU
import Derived.Test.YtbclmafplaipaaaDoorRnJ
import Derived.Test.YtbclmafplaipaaaDoorMLane
import Derived.Test.YtbclmafplaipaaaDoorELane
import Derived.Test.YtbclmafplaipaaaDoorKeepO
namespace Go.Proofs.YtbclmafplaipaaaDoor.fnExactReadNet
open Go Go.RowKit
set_option linter.unusedVariables false

theorem rn_bd (text : List UInt8) : (rnL text).length ≤ 20 := by
  cases h : netM text with
  | none => rw [(rn_no h).2.2.1]; decide
  | some q =>
    obtain ⟨a, b, L⟩ := q
    rw [(rn_yes h).2.2.1]
    exact (vldN_spec (netM_of h).1).2.2.1
theorem blkA_out {w w' : World} {B lo hi : Nat} {T : TypeId} {vs : Array Value} (h : BlkA w B T vs) (K : KeepsOut lo hi w w') (hd : B < lo ∨ hi ≤ B) : BlkA w' B T vs := (K.block B h.lt hd).trans h
theorem heldNet_any (st sy : Int) (v : Value) (m : Nat) (k0 : Int) (w : World) (hv : ReadsLa w v (iotaLa k0 m)) (h0 : 0 ≤ k0) (h1 : k0 ≤ 16777216) (hn : m ≤ 1048576) :
    Calls Tryd.prog 54 #[netV st sy v, .int .i64 k0] w fun e w' => e = .returned (.int .i64 (k0 + 4 * m)) ∧ Below w.heap.size w w' := by
  have HV := Lib.hid hv
  have tq : decide (k0 + 4 * (m : Int) < 0) = false := decide_eq_false (by omega)
  clear hv
  go_enter Tryd.func54, Tryd.ntmps54
  go_wp2_with fail
  refine (heldLa_any v m k0 _ (HV.out.below ((Below.refl _ _).alloc (Nat.le_refl _) _)) h0 h1 hn).mono ?_
  rintro e w2 ⟨rfl, b2⟩
  have HB := Lib.hid (blink ((Below.refl _ _).alloc (Nat.le_refl _) _) b2)
  clear b2
  go_wp2_with fail
  go_ret
  exact ⟨rfl, HB.out⟩

set_option maxHeartbeats 3200000 in
set_option maxRecDepth 100000 in
theorem walk (s0 : ByteArray) (w : World) (hrd : RdW w) :
    Calls Tryd.prog 10 #[.string s0] w fun e w' => e = .returned (.bool true) ∧ Below w.heap.size w w' := by
  have HRDW := Lib.hid hrd
  clear hrd
  by_cases hm0 : s0.size ≤ 1048576
  rotate_left
  · have t0 : decide ((1048576 : Int) < (s0.size : Int)) = true := by simp; omega
    go_enter Tryd.func10, Tryd.ntmps10
    go_wp2_with fail
    go_ret
    exact ⟨rfl, Below.refl _ _⟩
  obtain ⟨l0, hl0⟩ : ∃ l, s0 = str l := ⟨s0.data.toList, by unfold str; apply ByteArray.ext; simp⟩
  subst hl0
  have hsz0 : (str l0).size = l0.length := str_size l0
  have HX0 : Hid (l0.length ≤ 1048576) := Lib.hid (by omega)
  have t0 : decide ((1048576 : Int) < (l0.length : Int)) = false := by simp; omega
  clear hm0
  have hb1 := rn_bd l0
  have HS := Lib.hid (sreadN_any l0 HX0.out w)
  have HI := Lib.hid (fun W h => irn_any l0 HX0.out W h)
  obtain ⟨S, hS⟩ : ∃ S, rnS l0 = S := ⟨_, rfl⟩
  obtain ⟨Y, hY⟩ : ∃ S, rnY l0 = S := ⟨_, rfl⟩
  obtain ⟨L, hL⟩ : ∃ R, rnL l0 = R := ⟨_, rfl⟩
  obtain ⟨C, hC⟩ : ∃ C, rnC l0 = C := ⟨_, rfl⟩
  rw [hL] at hb1
  rw [hS, hY, hL, hC] at HS
  have HI : Hid (∀ W, RdW W → Calls Tryd.prog 51 #[.string (str l0)] W (RetRn W S Y L C)) := Lib.hid (fun W h => by have := HI.out W h; rw [hS, hY, hL, hC] at this; exact this)
  have HB1 : Hid (L.length ≤ 1048576) := Lib.hid (by omega)
  have tq : decide ((1 : Int) + 4 * (L.length : Int) < 0) = false := decide_eq_false (by omega)
  have HIL := Lib.hid (iotaLa_length 1 L.length)
  clear hS hY hL hC hb1
  go_enter Tryd.func10, Tryd.ntmps10
  go_wp2_with fail
  refine HS.out.mono ?_
  rintro e w1 ⟨sv, rfl, so, b1⟩
  have HC1 := Lib.hid b1
  have hs1 : w.heap.size ≤ w1.heap.size := b1.size
  have BX3 : BlkA (w1.alloc (.cells #[.int .i8 S, .int .i16 Y, sv] 72)) w1.heap.size 72 #[.int .i8 S, .int .i16 Y, sv] := BlkA.new rfl _ _
  have bA : Below w1.heap.size w1 (w1.alloc (.cells #[.int .i8 S, .int .i16 Y, sv] 72)) := (Below.refl _ _).alloc (Nat.le_refl _) _
  obtain ⟨sa, sc, hsv⟩ := own_is so
  subst hsv
  have c1A := blink b1 bA
  have so1 := so.below bA
  obtain ⟨W1, hW1⟩ : ∃ W, w1.alloc (.cells #[.int .i8 S, .int .i16 Y, .slice sa L.length sc] 72) = W := ⟨_, rfl⟩
  have HW1 := Lib.hid hW1
  rw [hW1] at BX3 c1A so1
  have HSO1 := Lib.hid so1
  have HBX3 := Lib.hid BX3
  have HC1A := Lib.hid c1A
  have h31 : w1.heap.size < W1.heap.size := BX3.lt
  clear so b1 bA so1 BX3 c1A hW1 HS
  go_wp2_with fail
  rw [HW1.out]
  refine (HI.out W1 (HRDW.out.below HC1A.out)).mono ?_
  rintro e w2 ⟨gv, rfl, go, b2⟩
  obtain ⟨ga, gc, hgv⟩ := own_is go
  subst hgv
  have hs2 : W1.heap.size ≤ w2.heap.size := b2.size
  have BX5 : BlkA (w2.alloc (.cells #[.int .i8 S, .int .i16 Y, .slice ga L.length gc] 72)) w2.heap.size 72 #[.int .i8 S, .int .i16 Y, .slice ga L.length gc] := BlkA.new rfl _ _
  have bB : Below w2.heap.size w2 (w2.alloc (.cells #[.int .i8 S, .int .i16 Y, .slice ga L.length gc] 72)) := (Below.refl _ _).alloc (Nat.le_refl _) _
  have c2A := blink (blink HC1A.out b2) bB
  have hgo : ∀ k, (Value.slice ga L.length gc).ownBlock = some k → W1.heap.size ≤ k ∧ k < w2.heap.size := go.block
  have HGO := Lib.hid hgo
  have HSB : Hid (∀ k, (Value.slice sa L.length sc).ownBlock = some k → w.heap.size ≤ k ∧ k < W1.heap.size) := Lib.hid HSO1.out.block
  have go1 := go.below bB
  have so2 := (HSO1.out.below b2).below bB
  have BX32 := (HBX3.out.below b2).below bB
  have HGO1 := Lib.hid go1
  have HSO2 := Lib.hid so2
  have HBX5 := Lib.hid BX5
  have HBX32 := Lib.hid BX32
  have HC2A := Lib.hid c2A
  have h52 : w2.heap.size < (w2.alloc (.cells #[.int .i8 S, .int .i16 Y, .slice ga L.length gc] 72)).heap.size := BX5.lt
  have p30 := BX32.at 0
  have p31 := BX32.at 1
  have p32 := BX32.at 2
  have p50 := BX5.at 0
  have p51 := BX5.at 1
  have p52 := BX5.at 2
  clear go b2 bB go1 so2 BX32 BX5 c2A hgo
  go_wp2_with fail
  refine (eqNet_eq S Y _ _ L _ HGO1.out.reads HSO2.out.reads HB1.out).mono ?_
  rintro e w3 ⟨rfl, b3⟩
  have hs3 : (w2.alloc (.cells #[.int .i8 S, .int .i16 Y, .slice ga L.length gc] 72)).heap.size ≤ w3.heap.size := b3.size
  have HC3 := Lib.hid (blink HC2A.out b3)
  have HGO3 := Lib.hid (HGO1.out.below b3)
  have HSO3 := Lib.hid (HSO2.out.below b3)
  have HBX53 := Lib.hid (HBX5.out.below b3)
  have HBX33 := Lib.hid (HBX32.out.below b3)
  clear p30 p31 p32 p50 p51 p52 b3
  have p50 := HBX53.out.at 0
  have p51 := HBX53.out.at 1
  have p52 := HBX53.out.at 2
  go_wp2_with fail
  refine (markNet_any _ _ S Y _ L 1 w3 HGO3.out (by omega) (by omega) HB1.out).mono ?_
  rintro e w4 ⟨rfl, mk, G4⟩
  have K4 : KeepsOut W1.heap.size w2.heap.size w3 w4 := G4 _ _ HGO.out
  have hs4 : w3.heap.size ≤ w4.heap.size := K4.size
  have HC4 := Lib.hid (kout_below HC3.out K4 (by omega) (by omega))
  have HMK := Lib.hid mk
  have HBX54 := Lib.hid (blkA_out HBX53.out K4 (.inr (Nat.le_refl _)))
  have HBX34 := Lib.hid (blkA_out HBX33.out K4 (.inl h31))
  have HSO4 : Hid (OwnLa 149 w.heap.size w4 (.slice sa L.length sc) L) := Lib.hid (row_out HSO3.out K4 (fun k hk => .inl (HSB.out k hk).2))
  clear mk G4 K4 p50 p51 p52
  have p50 := HBX54.out.at 0
  have p51 := HBX54.out.at 1
  have p52 := HBX54.out.at 2
  go_wp2_with fail
  refine (heldNet_any S Y _ L.length 1 w4 HMK.out.reads (by omega) (by omega) HB1.out).mono ?_
  rintro e w5 ⟨rfl, b5⟩
  have hs5 : w4.heap.size ≤ w5.heap.size := b5.size
  have HC5 := Lib.hid (blink HC4.out b5)
  have HMK5 := Lib.hid (HMK.out.below b5)
  have HBX55 := Lib.hid (HBX54.out.below b5)
  have HBX35 := Lib.hid (HBX34.out.below b5)
  have HSO5 := Lib.hid (HSO4.out.below b5)
  clear b5 p50 p51 p52
  go_wp2_with fail
  refine (HI.out w5 (HRDW.out.below HC5.out)).mono ?_
  rintro e w6 ⟨hv, rfl, ho, b6⟩
  obtain ⟨ka, kc, hkv⟩ := own_is ho
  subst hkv
  have hs6 : w5.heap.size ≤ w6.heap.size := b6.size
  have bC : Below w6.heap.size w6 (w6.alloc (.cells #[.int .i8 S, .int .i16 Y, .slice ka L.length kc] 72)) := (Below.refl _ _).alloc (Nat.le_refl _) _
  have BX9 : BlkA (w6.alloc (.cells #[.int .i8 S, .int .i16 Y, .slice ka L.length kc] 72)) w6.heap.size 72 #[.int .i8 S, .int .i16 Y, .slice ka L.length kc] := BlkA.new rfl _ _
  have c6A := blink (blink HC5.out b6) bC
  have ho1 := ho.below bC
  have so6 := (HSO5.out.below b6).below bC
  have mk6 := (HMK5.out.below b6).below bC
  have BX36 := (HBX35.out.below b6).below bC
  have BX56 := (HBX55.out.below b6).below bC
  have HHO := Lib.hid ho1
  have HSO6 := Lib.hid so6
  have HMK6 := Lib.hid mk6
  have HBX56 := Lib.hid BX56
  have HC6 := Lib.hid c6A
  have p30 := BX36.at 0
  have p31 := BX36.at 1
  have p32 := BX36.at 2
  have p90 := BX9.at 0
  have p91 := BX9.at 1
  have p92 := BX9.at 2
  clear ho b6 bC ho1 so6 mk6 BX36 BX56 BX9 c6A
  go_wp2_with fail
  refine (eqNet_eq S Y _ _ L _ HHO.out.reads HSO6.out.reads HB1.out).mono ?_
  rintro e w7 ⟨rfl, b7⟩
  have HC7 := Lib.hid (blink HC6.out b7)
  have HMK7 := Lib.hid (HMK6.out.below b7)
  have HBX57 := Lib.hid (HBX56.out.below b7)
  clear p30 p31 p32 p90 p91 p92 b7
  have p50 := HBX57.out.at 0
  have p51 := HBX57.out.at 1
  have p52 := HBX57.out.at 2
  go_wp2_with fail
  refine (heldNet_any S Y _ L.length 1 w7 HMK7.out.reads (by omega) (by omega) HB1.out).mono ?_
  rintro e w8 ⟨rfl, b8⟩
  have HC8 := Lib.hid (blink HC7.out b8)
  clear b8 p50 p51 p52
  go_wp2_with fail
  go_ret
  exact ⟨rfl, HC8.out⟩
end Go.Proofs.YtbclmafplaipaaaDoor.fnExactReadNet
