/-
  The model's l07Goes.
-/
import Derived.Test.YtamnojhkfknnoaaArB
namespace Go.Proofs.Ytamnojhkfknnoaa
open Go Go.RowKit
set_option linter.unusedVariables false

set_option maxHeartbeats 4000000 in
set_option maxRecDepth 100000 in
theorem sgoes_any (B st sy : Nat) (v : Value) (L : List Lan) (s0 h0 s1 h1 : Nat) (wo : Int) (hok : okNet (st : Int) (sy : Int) L) (hs0 : s0 < 8) (hh0 : h0 ≤ 300) (hs1 : s1 < 8) (hh1 : h1 ≤ 300) (hwo : -1 ≤ wo ∧ wo ≤ 7) (w : World)
    (hv : ReadsLa w v L) (hb : BlkA w B 35 (netB (st : Int) (sy : Int) v)) :
    Calls Try.prog 35 #[.pointer (some ⟨B, 0, none⟩), .agg #[.int .i8 (s0 : Int), .int .i16 (h0 : Int)], .agg #[.int .i8 (s1 : Int), .int .i16 (h1 : Int)], .int .i64 wo] w fun e w' => ∃ r, e = .returned (.bool r) ∧ (r = true ↔ Arr L wo sy s0 h0 s1 h1) ∧ Below w.heap.size w w' := by
  have hBw : B < w.heap.size := hb.lt
  have hb1 : Below w.heap.size w ((w.alloc (.cells #[.int .i8 (s0 : Int), .int .i16 (h0 : Int)] 49)).alloc (.cells #[.int .i8 (s1 : Int), .int .i16 (h1 : Int)] 49)) := (((Below.refl _ _).alloc (Nat.le_refl _) _).alloc (by simp) _)
  have BN := hb.below hb1
  have BS : BlkA ((w.alloc (.cells #[.int .i8 (s0 : Int), .int .i16 (h0 : Int)] 49)).alloc (.cells #[.int .i8 (s1 : Int), .int .i16 (h1 : Int)] 49)) (w.heap.size + 1) 49 #[.int .i8 (s1 : Int), .int .i16 (h1 : Int)] := BlkA.new (by simp) _ _
  have HB1 := Lib.hid hb1
  have HBN := Lib.hid BN
  have HBS := Lib.hid BS
  have HV := Lib.hid (hv.below hb1)
  have HOK := Lib.hid hok
  have hs8 : (s1 : Int) < 8 := by omega
  have hh8 : (h1 : Int) < 301 := by omega
  clear hb1 BN BS hv hb hok
  go_enter Try.func35, Try.ntmps35
  go_wp2_with fail
  obtain ⟨W2, hW⟩ : ∃ W, ((w.alloc (.cells #[.int .i8 (s0 : Int), .int .i16 (h0 : Int)] 49)).alloc (.cells #[.int .i8 (s1 : Int), .int .i16 (h1 : Int)] 49)) = W := ⟨_, rfl⟩
  rw [hW] at HB1 HBN HBS HV ⊢
  clear hW
  refine (sbehind_any B st sy v L s0 h0 wo HOK.out hs0 hh0 hwo W2 HV.out HBN.out).mono ?_
  rintro e w2 ⟨Bt, rfl, hBt, ⟨cs, A, bt, hT, hA⟩, hb2⟩
  have z0 : w2.cell? ⟨Bt, s1 * 301 + h1, none⟩ = some (.bool (A s1 h1)) := (bt.at _).trans (hT.at' s1 h1 hs1 hh1)
  have bs := HBS.out.below hb2
  have c0 : w2.cell? ⟨w.heap.size + 1, 0, none⟩ = some (.int .i8 (s1 : Int)) := bs.at 0
  have c1 : w2.cell? ⟨w.heap.size + 1, 1, none⟩ = some (.int .i16 (h1 : Int)) := bs.at 1
  have HR := Lib.hid (hA s1 h1 hs1 hh1)
  have HB2 : Hid (Below w.heap.size w w2) := Lib.hid (HB1.out.trans (hb2.mono HB1.out.size))
  clear bs hA hT bt hb2
  go_wp2_with fail
  go_big_quiet (fail)
  go_wp2_with fail
  go_ret
  exact ⟨_, rfl, HR.out, HB2.out.trans ((bdrewN nq).mono HB2.out.size)⟩
end Go.Proofs.Ytamnojhkfknnoaa
