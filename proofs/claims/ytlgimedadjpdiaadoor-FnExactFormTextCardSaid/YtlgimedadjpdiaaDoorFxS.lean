/-
  The model's text of a form.
-/
import Derived.Test.YtlgimedadjpdiaaDoorFxP
import Derived.Test.YtlgimedadjpdiaaDoorDecS
import Derived.Test.YtlgimedadjpdiaaDoorCuW
import Derived.Test.YtlgimedadjpdiaaDoorFxI
import Derived.Deep.RegionHeld3
namespace Go.Proofs.YtlgimedadjpdiaaDoor
open Go Go.RowKit
set_option linter.unusedVariables false

set_option maxHeartbeats 4000000 in
set_option maxRecDepth 100000 in
theorem stext_row (b len cap n : Nat) (ls : List (Int × Int × Int × Int)) (hl : ls.length = len) (h10 : len ≤ 10) (h8 : n ≤ 8) (hok : OkLTo n ls ls.length) (w : World) (hc : CellsL w b ls) :
    Calls Tryd.prog 37 #[.slice (some ⟨b, 0, none⟩) len cap] w fun e w' => e = .returned (.string (str (formK ls len))) ∧ Below w.heap.size w w' := by
  have HL := Lib.hid hl
  have HO := Lib.hid hok
  have HC := Lib.hid hc
  clear hl hok hc
  go_enter Tryd.func37, Tryd.ntmps37
  go_wp2_with fail
  go_loopw [3, 4] (fun t i wr => ∃ k : Nat, k ≤ len ∧ i = .int .i64 k ∧ t = .string (str (formK ls k)) ∧ Below w.heap.size w wr) (fun _ i _ => len - (intOf i).toNat)
  case atStart => exact ⟨0, Nat.zero_le _, rfl, rfl, Below.refl _ _⟩
  case round =>
    obtain ⟨k, hk, rfl, rfl, hnx⟩ := hrel
    have HB := Lib.hid hnx
    have hwr : w.heap.size ≤ wr.heap.size := hnx.size
    by_cases hlt : k < len
    · obtain ⟨c0, c1, c2, c3⟩ := HC.out.below hnx k (by have := HL.out; omega)
      obtain ⟨n0, n1, n2, n3, hq, h0, h1, h2, h3⟩ := line_nats HO.out (k := k) (by have := HL.out; omega) h8
      rw [hq] at c0 c1 c2 c3
      simp only at c0 c1 c2 c3
      have hlen := formK_len (fun i hi => HO.out i (by have := HL.out; omega) : OkLTo n ls k) h8
      have HS : Hid (formK ls (k + 1) = formK ls k ++ lineT ((n0 : Int), (n1 : Int), (n2 : Int), (n3 : Int))) := Lib.hid (by rw [formK, hq])
      obtain ⟨t, htq⟩ : ∃ t, formK ls k = t := ⟨_, rfl⟩
      rw [htq] at HS hlen ⊢
      obtain ⟨p1, hp1⟩ : ∃ s, dec n0 ++ [58] = s := ⟨_, rfl⟩
      have lp1 : p1.length ≤ 1100000 := by have e := congrArg List.length hp1; simp only [List.length_append, List.length_cons, List.length_nil] at e; have := dec_len n0; have := dec_len n1; have := dec_len n2; have := dec_len n3; omega
      have ap1 : ∀ W, (Op.stringOp .add (str (dec n0)) ⟨#[58]⟩).run Tryd.prog W = .ok (.string (str p1)) W := fun W => by have h := add_str (P := Tryd.prog) (dec n0) ([58]) W (by have := dec_len n0; have := dec_len n1; have := dec_len n2; have := dec_len n3; first | (simp only [List.length_cons, List.length_nil]; omega) | omega); rw [hp1] at h; exact h
      obtain ⟨p2, hp2⟩ : ∃ s, p1 ++ dec n1 = s := ⟨_, rfl⟩
      have lp2 : p2.length ≤ 2200000 := by have e := congrArg List.length hp2; simp only [List.length_append] at e; have := dec_len n0; have := dec_len n1; have := dec_len n2; have := dec_len n3; omega
      have ap2 : ∀ W, (Op.stringOp .add (str (p1)) (str (dec n1))).run Tryd.prog W = .ok (.string (str p2)) W := fun W => by have h := add_str (P := Tryd.prog) (p1) (dec n1) W (by have := dec_len n0; have := dec_len n1; have := dec_len n2; have := dec_len n3; first | (simp only [List.length_cons, List.length_nil]; omega) | omega); rw [hp2] at h; exact h
      obtain ⟨p3, hp3⟩ : ∃ s, p2 ++ [120] = s := ⟨_, rfl⟩
      have lp3 : p3.length ≤ 3300000 := by have e := congrArg List.length hp3; simp only [List.length_append, List.length_cons, List.length_nil] at e; have := dec_len n0; have := dec_len n1; have := dec_len n2; have := dec_len n3; omega
      have ap3 : ∀ W, (Op.stringOp .add (str (p2)) ⟨#[120]⟩).run Tryd.prog W = .ok (.string (str p3)) W := fun W => by have h := add_str (P := Tryd.prog) (p2) ([120]) W (by have := dec_len n0; have := dec_len n1; have := dec_len n2; have := dec_len n3; first | (simp only [List.length_cons, List.length_nil]; omega) | omega); rw [hp3] at h; exact h
      obtain ⟨p4, hp4⟩ : ∃ s, p3 ++ dec n2 = s := ⟨_, rfl⟩
      have lp4 : p4.length ≤ 4400000 := by have e := congrArg List.length hp4; simp only [List.length_append] at e; have := dec_len n0; have := dec_len n1; have := dec_len n2; have := dec_len n3; omega
      have ap4 : ∀ W, (Op.stringOp .add (str (p3)) (str (dec n2))).run Tryd.prog W = .ok (.string (str p4)) W := fun W => by have h := add_str (P := Tryd.prog) (p3) (dec n2) W (by have := dec_len n0; have := dec_len n1; have := dec_len n2; have := dec_len n3; first | (simp only [List.length_cons, List.length_nil]; omega) | omega); rw [hp4] at h; exact h
      obtain ⟨p5, hp5⟩ : ∃ s, p4 ++ [47] = s := ⟨_, rfl⟩
      have lp5 : p5.length ≤ 5500000 := by have e := congrArg List.length hp5; simp only [List.length_append, List.length_cons, List.length_nil] at e; have := dec_len n0; have := dec_len n1; have := dec_len n2; have := dec_len n3; omega
      have ap5 : ∀ W, (Op.stringOp .add (str (p4)) ⟨#[47]⟩).run Tryd.prog W = .ok (.string (str p5)) W := fun W => by have h := add_str (P := Tryd.prog) (p4) ([47]) W (by have := dec_len n0; have := dec_len n1; have := dec_len n2; have := dec_len n3; first | (simp only [List.length_cons, List.length_nil]; omega) | omega); rw [hp5] at h; exact h
      obtain ⟨p6, hp6⟩ : ∃ s, p5 ++ dec n3 = s := ⟨_, rfl⟩
      have lp6 : p6.length ≤ 6600000 := by have e := congrArg List.length hp6; simp only [List.length_append] at e; have := dec_len n0; have := dec_len n1; have := dec_len n2; have := dec_len n3; omega
      have ap6 : ∀ W, (Op.stringOp .add (str (p5)) (str (dec n3))).run Tryd.prog W = .ok (.string (str p6)) W := fun W => by have h := add_str (P := Tryd.prog) (p5) (dec n3) W (by have := dec_len n0; have := dec_len n1; have := dec_len n2; have := dec_len n3; first | (simp only [List.length_cons, List.length_nil]; omega) | omega); rw [hp6] at h; exact h
      obtain ⟨p7, hp7⟩ : ∃ s, p6 ++ [10] = s := ⟨_, rfl⟩
      have lp7 : p7.length ≤ 7700000 := by have e := congrArg List.length hp7; simp only [List.length_append, List.length_cons, List.length_nil] at e; have := dec_len n0; have := dec_len n1; have := dec_len n2; have := dec_len n3; omega
      have ap7 : ∀ W, (Op.stringOp .add (str (p6)) ⟨#[10]⟩).run Tryd.prog W = .ok (.string (str p7)) W := fun W => by have h := add_str (P := Tryd.prog) (p6) ([10]) W (by have := dec_len n0; have := dec_len n1; have := dec_len n2; have := dec_len n3; first | (simp only [List.length_cons, List.length_nil]; omega) | omega); rw [hp7] at h; exact h
      have HLT : Hid (p7 = lineT ((n0 : Int), (n1 : Int), (n2 : Int), (n3 : Int))) := Lib.hid (by rw [← hp7, ← hp6, ← hp5, ← hp4, ← hp3, ← hp2, ← hp1]; rfl)
      clear hp1 hp2 hp3 hp4 hp5 hp6 hp7
      have HN0 : Hid (∀ W, Calls Tryd.prog 73 #[.int .i64 (IntKind.i64.wrap (n0 : Int))] W fun e w' => e = .returned (.string (str (dec n0))) ∧ Below W.heap.size W w') := Lib.hid (fun W => by rw [IntWalk.i64_in (n0 : Int) (by omega)]; exact sdec_any n0 (by omega) W)
      have HN1 : Hid (∀ W, Calls Tryd.prog 73 #[.int .i64 (IntKind.i64.wrap (n1 : Int))] W fun e w' => e = .returned (.string (str (dec n1))) ∧ Below W.heap.size W w') := Lib.hid (fun W => by rw [IntWalk.i64_in (n1 : Int) (by omega)]; exact sdec_any n1 (by omega) W)
      have HN2 : Hid (∀ W, Calls Tryd.prog 73 #[.int .i64 (IntKind.i64.wrap (n2 : Int))] W fun e w' => e = .returned (.string (str (dec n2))) ∧ Below W.heap.size W w') := Lib.hid (fun W => by rw [IntWalk.i64_in (n2 : Int) (by omega)]; exact sdec_any n2 (by omega) W)
      have HN3 : Hid (∀ W, Calls Tryd.prog 73 #[.int .i64 (IntKind.i64.wrap (n3 : Int))] W fun e w' => e = .returned (.string (str (dec n3))) ∧ Below W.heap.size W w') := Lib.hid (fun W => by rw [IntWalk.i64_in (n3 : Int) (by omega)]; exact sdec_any n3 (by omega) W)
      obtain ⟨s, hsq⟩ : ∃ s, t ++ p7 = s := ⟨_, rfl⟩
      have a8 : ∀ W, (Op.stringOp .add (str t) (str p7)).run Tryd.prog W = .ok (.string (str s)) W := fun W => by rw [add_str _ _ W (by omega), hsq]
      have HSS : Hid (formK ls (k + 1) = s) := Lib.hid (by rw [HS.out, ← HLT.out, hsq])
      have hkl : (k : Int) < (len : Int) := by omega
      have hkn : (0 : Int) ≤ (k : Int) := by omega
      obtain ⟨W1, hW1⟩ : ∃ W, wr.alloc (.cells #[.int .i8 (n0 : Int), .int .i16 (n1 : Int), .int .i32 (n2 : Int), .int .i32 (n3 : Int)] 74) = W := ⟨_, rfl⟩
      have B1 : BlkA W1 wr.heap.size 74 #[.int .i8 (n0 : Int), .int .i16 (n1 : Int), .int .i32 (n2 : Int), .int .i32 (n3 : Int)] := by rw [← hW1]; exact BlkA.new rfl _ _
      have E1 : Below wr.heap.size wr W1 := by rw [← hW1]; exact (Below.refl _ _).alloc (Nat.le_refl _) _
      have HW1 := Lib.hid hW1
      have C0 := B1.drew
      have K0 : Below wr.heap.size wr W1.drew := E1.drew
      have SD : W1.drew.cell? ⟨wr.heap.size, 0, none⟩ = some (.int .i8 (n0 : Int)) ∧ W1.drew.cell? ⟨wr.heap.size, 1, none⟩ = some (.int .i16 (n1 : Int)) ∧ W1.drew.cell? ⟨wr.heap.size, 2, none⟩ = some (.int .i32 (n2 : Int)) ∧ W1.drew.cell? ⟨wr.heap.size, 3, none⟩ = some (.int .i32 (n3 : Int)) := ⟨C0.at 0, C0.at 1, C0.at 2, C0.at 3⟩
      clear hq hnx htq hsq hW1
      go_wp2_with fail
      rw [HW1.out]
      clear c0 c1 c2 c3
      go_region_held3 (fun u => u.cell? ⟨wr.heap.size, 0, none⟩ = some (.int .i8 (n0 : Int)) ∧ u.cell? ⟨wr.heap.size, 1, none⟩ = some (.int .i16 (n1 : Int)) ∧ u.cell? ⟨wr.heap.size, 2, none⟩ = some (.int .i32 (n2 : Int)) ∧ u.cell? ⟨wr.heap.size, 3, none⟩ = some (.int .i32 (n3 : Int))) (first | (with_reducible exact SD) | (with_reducible exact zS4) | (with_reducible exact zS3) | (with_reducible exact zS2) | (with_reducible exact zS1)) (first | (go_at_call 73; (with_reducible refine (HN0.out _).mono ?_); rintro e v1 ⟨rfl, d1⟩; have C1 := C0.below d1; have zS1 : v1.cell? ⟨wr.heap.size, 0, none⟩ = some (.int .i8 (n0 : Int)) ∧ v1.cell? ⟨wr.heap.size, 1, none⟩ = some (.int .i16 (n1 : Int)) ∧ v1.cell? ⟨wr.heap.size, 2, none⟩ = some (.int .i32 (n2 : Int)) ∧ v1.cell? ⟨wr.heap.size, 3, none⟩ = some (.int .i32 (n3 : Int)) := ⟨C1.at 0, C1.at 1, C1.at 2, C1.at 3⟩; have K1 := blink K0 d1) | (go_at_call 73; (with_reducible refine (HN1.out _).mono ?_); rintro e v2 ⟨rfl, d2⟩; have C2 := C1.below d2; have zS2 : v2.cell? ⟨wr.heap.size, 0, none⟩ = some (.int .i8 (n0 : Int)) ∧ v2.cell? ⟨wr.heap.size, 1, none⟩ = some (.int .i16 (n1 : Int)) ∧ v2.cell? ⟨wr.heap.size, 2, none⟩ = some (.int .i32 (n2 : Int)) ∧ v2.cell? ⟨wr.heap.size, 3, none⟩ = some (.int .i32 (n3 : Int)) := ⟨C2.at 0, C2.at 1, C2.at 2, C2.at 3⟩; have K2 := blink K1 d2) | (go_at_call 73; (with_reducible refine (HN2.out _).mono ?_); rintro e v3 ⟨rfl, d3⟩; have C3 := C2.below d3; have zS3 : v3.cell? ⟨wr.heap.size, 0, none⟩ = some (.int .i8 (n0 : Int)) ∧ v3.cell? ⟨wr.heap.size, 1, none⟩ = some (.int .i16 (n1 : Int)) ∧ v3.cell? ⟨wr.heap.size, 2, none⟩ = some (.int .i32 (n2 : Int)) ∧ v3.cell? ⟨wr.heap.size, 3, none⟩ = some (.int .i32 (n3 : Int)) := ⟨C3.at 0, C3.at 1, C3.at 2, C3.at 3⟩; have K3 := blink K2 d3) | (go_at_call 73; (with_reducible refine (HN3.out _).mono ?_); rintro e v4 ⟨rfl, d4⟩; have C4 := C3.below d4; have zS4 : v4.cell? ⟨wr.heap.size, 0, none⟩ = some (.int .i8 (n0 : Int)) ∧ v4.cell? ⟨wr.heap.size, 1, none⟩ = some (.int .i16 (n1 : Int)) ∧ v4.cell? ⟨wr.heap.size, 2, none⟩ = some (.int .i32 (n2 : Int)) ∧ v4.cell? ⟨wr.heap.size, 3, none⟩ = some (.int .i32 (n3 : Int)) := ⟨C4.at 0, C4.at 1, C4.at 2, C4.at 3⟩; have K4 := blink K3 d4))
      clear zS1 zS2 zS3 zS4 SD
      have HB4 : Hid (Below w.heap.size w v4) := Lib.hid (HB.out.trans (K4.mono hwr))
      go_wp2_with fail
      go_roundw
      case rel => exact ⟨k + 1, by omega, by go_num, by rw [HSS.out], HB4.out⟩
      case measure => simp [intOf]; omega
    · have hk' : k = len := by omega
      have HE : Hid (formK ls k = formK ls len) := Lib.hid (by rw [hk'])
      clear hk' hnx
      go_wp2_with fail
      go_ret
      exact ⟨by rw [← HE.out]; rfl, HB.out⟩
theorem stext_zero (a : Option Addr) (cap : Nat) (w : World) :
    Calls Tryd.prog 37 #[.slice a 0 cap] w fun e w' => e = .returned (.string (str [])) ∧ Below w.heap.size w w' := by
  go_enter Tryd.func37, Tryd.ntmps37
  go_wp2_with fail
  refine wp_loop_rounds 1 ?_
  rw [rounds_succ]
  go_wp2_with fail
  go_ret
  exact ⟨rfl, Below.refl _ _⟩
set_option maxHeartbeats 1000000 in
theorem sform_any (v u : Value) (cs ls : List (Int × Int × Int × Int)) (w : World) (hv : ReadsC w v cs) (hu : ReadsL w u ls) (hfc : FitsC cs) (hfl : FitsL ls) (hx : cs.length ≤ 1048576) (hy : ls.length ≤ 1048576) :
    Calls Tryd.prog 10 #[v, u] w fun e w' => e = .returned (.string (str (formT cs ls))) ∧ Below w.heap.size w w' := by
  cases hvf : vldF cs ls
  · rw [formT_no hvf]
    have HV := Lib.hid hvf
    clear hvf
    go_enter Tryd.func10, Tryd.ntmps10
    go_wp2_with fail
    refine (sokF_any _ _ cs ls _ hv hu hfc hfl hx hy).mono ?_
    rintro e w1 ⟨rfl, b1⟩
    rw [HV.out]
    go_wp2_with fail
    go_ret
    exact ⟨rfl, b1⟩
  · obtain ⟨hvc, h10, hok⟩ := vldF_spec hvf
    have h8 := (vldC_spec hvc).1.2
    rw [formT_ok hvf]
    have HT : Hid (∀ W, Below w.heap.size w W → Calls Tryd.prog 37 #[u] W fun e w' => e = .returned (.string (str (formK ls ls.length))) ∧ Below W.heap.size W w') := Lib.hid (fun W hb => by
      obtain ⟨a, cap, rfl, h⟩ := hu.below hb
      by_cases h0 : ls = []
      · subst h0
        exact stext_zero a cap W
      · obtain ⟨b, rfl, hcl⟩ := h h0
        exact stext_row b ls.length cap cs.length ls rfl h10 h8 hok W hcl)
    have HV := Lib.hid hvf
    clear hvf
    go_enter Tryd.func10, Tryd.ntmps10
    go_wp2_with fail
    refine (sokF_any _ _ cs ls _ hv hu hfc hfl hx hy).mono ?_
    rintro e w1 ⟨rfl, b1⟩
    rw [HV.out]
    go_wp2_with fail
    refine (HT.out _ b1).mono ?_
    rintro e w2 ⟨rfl, b2⟩
    go_wp2_with fail
    go_ret
    exact ⟨rfl, blink b1 b2⟩
end Go.Proofs.YtlgimedadjpdiaaDoor
