/-
  The program's text of a form.
-/
import Derived.Test.YtbclmafplaipaaaDoorFxP
import Derived.Test.YtbclmafplaipaaaDoorItoa
import Derived.Test.YtbclmafplaipaaaDoorCuW
import Derived.Deep.RegionHeld3
namespace Go.Proofs.YtbclmafplaipaaaDoor
open Go Go.RowKit
set_option linter.unusedVariables false

set_option maxHeartbeats 2000000 in
set_option maxRecDepth 100000 in
theorem iline_any (n0 n1 n2 n3 : Nat) (h0 : n0 ≤ 8) (h1 : n1 ≤ 1000) (h2 : n2 ≤ 1000000) (h3 : n3 ≤ 1000000) (w : World) (ht : PowTab w) :
    Calls Tryd.prog 133 #[.agg #[.int .i8 (n0 : Int), .int .i16 (n1 : Int), .int .i32 (n2 : Int), .int .i32 (n3 : Int)]] w fun e w' => e = .returned (.string (str (lineT ((n0 : Int), (n1 : Int), (n2 : Int), (n3 : Int))))) ∧ Below w.heap.size w w' := by
  have HPT := Lib.hid ht
  clear ht
  obtain ⟨p1, hp1⟩ : ∃ s, dec n0 ++ [58] = s := ⟨_, rfl⟩
  have lp1 : p1.length ≤ 1100000 := by have e := congrArg List.length hp1; simp only [List.length_append, List.length_cons, List.length_nil] at e; have := dec_len n0; have := dec_len n1; have := dec_len n2; have := dec_len n3; omega
  have ap1 : ∀ W, (Op.stringOp .add (str (dec n0)) ⟨#[58]⟩).run Tryd.prog W = .ok (.string (str p1)) W := fun W => by have h := add_str (P := Tryd.prog) (dec n0) ([58]) W (by have := dec_len n0; have := dec_len n1; have := dec_len n2; have := dec_len n3; first | (simp only [List.length_cons, List.length_nil]; omega) | omega); rw [hp1] at h; exact h
  obtain ⟨p2, hp2⟩ : ∃ s, p1 ++ dec n1 = s := ⟨_, rfl⟩
  have lp2 : p2.length ≤ 2200000 := by have e := congrArg List.length hp2; simp only [List.length_append] at e; have := dec_len n0; have := dec_len n1; have := dec_len n2; have := dec_len n3; omega
  have ap2 : ∀ W, (Op.stringOp .add (str (p1)) (str (dec n1))).run Tryd.prog W = .ok (.string (str p2)) W := fun W => by have h := add_str (P := Tryd.prog) (p1) (dec n1) W (by have := dec_len n0; have := dec_len n1; have := dec_len n2; have := dec_len n3; first | (simp only [List.length_cons, List.length_nil]; omega) | omega); rw [hp2] at h; exact h
  obtain ⟨p3, hp3⟩ : ∃ s, p2 ++ [120] = s := ⟨_, rfl⟩
  have lp3 : p3.length ≤ 3300000 := by have e := congrArg List.length hp3; simp only [List.length_append, List.length_cons, List.length_nil] at e; have := dec_len n0; have := dec_len n1; have := dec_len n2; have := dec_len n3; omega
  have ap3 : ∀ W, (Op.stringOp .add (str (p2)) ⟨#[120]⟩).run Tryd.prog W = .ok (.string (str p3)) W := fun W => by have h := add_str (P := Tryd.prog) (p2) ([120]) W (by have := dec_len n0; have := dec_len n1; have := dec_len n2; have := dec_len n3; first | (simp only [List.length_cons, List.length_nil]; omega) | omega); rw [hp3] at h; exact h
  obtain ⟨p4, hp4⟩ : ∃ s, p3 ++ dec n2 = s := ⟨_, rfl⟩
  have lp4 : p4.length ≤ 4400000 := by have e := congrArg List.length hp4; simp only [List.length_append] at e; have := dec_len n0; have := dec_len n1; have := dec_len n2; have := dec_len n3; omega
  have ap4 : ∀ W, (Op.stringOp .add (str (p3)) (str (dec n2))).run Tryd.prog W = .ok (.string (str p4)) W := fun W => by have h := add_str (P := Tryd.prog) (p3) (dec n2) W (by have := dec_len n0; have := dec_len n1; have := dec_len n2; have := dec_len n3; first | (simp only [List.length_cons, List.length_nil]; omega) | omega); rw [hp4] at h; exact h
  obtain ⟨p5, hp5⟩ : ∃ s, p4 ++ [47] = s := ⟨_, rfl⟩
  have lp5 : p5.length ≤ 5500000 := by have e := congrArg List.length hp5; simp only [List.length_append, List.length_cons, List.length_nil] at e; have := dec_len n0; have := dec_len n1; have := dec_len n2; have := dec_len n3; omega
  have ap5 : ∀ W, (Op.stringOp .add (str (p4)) ⟨#[47]⟩).run Tryd.prog W = .ok (.string (str p5)) W := fun W => by have h := add_str (P := Tryd.prog) (p4) ([47]) W (by have := dec_len n0; have := dec_len n1; have := dec_len n2; have := dec_len n3; first | (simp only [List.length_cons, List.length_nil]; omega) | omega); rw [hp5] at h; exact h
  obtain ⟨p6, hp6⟩ : ∃ s, p5 ++ dec n3 = s := ⟨_, rfl⟩
  have lp6 : p6.length ≤ 6600000 := by have e := congrArg List.length hp6; simp only [List.length_append] at e; have := dec_len n0; have := dec_len n1; have := dec_len n2; have := dec_len n3; omega
  have ap6 : ∀ W, (Op.stringOp .add (str (p5)) (str (dec n3))).run Tryd.prog W = .ok (.string (str p6)) W := fun W => by have h := add_str (P := Tryd.prog) (p5) (dec n3) W (by have := dec_len n0; have := dec_len n1; have := dec_len n2; have := dec_len n3; first | (simp only [List.length_cons, List.length_nil]; omega) | omega); rw [hp6] at h; exact h
  obtain ⟨p7, hp7⟩ : ∃ s, p6 ++ [10] = s := ⟨_, rfl⟩
  have lp7 : p7.length ≤ 7700000 := by have e := congrArg List.length hp7; simp only [List.length_append, List.length_cons, List.length_nil] at e; have := dec_len n0; have := dec_len n1; have := dec_len n2; have := dec_len n3; omega
  have ap7 : ∀ W, (Op.stringOp .add (str (p6)) ⟨#[10]⟩).run Tryd.prog W = .ok (.string (str p7)) W := fun W => by have h := add_str (P := Tryd.prog) (p6) ([10]) W (by have := dec_len n0; have := dec_len n1; have := dec_len n2; have := dec_len n3; first | (simp only [List.length_cons, List.length_nil]; omega) | omega); rw [hp7] at h; exact h
  have HLT : Hid (p7 = lineT ((n0 : Int), (n1 : Int), (n2 : Int), (n3 : Int))) := Lib.hid (by rw [← hp7, ← hp6, ← hp5, ← hp4, ← hp3, ← hp2, ← hp1]; rfl)
  clear hp1 hp2 hp3 hp4 hp5 hp6 hp7
  have HN0 : Hid (∀ W, Below w.heap.size w W → Calls Tryd.prog 122 #[.int .i64 (IntKind.i64.wrap (n0 : Int))] W fun e w' => e = .returned (.string (str (dec n0))) ∧ Below W.heap.size W w') := Lib.hid (fun W hb => by rw [IntWalk.i64_in (n0 : Int) (by omega)]; exact iitoa_any n0 (by omega) W (HPT.out.below hb))
  have HN1 : Hid (∀ W, Below w.heap.size w W → Calls Tryd.prog 122 #[.int .i64 (IntKind.i64.wrap (n1 : Int))] W fun e w' => e = .returned (.string (str (dec n1))) ∧ Below W.heap.size W w') := Lib.hid (fun W hb => by rw [IntWalk.i64_in (n1 : Int) (by omega)]; exact iitoa_any n1 (by omega) W (HPT.out.below hb))
  have HN2 : Hid (∀ W, Below w.heap.size w W → Calls Tryd.prog 122 #[.int .i64 (IntKind.i64.wrap (n2 : Int))] W fun e w' => e = .returned (.string (str (dec n2))) ∧ Below W.heap.size W w') := Lib.hid (fun W hb => by rw [IntWalk.i64_in (n2 : Int) (by omega)]; exact iitoa_any n2 (by omega) W (HPT.out.below hb))
  have HN3 : Hid (∀ W, Below w.heap.size w W → Calls Tryd.prog 122 #[.int .i64 (IntKind.i64.wrap (n3 : Int))] W fun e w' => e = .returned (.string (str (dec n3))) ∧ Below W.heap.size W w') := Lib.hid (fun W hb => by rw [IntWalk.i64_in (n3 : Int) (by omega)]; exact iitoa_any n3 (by omega) W (HPT.out.below hb))
  obtain ⟨W1, hW1⟩ : ∃ W, w.alloc (.cells #[.int .i8 (n0 : Int), .int .i16 (n1 : Int), .int .i32 (n2 : Int), .int .i32 (n3 : Int)] 124) = W := ⟨_, rfl⟩
  have B1 : BlkA W1 w.heap.size 124 #[.int .i8 (n0 : Int), .int .i16 (n1 : Int), .int .i32 (n2 : Int), .int .i32 (n3 : Int)] := by rw [← hW1]; exact BlkA.new rfl _ _
  have E1 : Below w.heap.size w W1 := by rw [← hW1]; exact (Below.refl _ _).alloc (Nat.le_refl _) _
  have HW1 := Lib.hid hW1
  clear hW1
  have C0 := B1.drew
  have K0 : Below w.heap.size w W1.drew := E1.drew
  have SD : W1.drew.cell? ⟨w.heap.size, 0, none⟩ = some (.int .i8 (n0 : Int)) ∧ W1.drew.cell? ⟨w.heap.size, 1, none⟩ = some (.int .i16 (n1 : Int)) ∧ W1.drew.cell? ⟨w.heap.size, 2, none⟩ = some (.int .i32 (n2 : Int)) ∧ W1.drew.cell? ⟨w.heap.size, 3, none⟩ = some (.int .i32 (n3 : Int)) := ⟨C0.at 0, C0.at 1, C0.at 2, C0.at 3⟩
  go_enter Tryd.func133, Tryd.ntmps133
  go_wp2_with fail
  rw [HW1.out]
  go_region_held3 (fun u => u.cell? ⟨w.heap.size, 0, none⟩ = some (.int .i8 (n0 : Int)) ∧ u.cell? ⟨w.heap.size, 1, none⟩ = some (.int .i16 (n1 : Int)) ∧ u.cell? ⟨w.heap.size, 2, none⟩ = some (.int .i32 (n2 : Int)) ∧ u.cell? ⟨w.heap.size, 3, none⟩ = some (.int .i32 (n3 : Int))) (first | (with_reducible exact SD) | (with_reducible exact zS2) | (with_reducible exact zS1)) (first | (go_at_call 122; (with_reducible refine (HN0.out _ K0).mono ?_); rintro e v1 ⟨rfl, d1⟩; have C1 := C0.below d1; have zS1 : v1.cell? ⟨w.heap.size, 0, none⟩ = some (.int .i8 (n0 : Int)) ∧ v1.cell? ⟨w.heap.size, 1, none⟩ = some (.int .i16 (n1 : Int)) ∧ v1.cell? ⟨w.heap.size, 2, none⟩ = some (.int .i32 (n2 : Int)) ∧ v1.cell? ⟨w.heap.size, 3, none⟩ = some (.int .i32 (n3 : Int)) := ⟨C1.at 0, C1.at 1, C1.at 2, C1.at 3⟩; have K1 := blink K0 d1) | (go_at_call 122; (with_reducible refine (HN1.out _ K1).mono ?_); rintro e v2 ⟨rfl, d2⟩; have C2 := C1.below d2; have zS2 : v2.cell? ⟨w.heap.size, 0, none⟩ = some (.int .i8 (n0 : Int)) ∧ v2.cell? ⟨w.heap.size, 1, none⟩ = some (.int .i16 (n1 : Int)) ∧ v2.cell? ⟨w.heap.size, 2, none⟩ = some (.int .i32 (n2 : Int)) ∧ v2.cell? ⟨w.heap.size, 3, none⟩ = some (.int .i32 (n3 : Int)) := ⟨C2.at 0, C2.at 1, C2.at 2, C2.at 3⟩; have K2 := blink K1 d2))
  clear zS1 zS2 SD
  have D2 := C2.drew
  have SE : v2.drew.cell? ⟨w.heap.size, 0, none⟩ = some (.int .i8 (n0 : Int)) ∧ v2.drew.cell? ⟨w.heap.size, 1, none⟩ = some (.int .i16 (n1 : Int)) ∧ v2.drew.cell? ⟨w.heap.size, 2, none⟩ = some (.int .i32 (n2 : Int)) ∧ v2.drew.cell? ⟨w.heap.size, 3, none⟩ = some (.int .i32 (n3 : Int)) := ⟨D2.at 0, D2.at 1, D2.at 2, D2.at 3⟩
  have K2' : Below w.heap.size w v2.drew := K2.drew
  go_wp2_with fail
  go_region_held3 (fun u => u.cell? ⟨w.heap.size, 0, none⟩ = some (.int .i8 (n0 : Int)) ∧ u.cell? ⟨w.heap.size, 1, none⟩ = some (.int .i16 (n1 : Int)) ∧ u.cell? ⟨w.heap.size, 2, none⟩ = some (.int .i32 (n2 : Int)) ∧ u.cell? ⟨w.heap.size, 3, none⟩ = some (.int .i32 (n3 : Int))) (first | (with_reducible exact SE) | (with_reducible exact zS4) | (with_reducible exact zS3)) (first | (go_at_call 122; (with_reducible refine (HN2.out _ K2').mono ?_); rintro e v3 ⟨rfl, d3⟩; have C3 := D2.below d3; have zS3 : v3.cell? ⟨w.heap.size, 0, none⟩ = some (.int .i8 (n0 : Int)) ∧ v3.cell? ⟨w.heap.size, 1, none⟩ = some (.int .i16 (n1 : Int)) ∧ v3.cell? ⟨w.heap.size, 2, none⟩ = some (.int .i32 (n2 : Int)) ∧ v3.cell? ⟨w.heap.size, 3, none⟩ = some (.int .i32 (n3 : Int)) := ⟨C3.at 0, C3.at 1, C3.at 2, C3.at 3⟩; have K3 := blink K2' d3) | (go_at_call 122; (with_reducible refine (HN3.out _ K3).mono ?_); rintro e v4 ⟨rfl, d4⟩; have C4 := C3.below d4; have zS4 : v4.cell? ⟨w.heap.size, 0, none⟩ = some (.int .i8 (n0 : Int)) ∧ v4.cell? ⟨w.heap.size, 1, none⟩ = some (.int .i16 (n1 : Int)) ∧ v4.cell? ⟨w.heap.size, 2, none⟩ = some (.int .i32 (n2 : Int)) ∧ v4.cell? ⟨w.heap.size, 3, none⟩ = some (.int .i32 (n3 : Int)) := ⟨C4.at 0, C4.at 1, C4.at 2, C4.at 3⟩; have K4 := blink K3 d4))
  go_wp2_with fail
  go_ret
  exact ⟨by rw [HLT.out]; rfl, K4⟩

/-- A line of a valid form, as natural numbers. -/
theorem line_nats {n : Nat} {ls : List (Int × Int × Int × Int)} {k : Nat} (h : OkLTo n ls ls.length) (hk : k < ls.length) (hn : n ≤ 8) : ∃ n0 n1 n2 n3 : Nat, ls.getD k (0, 0, 0, 0) = ((n0 : Int), (n1 : Int), (n2 : Int), (n3 : Int)) ∧ n0 ≤ 8 ∧ n1 ≤ 1000 ∧ n2 ≤ 1000000 ∧ n3 ≤ 1000000 := by
  have h2 := h k hk
  obtain ⟨q, hq⟩ : ∃ q, ls.getD k (0, 0, 0, 0) = q := ⟨_, rfl⟩
  rw [hq] at h2
  obtain ⟨x0, x1, x2, x3⟩ := q
  unfold okL at h2
  simp only at h2
  refine ⟨x0.toNat, x1.toNat, x2.toNat, x3.toNat, ?_, by omega, by omega, by omega, by omega⟩
  rw [hq, Int.toNat_of_nonneg (by omega), Int.toNat_of_nonneg (by omega), Int.toNat_of_nonneg (by omega), Int.toNat_of_nonneg (by omega)]

set_option maxHeartbeats 2000000 in
set_option maxRecDepth 100000 in
theorem iform_row (b len cap : Nat) (v : Value) (cs ls : List (Int × Int × Int × Int)) (hl : ls.length = len) (hvf : vldF cs ls = true) (hfc : FitsC cs) (hfl : FitsL ls) (hx : cs.length ≤ 1048576) (w : World) (hv : ReadsC w v cs) (hc : CellsL w b ls) (ht : PowTab w) :
    Calls Tryd.prog 96 #[v, .slice (some ⟨b, 0, none⟩) len cap] w fun e w' => e = .returned (.string (str (formK ls len))) ∧ Below w.heap.size w w' := by
  obtain ⟨hvc, h10, hok⟩ := vldF_spec hvf
  have h8 := (vldC_spec hvc).1.2
  have HV := Lib.hid hvf
  have HU : Hid (ReadsL w (.slice (some ⟨b, 0, none⟩) len cap) ls) := Lib.hid ⟨_, cap, by rw [hl], fun _ => ⟨b, rfl, hc⟩⟩
  have HL := Lib.hid hl
  have HI := Lib.hid hfl
  have HO := Lib.hid hok
  have HPT := Lib.hid ht
  rw [hl] at h10
  clear hl hvf hvc hok hfl ht
  go_enter Tryd.func96, Tryd.ntmps96
  go_wp2_with fail
  refine (ivldF_any _ _ cs ls _ hv HU.out hfc HI.out hx (by rw [HL.out]; omega)).mono ?_
  rintro e w1 ⟨rfl, b1⟩
  rw [HV.out]
  have HC : Hid (CellsL w1 b ls) := Lib.hid (hc.below b1)
  have HB1 := Lib.hid b1
  have hs1 : w.heap.size ≤ w1.heap.size := b1.size
  clear b1 hc
  go_wp2_with fail
  go_loopw [5, 14] (fun t i wr => ∃ k : Nat, k ≤ len ∧ i = .int .i64 k ∧ t = .string (str (formK ls k)) ∧ Below w1.heap.size w1 wr) (fun _ i _ => len - (intOf i).toNat)
  case atStart => exact ⟨0, Nat.zero_le _, rfl, rfl, Below.refl _ _⟩
  case round =>
    obtain ⟨k, hk, rfl, rfl, hnx⟩ := hrel
    have HN := Lib.hid hnx
    have hwr1 : w1.heap.size ≤ wr.heap.size := hnx.size
    have HB : Hid (Below w.heap.size w wr) := Lib.hid (HB1.out.trans (hnx.mono hs1))
    by_cases hlt : k < len
    · obtain ⟨c0, c1, c2, c3⟩ := HC.out.below hnx k (by have := HL.out; omega)
      obtain ⟨n0, n1, n2, n3, hq, h0, h1, h2, h3⟩ := line_nats HO.out (k := k) (by have := HL.out; omega) h8
      rw [hq] at c0 c1 c2 c3
      simp only at c0 c1 c2 c3
      have hlen := formK_len (fun i hi => HO.out i (by have := HL.out; omega) : OkLTo cs.length ls k) h8
      have hlt2 := lineN_len h0 h1 h2 h3
      have HS : Hid (formK ls (k + 1) = formK ls k ++ lineT ((n0 : Int), (n1 : Int), (n2 : Int), (n3 : Int))) := Lib.hid (by rw [formK, hq])
      obtain ⟨t, htq⟩ : ∃ t, formK ls k = t := ⟨_, rfl⟩
      rw [htq] at HS hlen ⊢
      obtain ⟨s, hsq⟩ : ∃ s, t ++ lineT ((n0 : Int), (n1 : Int), (n2 : Int), (n3 : Int)) = s := ⟨_, rfl⟩
      rw [hsq] at HS
      have hadd : ∀ W, (Op.stringOp .add (str t) (str (lineT ((n0 : Int), (n1 : Int), (n2 : Int), (n3 : Int))))).run Tryd.prog W = .ok (.string (str s)) W := fun W => by
        rw [add_str _ _ W (by omega), hsq]
      have HLN : Hid (∀ W, Below w.heap.size w W → Calls Tryd.prog 133 #[.agg #[.int .i8 (n0 : Int), .int .i16 (n1 : Int), .int .i32 (n2 : Int), .int .i32 (n3 : Int)]] W fun e w' => e = .returned (.string (str (lineT ((n0 : Int), (n1 : Int), (n2 : Int), (n3 : Int))))) ∧ Below W.heap.size W w') := Lib.hid (fun W hb => iline_any n0 n1 n2 n3 h0 h1 h2 h3 W (HPT.out.below hb))
      have hkl : (k : Int) < (len : Int) := by omega
      clear hq hnx htq hsq h0 h1 h2 h3
      go_wp2_with fail
      refine (HLN.out _ (HB.out.alloc HB.out.size _)).mono ?_
      rintro e w3 ⟨rfl, b3⟩
      have HN3 : Hid (Below w1.heap.size w1 w3) := Lib.hid ((HN.out.alloc hwr1 _).trans (b3.mono (by simp; omega)))
      clear b3
      go_wp2_with fail
      go_roundw
      case rel => exact ⟨k + 1, by omega, by go_num, by rw [HS.out], HN3.out⟩
      case measure => simp [intOf]; omega
    · have hk' : k = len := by omega
      have HE : Hid (formK ls k = formK ls len) := Lib.hid (by rw [hk'])
      clear hk' hnx
      go_wp2_with fail
      go_ret
      exact ⟨by rw [← HE.out]; rfl, HB.out⟩
theorem iform_any (v u : Value) (cs ls : List (Int × Int × Int × Int)) (w : World) (hv : ReadsC w v cs) (hu : ReadsL w u ls) (hfc : FitsC cs) (hfl : FitsL ls) (hx : cs.length ≤ 1048576) (hy : ls.length ≤ 1048576) (ht : PowTab w) :
    Calls Tryd.prog 96 #[v, u] w fun e w' => e = .returned (.string (str (formT cs ls))) ∧ Below w.heap.size w w' := by
  cases hvf : vldF cs ls
  · rw [formT_no hvf]
    have HV := Lib.hid hvf
    clear hvf
    go_enter Tryd.func96, Tryd.ntmps96
    go_wp2_with fail
    refine (ivldF_any _ _ cs ls _ hv hu hfc hfl hx hy).mono ?_
    rintro e w1 ⟨rfl, b1⟩
    rw [HV.out]
    go_wp2_with fail
    go_ret
    exact ⟨rfl, b1⟩
  · rw [formT_ok hvf]
    obtain ⟨a, cap, rfl, h⟩ := hu
    by_cases h0 : ls = []
    · subst h0
      have HV := Lib.hid hvf
      have hu : ReadsL w (.slice a 0 cap) [] := ⟨a, cap, rfl, fun h => absurd rfl h⟩
      clear hvf h
      go_enter Tryd.func96, Tryd.ntmps96
      go_wp2_with fail
      refine (ivldF_any _ _ cs [] _ hv hu hfc hfl hx hy).mono ?_
      rintro e w1 ⟨rfl, b1⟩
      rw [HV.out]
      go_wp2_with fail
      refine wp_loop_rounds 1 ?_
      rw [rounds_succ]
      go_wp2_with fail
      go_ret
      exact ⟨rfl, b1⟩
    · obtain ⟨b, rfl, hcl⟩ := h h0
      exact iform_row b ls.length cap v cs ls rfl hvf hfc hfl hx w hv hcl ht

end Go.Proofs.YtbclmafplaipaaaDoor
