/-
  The model's text of a net.
-/
import Derived.Test.YtfngcaoknahonaaDoorNxP
import Derived.Test.YtfngcaoknahonaaDoorDecS
import Derived.Test.YtfngcaoknahonaaDoorNtW
namespace Go.Proofs.YtfngcaoknahonaaDoor
open Go Go.RowKit
set_option linter.unusedVariables false

set_option maxHeartbeats 4000000 in
set_option maxRecDepth 100000 in
theorem sntext_any (B : Nat) (st sy : Int) (v : Value) (ps : List Lan) (w : World) (hok : okNet st sy ps) (hv : ReadsLa w v ps) (hb : BlkA w B 31 (netB st sy v)) :
    Calls Tryd.prog 29 #[.pointer (some ⟨B, 0, none⟩)] w fun e w' => e = .returned (.string (str (ntK st sy ps ps.length))) ∧ Below w.heap.size w w' := by
  obtain ⟨a, cap, rfl, ha⟩ := hv
  have HA := Lib.hid ha
  have HOK := Lib.hid hok
  have h20 := hok.2.2.1
  obtain ⟨len, hlen⟩ : ∃ m, ps.length = m := ⟨_, rfl⟩
  have HL := Lib.hid hlen
  rw [hlen] at hb h20 ⊢
  have HBX := Lib.hid hb
  obtain ⟨n0, hn0⟩ : ∃ n : Nat, st = (n : Int) := ⟨st.toNat, by have := hok.1; omega⟩
  obtain ⟨n1, hn1⟩ : ∃ n : Nat, sy = (n : Int) := ⟨sy.toNat, by have := hok.2.1; omega⟩
  have hs0 : n0 ≤ 8 := by have := hok.1; omega
  have hs1 : n1 ≤ 40 := by have := hok.2.1; omega
  subst hn0 hn1
  clear ha hok hlen
  obtain ⟨z1, hz1⟩ : ∃ s, dec n0 ++ [32] = s := ⟨_, rfl⟩
  have lz1 : z1.length ≤ 200 := by have e := congrArg List.length hz1; simp only [List.length_append, List.length_cons, List.length_nil] at e; have := dec_len n0; have := dec_len n1; omega
  have az1 : ∀ W, (Op.stringOp .add (str (dec n0)) ⟨#[32]⟩).run Tryd.prog W = .ok (.string (str z1)) W := fun W => by have h := add_str (P := Tryd.prog) (dec n0) ([32]) W (by have := dec_len n0; have := dec_len n1; first | (simp only [List.length_cons, List.length_nil]; omega) | omega); rw [hz1] at h; exact h
  obtain ⟨z2, hz2⟩ : ∃ s, z1 ++ dec n1 = s := ⟨_, rfl⟩
  have lz2 : z2.length ≤ 300 := by have e := congrArg List.length hz2; simp only [List.length_append] at e; have := dec_len n0; have := dec_len n1; omega
  have az2 : ∀ W, (Op.stringOp .add (str (z1)) (str (dec n1))).run Tryd.prog W = .ok (.string (str z2)) W := fun W => by have h := add_str (P := Tryd.prog) (z1) (dec n1) W (by have := dec_len n0; have := dec_len n1; first | (simp only [List.length_cons, List.length_nil]; omega) | omega); rw [hz2] at h; exact h
  obtain ⟨z3, hz3⟩ : ∃ s, z2 ++ [10] = s := ⟨_, rfl⟩
  have lz3 : z3.length ≤ 400 := by have e := congrArg List.length hz3; simp only [List.length_append, List.length_cons, List.length_nil] at e; have := dec_len n0; have := dec_len n1; omega
  have az3 : ∀ W, (Op.stringOp .add (str (z2)) ⟨#[10]⟩).run Tryd.prog W = .ok (.string (str z3)) W := fun W => by have h := add_str (P := Tryd.prog) (z2) ([10]) W (by have := dec_len n0; have := dec_len n1; first | (simp only [List.length_cons, List.length_nil]; omega) | omega); rw [hz3] at h; exact h
  have HZ : Hid (z3 = ntK (n0 : Int) (n1 : Int) ps 0) := Lib.hid (by rw [← hz3, ← hz2, ← hz1]; rfl)
  clear hz1 hz2 hz3
  have HN0 : Hid (∀ W, Calls Tryd.prog 52 #[.int .i64 (IntKind.i64.wrap (n0 : Int))] W fun e w' => e = .returned (.string (str (dec n0))) ∧ Below W.heap.size W w') := Lib.hid (fun W => by rw [IntWalk.i64_in (n0 : Int) (by omega)]; exact sdec_any n0 (by omega) W)
  have HN1 : Hid (∀ W, Calls Tryd.prog 52 #[.int .i64 (IntKind.i64.wrap (n1 : Int))] W fun e w' => e = .returned (.string (str (dec n1))) ∧ Below W.heap.size W w') := Lib.hid (fun W => by rw [IntWalk.i64_in (n1 : Int) (by omega)]; exact sdec_any n1 (by omega) W)
  have C0 := hb.drew
  have K0 : Below w.heap.size w w.drew := (Below.refl _ _).drew
  have SD : w.drew.cell? ⟨B, 0, none⟩ = some (.int .i8 (n0 : Int)) ∧ w.drew.cell? ⟨B, 1, none⟩ = some (.int .i16 (n1 : Int)) ∧ w.drew.cell? ⟨B, 2, none⟩ = some (.slice a len cap) := ⟨C0.at 0, C0.at 1, C0.at 2⟩
  clear hb
  go_enter Tryd.func29, Tryd.ntmps29
  go_wp2_with fail
  go_region_held3 (fun u => u.cell? ⟨B, 0, none⟩ = some (.int .i8 (n0 : Int)) ∧ u.cell? ⟨B, 1, none⟩ = some (.int .i16 (n1 : Int)) ∧ u.cell? ⟨B, 2, none⟩ = some (.slice a len cap)) (first | (with_reducible exact SD) | (with_reducible exact zS2) | (with_reducible exact zS1)) (first | (go_at_call 52; (with_reducible refine (HN0.out _).mono ?_); rintro e v1 ⟨rfl, d1⟩; have C1 := C0.below d1; have zS1 : v1.cell? ⟨B, 0, none⟩ = some (.int .i8 (n0 : Int)) ∧ v1.cell? ⟨B, 1, none⟩ = some (.int .i16 (n1 : Int)) ∧ v1.cell? ⟨B, 2, none⟩ = some (.slice a len cap) := ⟨C1.at 0, C1.at 1, C1.at 2⟩; have K1 := blink K0 d1) | (go_at_call 52; (with_reducible refine (HN1.out _).mono ?_); rintro e v2 ⟨rfl, d2⟩; have C2 := C1.below d2; have zS2 : v2.cell? ⟨B, 0, none⟩ = some (.int .i8 (n0 : Int)) ∧ v2.cell? ⟨B, 1, none⟩ = some (.int .i16 (n1 : Int)) ∧ v2.cell? ⟨B, 2, none⟩ = some (.slice a len cap) := ⟨C2.at 0, C2.at 1, C2.at 2⟩; have K2 := blink K1 d2))
  have HC2 := Lib.hid C2
  have HK2 := Lib.hid K2
  have hsz : w.heap.size ≤ v2.heap.size := K2.size
  clear zS1 zS2 SD C0 C1 C2 K0 K1 K2 d1 d2 HN0 HN1
  go_wp2_with fail
  rw [HZ.out]
  go_loopw [3, 4] (fun t i wr => ∃ k : Nat, k ≤ len ∧ i = .int .i64 k ∧ t = .string (str (ntK (n0 : Int) (n1 : Int) ps k)) ∧ Below v2.heap.size v2 wr) (fun _ i _ => len - (intOf i).toNat)
  case atStart => exact ⟨0, Nat.zero_le _, rfl, rfl, Below.refl _ _⟩
  case round =>
    obtain ⟨k, hk, rfl, rfl, hnx⟩ := hrel
    have HB0 := Lib.hid hnx
    have HB := Lib.hid (blink HK2.out hnx)
    have hwr : v2.heap.size ≤ wr.heap.size := hnx.size
    have bx := HC2.out.below hnx
    have x2 : wr.cell? ⟨B, 2, none⟩ = some (.slice a len cap) := bx.at 2
    have hBw : B < wr.heap.size := bx.lt
    clear bx
    by_cases hlt : k < len
    · obtain ⟨b, rfl, hc⟩ := HA.out (by intro e; have := HL.out; rw [e] at this; simp at this; omega)
      obtain ⟨c0, c1, c2, c3⟩ := (hc.below HB.out) k (by rw [HL.out]; exact hlt)
      obtain ⟨n2, n3, n4, n5, hq, g0, g1, g2, g3⟩ := lane_nats HOK.out (k := k) (by rw [HL.out]; exact hlt)
      rw [hq] at c0 c1 c2 c3
      simp only at c0 c1 c2 c3
      have hlen := ntK_len HOK.out (k := k) (by rw [HL.out]; omega)
      have HS : Hid (ntK (n0 : Int) (n1 : Int) ps (k + 1) = ntK (n0 : Int) (n1 : Int) ps k ++ lnT ((n2 : Int), (n3 : Int), (n4 : Int), (n5 : Int))) := Lib.hid (by rw [ntK, hq])
      obtain ⟨t, htq⟩ : ∃ t, ntK (n0 : Int) (n1 : Int) ps k = t := ⟨_, rfl⟩
      rw [htq] at HS hlen ⊢
      obtain ⟨p1, hp1⟩ : ∃ s, dec n2 ++ [45] = s := ⟨_, rfl⟩
      have lp1 : p1.length ≤ 200 := by have e := congrArg List.length hp1; simp only [List.length_append, List.length_cons, List.length_nil] at e; have := dec_len n2; have := dec_len n3; have := dec_len n4; have := dec_len n5; omega
      have ap1 : ∀ W, (Op.stringOp .add (str (dec n2)) ⟨#[45]⟩).run Tryd.prog W = .ok (.string (str p1)) W := fun W => by have h := add_str (P := Tryd.prog) (dec n2) ([45]) W (by have := dec_len n2; have := dec_len n3; have := dec_len n4; have := dec_len n5; first | (simp only [List.length_cons, List.length_nil]; omega) | omega); rw [hp1] at h; exact h
      obtain ⟨p2, hp2⟩ : ∃ s, p1 ++ dec n3 = s := ⟨_, rfl⟩
      have lp2 : p2.length ≤ 300 := by have e := congrArg List.length hp2; simp only [List.length_append] at e; have := dec_len n2; have := dec_len n3; have := dec_len n4; have := dec_len n5; omega
      have ap2 : ∀ W, (Op.stringOp .add (str (p1)) (str (dec n3))).run Tryd.prog W = .ok (.string (str p2)) W := fun W => by have h := add_str (P := Tryd.prog) (p1) (dec n3) W (by have := dec_len n2; have := dec_len n3; have := dec_len n4; have := dec_len n5; first | (simp only [List.length_cons, List.length_nil]; omega) | omega); rw [hp2] at h; exact h
      obtain ⟨p3, hp3⟩ : ∃ s, p2 ++ [32] = s := ⟨_, rfl⟩
      have lp3 : p3.length ≤ 400 := by have e := congrArg List.length hp3; simp only [List.length_append, List.length_cons, List.length_nil] at e; have := dec_len n2; have := dec_len n3; have := dec_len n4; have := dec_len n5; omega
      have ap3 : ∀ W, (Op.stringOp .add (str (p2)) ⟨#[32]⟩).run Tryd.prog W = .ok (.string (str p3)) W := fun W => by have h := add_str (P := Tryd.prog) (p2) ([32]) W (by have := dec_len n2; have := dec_len n3; have := dec_len n4; have := dec_len n5; first | (simp only [List.length_cons, List.length_nil]; omega) | omega); rw [hp3] at h; exact h
      obtain ⟨p4, hp4⟩ : ∃ s, p3 ++ dec n4 = s := ⟨_, rfl⟩
      have lp4 : p4.length ≤ 500 := by have e := congrArg List.length hp4; simp only [List.length_append] at e; have := dec_len n2; have := dec_len n3; have := dec_len n4; have := dec_len n5; omega
      have ap4 : ∀ W, (Op.stringOp .add (str (p3)) (str (dec n4))).run Tryd.prog W = .ok (.string (str p4)) W := fun W => by have h := add_str (P := Tryd.prog) (p3) (dec n4) W (by have := dec_len n2; have := dec_len n3; have := dec_len n4; have := dec_len n5; first | (simp only [List.length_cons, List.length_nil]; omega) | omega); rw [hp4] at h; exact h
      obtain ⟨p5, hp5⟩ : ∃ s, p4 ++ [45] = s := ⟨_, rfl⟩
      have lp5 : p5.length ≤ 600 := by have e := congrArg List.length hp5; simp only [List.length_append, List.length_cons, List.length_nil] at e; have := dec_len n2; have := dec_len n3; have := dec_len n4; have := dec_len n5; omega
      have ap5 : ∀ W, (Op.stringOp .add (str (p4)) ⟨#[45]⟩).run Tryd.prog W = .ok (.string (str p5)) W := fun W => by have h := add_str (P := Tryd.prog) (p4) ([45]) W (by have := dec_len n2; have := dec_len n3; have := dec_len n4; have := dec_len n5; first | (simp only [List.length_cons, List.length_nil]; omega) | omega); rw [hp5] at h; exact h
      obtain ⟨p6, hp6⟩ : ∃ s, p5 ++ dec n5 = s := ⟨_, rfl⟩
      have lp6 : p6.length ≤ 700 := by have e := congrArg List.length hp6; simp only [List.length_append] at e; have := dec_len n2; have := dec_len n3; have := dec_len n4; have := dec_len n5; omega
      have ap6 : ∀ W, (Op.stringOp .add (str (p5)) (str (dec n5))).run Tryd.prog W = .ok (.string (str p6)) W := fun W => by have h := add_str (P := Tryd.prog) (p5) (dec n5) W (by have := dec_len n2; have := dec_len n3; have := dec_len n4; have := dec_len n5; first | (simp only [List.length_cons, List.length_nil]; omega) | omega); rw [hp6] at h; exact h
      obtain ⟨p7, hp7⟩ : ∃ s, p6 ++ [10] = s := ⟨_, rfl⟩
      have lp7 : p7.length ≤ 800 := by have e := congrArg List.length hp7; simp only [List.length_append, List.length_cons, List.length_nil] at e; have := dec_len n2; have := dec_len n3; have := dec_len n4; have := dec_len n5; omega
      have ap7 : ∀ W, (Op.stringOp .add (str (p6)) ⟨#[10]⟩).run Tryd.prog W = .ok (.string (str p7)) W := fun W => by have h := add_str (P := Tryd.prog) (p6) ([10]) W (by have := dec_len n2; have := dec_len n3; have := dec_len n4; have := dec_len n5; first | (simp only [List.length_cons, List.length_nil]; omega) | omega); rw [hp7] at h; exact h
      have HLT : Hid (p7 = lnT ((n2 : Int), (n3 : Int), (n4 : Int), (n5 : Int))) := Lib.hid (by rw [← hp7, ← hp6, ← hp5, ← hp4, ← hp3, ← hp2, ← hp1]; simp only [lnT, Int.toNat_natCast, List.append_assoc])
      clear hp1 hp2 hp3 hp4 hp5 hp6 hp7
      have HN0 : Hid (∀ W, Calls Tryd.prog 52 #[.int .i64 (IntKind.i64.wrap (n2 : Int))] W fun e w' => e = .returned (.string (str (dec n2))) ∧ Below W.heap.size W w') := Lib.hid (fun W => by rw [IntWalk.i64_in (n2 : Int) (by omega)]; exact sdec_any n2 (by omega) W)
      have HN1 : Hid (∀ W, Calls Tryd.prog 52 #[.int .i64 (IntKind.i64.wrap (n3 : Int))] W fun e w' => e = .returned (.string (str (dec n3))) ∧ Below W.heap.size W w') := Lib.hid (fun W => by rw [IntWalk.i64_in (n3 : Int) (by omega)]; exact sdec_any n3 (by omega) W)
      have HN2 : Hid (∀ W, Calls Tryd.prog 52 #[.int .i64 (IntKind.i64.wrap (n4 : Int))] W fun e w' => e = .returned (.string (str (dec n4))) ∧ Below W.heap.size W w') := Lib.hid (fun W => by rw [IntWalk.i64_in (n4 : Int) (by omega)]; exact sdec_any n4 (by omega) W)
      have HN3 : Hid (∀ W, Calls Tryd.prog 52 #[.int .i64 (IntKind.i64.wrap (n5 : Int))] W fun e w' => e = .returned (.string (str (dec n5))) ∧ Below W.heap.size W w') := Lib.hid (fun W => by rw [IntWalk.i64_in (n5 : Int) (by omega)]; exact sdec_any n5 (by omega) W)
      obtain ⟨s, hsq⟩ : ∃ s, t ++ p7 = s := ⟨_, rfl⟩
      have a8 : ∀ W, (Op.stringOp .add (str t) (str p7)).run Tryd.prog W = .ok (.string (str s)) W := fun W => by rw [add_str _ _ W (by omega), hsq]
      have HSS : Hid (ntK (n0 : Int) (n1 : Int) ps (k + 1) = s) := Lib.hid (by rw [HS.out, ← HLT.out, hsq])
      have hkl : (k : Int) < (len : Int) := by omega
      have hkn : (0 : Int) ≤ (k : Int) := by omega
      obtain ⟨W1, hW1⟩ : ∃ W, wr.alloc (.cells #[.int .i8 (n2 : Int), .int .i8 (n3 : Int), .int .i16 (n4 : Int), .int .i16 (n5 : Int)] 64) = W := ⟨_, rfl⟩
      have C0 : BlkA W1.drew wr.heap.size 64 #[.int .i8 (n2 : Int), .int .i8 (n3 : Int), .int .i16 (n4 : Int), .int .i16 (n5 : Int)] := by rw [← hW1]; exact (BlkA.new rfl _ _).drew
      have K0 : Below wr.heap.size wr W1.drew := by rw [← hW1]; exact ((Below.refl _ _).alloc (Nat.le_refl _) _).drew
      have HW1 := Lib.hid hW1
      have SD : W1.drew.cell? ⟨wr.heap.size, 0, none⟩ = some (.int .i8 (n2 : Int)) ∧ W1.drew.cell? ⟨wr.heap.size, 1, none⟩ = some (.int .i8 (n3 : Int)) ∧ W1.drew.cell? ⟨wr.heap.size, 2, none⟩ = some (.int .i16 (n4 : Int)) ∧ W1.drew.cell? ⟨wr.heap.size, 3, none⟩ = some (.int .i16 (n5 : Int)) := ⟨C0.at 0, C0.at 1, C0.at 2, C0.at 3⟩
      clear hq hnx htq hsq hW1 hc
      go_wp2_with fail
      rw [HW1.out]
      clear c0 c1 c2 c3
      go_region_held3 (fun u => u.cell? ⟨wr.heap.size, 0, none⟩ = some (.int .i8 (n2 : Int)) ∧ u.cell? ⟨wr.heap.size, 1, none⟩ = some (.int .i8 (n3 : Int)) ∧ u.cell? ⟨wr.heap.size, 2, none⟩ = some (.int .i16 (n4 : Int)) ∧ u.cell? ⟨wr.heap.size, 3, none⟩ = some (.int .i16 (n5 : Int))) (first | (with_reducible exact SD) | (with_reducible exact zS4) | (with_reducible exact zS3) | (with_reducible exact zS2) | (with_reducible exact zS1)) (first | (go_at_call 52; (with_reducible refine (HN0.out _).mono ?_); rintro e v3 ⟨rfl, d1⟩; have C1 := C0.below d1; have zS1 : v3.cell? ⟨wr.heap.size, 0, none⟩ = some (.int .i8 (n2 : Int)) ∧ v3.cell? ⟨wr.heap.size, 1, none⟩ = some (.int .i8 (n3 : Int)) ∧ v3.cell? ⟨wr.heap.size, 2, none⟩ = some (.int .i16 (n4 : Int)) ∧ v3.cell? ⟨wr.heap.size, 3, none⟩ = some (.int .i16 (n5 : Int)) := ⟨C1.at 0, C1.at 1, C1.at 2, C1.at 3⟩; have K1 := blink K0 d1) | (go_at_call 52; (with_reducible refine (HN1.out _).mono ?_); rintro e v4 ⟨rfl, d2⟩; have C2 := C1.below d2; have zS2 : v4.cell? ⟨wr.heap.size, 0, none⟩ = some (.int .i8 (n2 : Int)) ∧ v4.cell? ⟨wr.heap.size, 1, none⟩ = some (.int .i8 (n3 : Int)) ∧ v4.cell? ⟨wr.heap.size, 2, none⟩ = some (.int .i16 (n4 : Int)) ∧ v4.cell? ⟨wr.heap.size, 3, none⟩ = some (.int .i16 (n5 : Int)) := ⟨C2.at 0, C2.at 1, C2.at 2, C2.at 3⟩; have K2 := blink K1 d2) | (go_at_call 52; (with_reducible refine (HN2.out _).mono ?_); rintro e v5 ⟨rfl, d3⟩; have C3 := C2.below d3; have zS3 : v5.cell? ⟨wr.heap.size, 0, none⟩ = some (.int .i8 (n2 : Int)) ∧ v5.cell? ⟨wr.heap.size, 1, none⟩ = some (.int .i8 (n3 : Int)) ∧ v5.cell? ⟨wr.heap.size, 2, none⟩ = some (.int .i16 (n4 : Int)) ∧ v5.cell? ⟨wr.heap.size, 3, none⟩ = some (.int .i16 (n5 : Int)) := ⟨C3.at 0, C3.at 1, C3.at 2, C3.at 3⟩; have K3 := blink K2 d3) | (go_at_call 52; (with_reducible refine (HN3.out _).mono ?_); rintro e v6 ⟨rfl, d4⟩; have C4 := C3.below d4; have zS4 : v6.cell? ⟨wr.heap.size, 0, none⟩ = some (.int .i8 (n2 : Int)) ∧ v6.cell? ⟨wr.heap.size, 1, none⟩ = some (.int .i8 (n3 : Int)) ∧ v6.cell? ⟨wr.heap.size, 2, none⟩ = some (.int .i16 (n4 : Int)) ∧ v6.cell? ⟨wr.heap.size, 3, none⟩ = some (.int .i16 (n5 : Int)) := ⟨C4.at 0, C4.at 1, C4.at 2, C4.at 3⟩; have K4 := blink K3 d4))
      clear zS1 zS2 zS3 zS4 SD
      have HB4 : Hid (Below v2.heap.size v2 v6) := Lib.hid (HB0.out.trans (K4.mono hwr))
      go_wp2_with fail
      go_roundw
      case rel => exact ⟨k + 1, by omega, by go_num, by rw [HSS.out], HB4.out⟩
      case measure => simp [intOf]; omega
    · have hk' : k = len := by omega
      have HE : Hid (ntK (n0 : Int) (n1 : Int) ps k = ntK (n0 : Int) (n1 : Int) ps len) := Lib.hid (by rw [hk'])
      clear hk' hnx
      go_wp2_with fail
      go_ret
      exact ⟨by rw [← HE.out]; rfl, HB.out⟩
set_option maxHeartbeats 1000000 in
theorem snt_any (st sy : Int) (v : Value) (ps : List Lan) (w : World) (hn : FitN st sy ps) (hv : ReadsLa w v ps) :
    Calls Tryd.prog 8 #[netV st sy v] w fun e w' => e = .returned (.string (str (netT st sy ps))) ∧ Below w.heap.size w w' := by
  have HV := Lib.hid (hv.below ((Below.refl w.heap.size w).alloc (Nat.le_refl _) (.cells (netB st sy v) 31)))
  have HBX : Hid (BlkA (w.alloc (.cells (netB st sy v) 31)) w.heap.size 31 (netB st sy v)) := Lib.hid (BlkA.new rfl _ _)
  have HB : Hid (Below w.heap.size w (w.alloc (.cells (netB st sy v) 31))) := Lib.hid ((Below.refl _ _).alloc (Nat.le_refl _) _)
  clear hv
  cases hvf : vldN st sy ps
  · rw [netT_no hvf]
    have HVF := Lib.hid hvf
    clear hvf
    go_enter Tryd.func8, Tryd.ntmps8
    go_wp2_with fail
    refine (sok_any w.heap.size st sy v ps _ hn HV.out HBX.out).mono ?_
    rintro e w1 ⟨rfl, b1⟩
    rw [HVF.out]
    go_wp2_with fail
    go_ret
    exact ⟨rfl, blink HB.out b1⟩
  · rw [netT_ok hvf]
    have HOK := Lib.hid (vldN_spec hvf)
    have HVF := Lib.hid hvf
    clear hvf
    go_enter Tryd.func8, Tryd.ntmps8
    go_wp2_with fail
    refine (sok_any w.heap.size st sy v ps _ hn HV.out HBX.out).mono ?_
    rintro e w1 ⟨rfl, b1⟩
    rw [HVF.out]
    go_wp2_with fail
    refine (sntext_any w.heap.size st sy v ps _ HOK.out (HV.out.below b1) (HBX.out.below b1)).mono ?_
    rintro e w2 ⟨rfl, b2⟩
    go_wp2_with fail
    go_ret
    exact ⟨rfl, blink (blink HB.out b1) b2⟩
end Go.Proofs.YtfngcaoknahonaaDoor
