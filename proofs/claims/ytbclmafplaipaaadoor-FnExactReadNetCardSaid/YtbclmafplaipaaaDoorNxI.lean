/-
  The program's text of a net.
-/
import Derived.Test.YtbclmafplaipaaaDoorNxP
import Derived.Test.YtbclmafplaipaaaDoorFmt
import Derived.Test.YtbclmafplaipaaaDoorNtW
namespace Go.Proofs.YtbclmafplaipaaaDoor
open Go Go.RowKit
set_option linter.unusedVariables false

set_option maxHeartbeats 4000000 in
set_option maxRecDepth 100000 in
theorem int_any (st sy : Int) (v : Value) (ps : List Lan) (w : World) (hn : FitN st sy ps) (hv : ReadsLa w v ps) (ht : PowTab w) :
    Calls Tryd.prog 111 #[netV st sy v] w fun e w' => e = .returned (.string (str (netT st sy ps))) ∧ Below w.heap.size w w' := by
  have HV := Lib.hid (hv.below ((Below.refl w.heap.size w).alloc (Nat.le_refl _) (.cells (netB st sy v) 72)))
  have HBX : Hid (BlkA (w.alloc (.cells (netB st sy v) 72)) w.heap.size 72 (netB st sy v)) := Lib.hid (BlkA.new rfl _ _)
  have HB0 : Hid (Below w.heap.size w (w.alloc (.cells (netB st sy v) 72))) := Lib.hid ((Below.refl _ _).alloc (Nat.le_refl _) _)
  have HPT := Lib.hid ht
  have HV0 := Lib.hid hv
  clear hv ht
  cases hvf : vldN st sy ps
  · rw [netT_no hvf]
    have HVF := Lib.hid hvf
    clear hvf
    go_enter Tryd.func111, Tryd.ntmps111
    go_wp2_with fail
    refine (ivldN_any st sy v ps _ hn HV.out).mono ?_
    rintro e w1 ⟨rfl, b1⟩
    rw [HVF.out]
    go_wp2_with fail
    go_ret
    exact ⟨rfl, blink HB0.out b1⟩
  rw [netT_ok hvf]
  have hok := vldN_spec hvf
  have HOK := Lib.hid hok
  have HVF := Lib.hid hvf
  have HN := Lib.hid hn
  obtain ⟨a, cap, rfl, ha⟩ := HV0.out
  have HA := Lib.hid ha
  have h20 := hok.2.2.1
  obtain ⟨len, hlen⟩ : ∃ m, ps.length = m := ⟨_, rfl⟩
  have HL := Lib.hid hlen
  rw [hlen] at h20 ⊢
  rw [hlen] at HV HBX HB0
  obtain ⟨n0, hn0⟩ : ∃ n : Nat, st = (n : Int) := ⟨st.toNat, by have := hok.1; omega⟩
  obtain ⟨n1, hn1⟩ : ∃ n : Nat, sy = (n : Int) := ⟨sy.toNat, by have := hok.2.1; omega⟩
  have hs0 : n0 ≤ 8 := by have := hok.1; omega
  have hs1 : n1 ≤ 40 := by have := hok.2.1; omega
  subst hn0 hn1
  clear ha hok hlen hvf hn HV0
  obtain ⟨z2, hz2⟩ : ∃ s, (dec n0 ++ [32]) ++ dec n1 = s := ⟨_, rfl⟩
  have lz2 : z2.length ≤ 300 := by have e := congrArg List.length hz2; simp only [List.length_append, List.length_cons, List.length_nil] at e; have := dec_len n0; have := dec_len n1; omega
  obtain ⟨z3, hz3⟩ : ∃ s, z2 ++ [10] = s := ⟨_, rfl⟩
  have az3 : ∀ W, (Op.stringOp .add (str z2) ⟨#[10]⟩).run Tryd.prog W = .ok (.string (str z3)) W := fun W => by have h := add_str (P := Tryd.prog) z2 [10] W (by simp only [List.length_cons, List.length_nil]; omega); rw [hz3] at h; exact h
  have HZ : Hid (z3 = ntK (n0 : Int) (n1 : Int) ps 0) := Lib.hid (by rw [← hz3, ← hz2]; rfl)
  have HNZ : Hid (∀ W, Below w.heap.size w W → Calls Tryd.prog 117 #[.int .i64 (n0 : Int), .string ⟨#[32]⟩, .int .i64 (n1 : Int)] W fun e w' => e = .returned (.string (str z2)) ∧ Below W.heap.size W w') := Lib.hid (fun W hb => by rw [← hz2]; exact ipair_any n0 n1 32 (by omega) (by omega) W (HPT.out.below hb))
  clear hz2 hz3
  go_enter Tryd.func111, Tryd.ntmps111
  go_wp2_with fail
  refine (ivldN_any (n0 : Int) (n1 : Int) _ ps _ HN.out HV.out).mono ?_
  rintro e w1 ⟨rfl, b1⟩
  rw [HVF.out]
  have B1 := HBX.out.below b1
  have q0 : w1.cell? ⟨w.heap.size, 0, none⟩ = some (.int .i8 (n0 : Int)) := B1.at 0
  have q1 : w1.cell? ⟨w.heap.size, 1, none⟩ = some (.int .i16 (n1 : Int)) := B1.at 1
  have HB1 := Lib.hid (blink HB0.out b1)
  have HBX1 := Lib.hid B1
  clear B1 b1 HB0 HBX HV
  go_wp2_with fail
  refine (HNZ.out _ HB1.out).mono ?_
  rintro e v2 ⟨rfl, b2⟩
  have HK2 := Lib.hid (blink HB1.out b2)
  have HC2 := Lib.hid (HBX1.out.below b2)
  have q2 : v2.cell? ⟨w.heap.size, 2, none⟩ = some (.slice a len cap) := HC2.out.at 2
  clear q0 q1 b2 HB1 HBX1 HNZ
  go_wp2_with fail
  rw [HZ.out]
  clear q2
  go_loopw [3, 20] (fun t i wr => ∃ k : Nat, k ≤ len ∧ i = .int .i64 k ∧ t = .string (str (ntK (n0 : Int) (n1 : Int) ps k)) ∧ Below v2.heap.size v2 wr) (fun _ i _ => len - (intOf i).toNat)
  case atStart => exact ⟨0, Nat.zero_le _, rfl, rfl, Below.refl _ _⟩
  case round =>
    obtain ⟨k, hk, rfl, rfl, hnx⟩ := hrel
    have HB0 := Lib.hid hnx
    have HB := Lib.hid (blink HK2.out hnx)
    have hwr : v2.heap.size ≤ wr.heap.size := hnx.size
    have hww : w.heap.size ≤ wr.heap.size := HB.out.size
    by_cases hlt : k < len
    · obtain ⟨b, rfl, hc⟩ := HA.out (by intro e; have := HL.out; rw [e] at this; simp at this; omega)
      obtain ⟨c0, c1, c2, c3⟩ := (hc.below HB.out) k (by rw [HL.out]; exact hlt)
      obtain ⟨n2, n3, n4, n5, hq, g0, g1, g2, g3⟩ := lane_nats HOK.out (k := k) (by rw [HL.out]; exact hlt)
      rw [hq] at c0 c1 c2 c3
      simp only at c0 c1 c2 c3
      have hlen := ntK_len HOK.out (k := k) (by rw [HL.out]; omega)
      have HS : Hid (ntK (n0 : Int) (n1 : Int) ps (k + 1) = ntK (n0 : Int) (n1 : Int) ps k ++ lnT ((n2 : Int), (n3 : Int), (n4 : Int), (n5 : Int))) := Lib.hid (by rw [ntK, hq])
      obtain ⟨t, htq⟩ : ∃ t, ntK (n0 : Int) (n1 : Int) ps k = t := ⟨_, rfl⟩
      rw [htq] at HS hlen ⊢
      obtain ⟨e1, he1⟩ : ∃ s, (dec n2 ++ [45]) ++ dec n3 = s := ⟨_, rfl⟩
      have le1 : e1.length ≤ 300 := by have e := congrArg List.length he1; simp only [List.length_append, List.length_cons, List.length_nil] at e; have := dec_len n2; have := dec_len n3; omega
      obtain ⟨e2, he2⟩ : ∃ s, (dec n4 ++ [45]) ++ dec n5 = s := ⟨_, rfl⟩
      have le2 : e2.length ≤ 300 := by have e := congrArg List.length he2; simp only [List.length_append, List.length_cons, List.length_nil] at e; have := dec_len n4; have := dec_len n5; omega
      obtain ⟨p1, hp1⟩ : ∃ s, e1 ++ [32] = s := ⟨_, rfl⟩
      have lp1 : p1.length ≤ 400 := by have e := congrArg List.length hp1; simp only [List.length_append, List.length_cons, List.length_nil] at e; omega
      have ap1 : ∀ W, (Op.stringOp .add (str e1) ⟨#[32]⟩).run Tryd.prog W = .ok (.string (str p1)) W := fun W => by have h := add_str (P := Tryd.prog) e1 [32] W (by simp only [List.length_cons, List.length_nil]; omega); rw [hp1] at h; exact h
      obtain ⟨p2, hp2⟩ : ∃ s, p1 ++ e2 = s := ⟨_, rfl⟩
      have lp2 : p2.length ≤ 700 := by have e := congrArg List.length hp2; simp only [List.length_append] at e; omega
      have ap2 : ∀ W, (Op.stringOp .add (str p1) (str e2)).run Tryd.prog W = .ok (.string (str p2)) W := fun W => by have h := add_str (P := Tryd.prog) p1 e2 W (by omega); rw [hp2] at h; exact h
      obtain ⟨p3, hp3⟩ : ∃ s, p2 ++ [10] = s := ⟨_, rfl⟩
      have lp3 : p3.length ≤ 800 := by have e := congrArg List.length hp3; simp only [List.length_append, List.length_cons, List.length_nil] at e; omega
      have ap3 : ∀ W, (Op.stringOp .add (str p2) ⟨#[10]⟩).run Tryd.prog W = .ok (.string (str p3)) W := fun W => by have h := add_str (P := Tryd.prog) p2 [10] W (by simp only [List.length_cons, List.length_nil]; omega); rw [hp3] at h; exact h
      have HLT : Hid (p3 = lnT ((n2 : Int), (n3 : Int), (n4 : Int), (n5 : Int))) := Lib.hid (by rw [← hp3, ← hp2, ← hp1, ← he1, ← he2]; simp only [lnT, Int.toNat_natCast, List.append_assoc])
      have HNA : Hid (∀ W, Below w.heap.size w W → Calls Tryd.prog 117 #[.int .i64 (IntKind.i64.wrap (n2 : Int)), .string ⟨#[45]⟩, .int .i64 (IntKind.i64.wrap (n3 : Int))] W fun e w' => e = .returned (.string (str e1)) ∧ Below W.heap.size W w') := Lib.hid (fun W hb => by rw [← he1, IntWalk.i64_in (n2 : Int) (by omega), IntWalk.i64_in (n3 : Int) (by omega)]; exact ipair_any n2 n3 45 (by omega) (by omega) W (HPT.out.below hb))
      have HNB : Hid (∀ W, Below w.heap.size w W → Calls Tryd.prog 117 #[.int .i64 (IntKind.i64.wrap (n4 : Int)), .string ⟨#[45]⟩, .int .i64 (IntKind.i64.wrap (n5 : Int))] W fun e w' => e = .returned (.string (str e2)) ∧ Below W.heap.size W w') := Lib.hid (fun W hb => by rw [← he2, IntWalk.i64_in (n4 : Int) (by omega), IntWalk.i64_in (n5 : Int) (by omega)]; exact ipair_any n4 n5 45 (by omega) (by omega) W (HPT.out.below hb))
      clear hp1 hp2 hp3 he1 he2
      obtain ⟨s, hsq⟩ : ∃ s, t ++ p3 = s := ⟨_, rfl⟩
      have a8 : ∀ W, (Op.stringOp .add (str t) (str p3)).run Tryd.prog W = .ok (.string (str s)) W := fun W => by rw [add_str _ _ W (by omega), hsq]
      have HSS : Hid (ntK (n0 : Int) (n1 : Int) ps (k + 1) = s) := Lib.hid (by rw [HS.out, ← HLT.out, hsq])
      have hkl : (k : Int) < (len : Int) := by omega
      have hkn : (0 : Int) ≤ (k : Int) := by omega
      obtain ⟨W1, hW1⟩ : ∃ W, wr.alloc (.cells #[.int .i8 (n2 : Int), .int .i8 (n3 : Int), .int .i16 (n4 : Int), .int .i16 (n5 : Int)] 149) = W := ⟨_, rfl⟩
      have C0 : BlkA W1.drew wr.heap.size 149 #[.int .i8 (n2 : Int), .int .i8 (n3 : Int), .int .i16 (n4 : Int), .int .i16 (n5 : Int)] := by rw [← hW1]; exact (BlkA.new rfl _ _).drew
      have K0 : Below wr.heap.size wr W1.drew := by rw [← hW1]; exact ((Below.refl _ _).alloc (Nat.le_refl _) _).drew
      have HW1 := Lib.hid hW1
      have SD : W1.drew.cell? ⟨wr.heap.size, 0, none⟩ = some (.int .i8 (n2 : Int)) ∧ W1.drew.cell? ⟨wr.heap.size, 1, none⟩ = some (.int .i8 (n3 : Int)) ∧ W1.drew.cell? ⟨wr.heap.size, 2, none⟩ = some (.int .i16 (n4 : Int)) ∧ W1.drew.cell? ⟨wr.heap.size, 3, none⟩ = some (.int .i16 (n5 : Int)) := ⟨C0.at 0, C0.at 1, C0.at 2, C0.at 3⟩
      clear hq hnx htq hsq hW1 hc
      go_wp2_with fail
      rw [HW1.out]
      clear c0 c1 c2 c3
      go_region_held3 (fun u => u.cell? ⟨wr.heap.size, 0, none⟩ = some (.int .i8 (n2 : Int)) ∧ u.cell? ⟨wr.heap.size, 1, none⟩ = some (.int .i8 (n3 : Int)) ∧ u.cell? ⟨wr.heap.size, 2, none⟩ = some (.int .i16 (n4 : Int)) ∧ u.cell? ⟨wr.heap.size, 3, none⟩ = some (.int .i16 (n5 : Int))) (first | (with_reducible exact SD) | (with_reducible exact zS2) | (with_reducible exact zS1)) (first | (go_at_call 117; (with_reducible refine (HNA.out _ (HB.out.trans (K0.mono hww))).mono ?_); rintro e v3 ⟨rfl, d1⟩; have C1 := C0.below d1; have zS1 : v3.cell? ⟨wr.heap.size, 0, none⟩ = some (.int .i8 (n2 : Int)) ∧ v3.cell? ⟨wr.heap.size, 1, none⟩ = some (.int .i8 (n3 : Int)) ∧ v3.cell? ⟨wr.heap.size, 2, none⟩ = some (.int .i16 (n4 : Int)) ∧ v3.cell? ⟨wr.heap.size, 3, none⟩ = some (.int .i16 (n5 : Int)) := ⟨C1.at 0, C1.at 1, C1.at 2, C1.at 3⟩; have K1 := blink K0 d1) | (go_at_call 117; (with_reducible refine (HNB.out _ (HB.out.trans (K1.mono hww))).mono ?_); rintro e v4 ⟨rfl, d2⟩; have C2 := C1.below d2; have zS2 : v4.cell? ⟨wr.heap.size, 0, none⟩ = some (.int .i8 (n2 : Int)) ∧ v4.cell? ⟨wr.heap.size, 1, none⟩ = some (.int .i8 (n3 : Int)) ∧ v4.cell? ⟨wr.heap.size, 2, none⟩ = some (.int .i16 (n4 : Int)) ∧ v4.cell? ⟨wr.heap.size, 3, none⟩ = some (.int .i16 (n5 : Int)) := ⟨C2.at 0, C2.at 1, C2.at 2, C2.at 3⟩; have K2 := blink K1 d2))
      clear zS1 zS2 SD
      have HB4 : Hid (Below v2.heap.size v2 v4) := Lib.hid (HB0.out.trans (K2.mono hwr))
      go_wp2_with fail
      go_roundw
      case rel => exact ⟨k + 1, by omega, by go_num, by rw [HSS.out], HB4.out⟩
      case measure => simp [intOf]; omega
    · have hk' : k = len := by omega
      have HE : Hid (ntK (n0 : Int) (n1 : Int) ps k = ntK (n0 : Int) (n1 : Int) ps len) := Lib.hid (by rw [hk'])
      clear hk' hnx
      go_wp2_with fail
      go_ret
      exact ⟨by rw [← HE.out]; rfl, HB.out⟩
end Go.Proofs.YtbclmafplaipaaaDoor
