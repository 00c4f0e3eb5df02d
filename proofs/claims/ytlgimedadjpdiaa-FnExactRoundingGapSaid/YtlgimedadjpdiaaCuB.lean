/-
  The model's duty class by class: plain, and its contracts.
-/
import Derived.Test.YtlgimedadjpdiaaCuA
import Derived.Test.YtlgimedadjpdiaaCuF
namespace Go.Proofs.Ytlgimedadjpdiaa
open Go Go.RowKit
set_option linter.unusedVariables false

set_option maxHeartbeats 1000000 in
set_option maxRecDepth 100000 in
theorem ssum_zero (a : Option Addr) (cap : Nat) (c : Int) (w : World) :
    Calls Try.prog 32 #[.slice a 0 cap, .int .i64 c] w fun e w' => e = .returned (qsV [] c) ∧ Below w.heap.size w w' := by
  have G0 : Hid (((w.alloc (.cells #[.int .i64 0, .int .i64 0, .int .i64 0, .int .i64 0] 69)).alloc (.cells #[.int .i64 0, .int .i64 0, .int .i64 0, .int .i64 0] 69)).heap[w.heap.size]? = some (.cells #[.int .i64 0, .int .i64 0, .int .i64 0, .int .i64 0] 69 (0, 0))) := Lib.hid ((BlockI.new w 69 zero4).alloc _)
  have HB : Hid (Below w.heap.size w ((w.alloc (.cells #[.int .i64 0, .int .i64 0, .int .i64 0, .int .i64 0] 69)).alloc (.cells #[.int .i64 0, .int .i64 0, .int .i64 0, .int .i64 0] 69))) := Lib.hid (((Below.refl _ _).alloc (Nat.le_refl _) _).alloc (by simp) _)
  go_enter Try.func32, Try.ntmps32
  go_wp2_with fail
  refine wp_loop_rounds 1 ?_
  rw [rounds_succ]
  go_wp2_with fail
  refine bodyPost_ret (v := .agg #[.int .i64 0, .int .i64 0, .int .i64 0, .int .i64 0]) ?_ rfl ⟨rfl, HB.out⟩
  exact results_cell_row Try.results32 _ _ w.heap.size 69 _ (0, 0) _ rfl G0.out rfl rfl rfl
theorem ssum_any (u : Value) (cs ls : List Quad) (c : Int) (h : vldF cs ls = true) (w : World) (hu : ReadsL w u ls) :
    Calls Try.prog 32 #[u, .int .i64 c] w fun e w' => e = .returned (qsV ls c) ∧ Below w.heap.size w w' := by
  obtain ⟨a, cap, rfl, hc⟩ := hu
  obtain ⟨hvc, h10, hok⟩ := vldF_spec h
  obtain ⟨⟨h1, hc8⟩, hoc⟩ := vldC_spec hvc
  by_cases h0 : ls = []
  · subst h0
    exact ssum_zero a cap c w
  · obtain ⟨b, rfl, hcl⟩ := hc h0
    exact ssum_row b ls.length cap ls c cs.length rfl h10 hok hc8 w hcl

/-- The duty of the first k classes, each one's lines together. -/
def allTo (cs ls : List Quad) (how : Int) : Nat → Int
  | 0 => 0
  | k + 1 => allTo cs ls how k + (if 0 < q0 ls k ls.length then chargeR (cs.getD k (0, 0, 0, 0)) (q2 ls k ls.length) (q3 ls k ls.length) how else 0)
theorem qs_all {cs ls : List Quad} (h : vldF cs ls = true) (c : Int) : (0 ≤ q0 ls c ls.length ∧ q0 ls c ls.length ≤ 10) ∧ (0 ≤ q1 ls c ls.length ∧ q1 ls c ls.length ≤ 10000) ∧ (0 ≤ q2 ls c ls.length ∧ q2 ls c ls.length ≤ 10000000) ∧ (0 ≤ q3 ls c ls.length ∧ q3 ls c ls.length ≤ 10000000) := by
  obtain ⟨hvc, h10, hok⟩ := vldF_spec h
  have := qs_in c hok
  omega
theorem charge_all {cs ls : List Quad} (h : vldF cs ls = true) (how : Int) {k : Nat} (hk : k < cs.length) : 0 ≤ chargeR (cs.getD k (0, 0, 0, 0)) (q2 ls k ls.length) (q3 ls k ls.length) how ∧ chargeR (cs.getD k (0, 0, 0, 0)) (q2 ls k ls.length) (q3 ls k ls.length) how ≤ 20000000000 := by
  obtain ⟨hvc, h10, hok⟩ := vldF_spec h
  obtain ⟨_, hoc⟩ := vldC_spec hvc
  have h1 := qs_all h k
  exact chargeR_in (hoc k hk) h1.2.2.1.1 h1.2.2.1.2 h1.2.2.2.1 h1.2.2.2.2
theorem allTo_in {cs ls : List Quad} {how : Int} {k : Nat} (h : vldF cs ls = true) (hk : k ≤ cs.length) : 0 ≤ allTo cs ls how k ∧ allTo cs ls how k ≤ 20000000000 * k := by
  induction k with
  | zero => simp [allTo]
  | succ k ih =>
    have h1 := ih (by omega)
    have h2 := charge_all h how (k := k) (by omega)
    rw [allTo]
    split <;> omega

theorem keepA {m : Nat} {z W : World} {c o X : Nat} {b0 b1 b2 b3 s2 s3 : Value} (hb : Below m z W) (h0 : c < m) (hX : X < m)
    (h : (z.cell? ⟨c, o, none⟩ = some b0 ∧ z.cell? ⟨c, o + 1, none⟩ = some b1 ∧ z.cell? ⟨c, o + 2, none⟩ = some b2 ∧ z.cell? ⟨c, o + 3, none⟩ = some b3) ∧ z.cell? ⟨X, 2, none⟩ = some s2 ∧ z.cell? ⟨X, 3, none⟩ = some s3) :
    (W.cell? ⟨c, o, none⟩ = some b0 ∧ W.cell? ⟨c, o + 1, none⟩ = some b1 ∧ W.cell? ⟨c, o + 2, none⟩ = some b2 ∧ W.cell? ⟨c, o + 3, none⟩ = some b3) ∧ W.cell? ⟨X, 2, none⟩ = some s2 ∧ W.cell? ⟨X, 3, none⟩ = some s3 := by
  obtain ⟨⟨y0, y1, y2, y3⟩, x2, x3⟩ := h
  exact ⟨⟨(hb.cell (p := ⟨c, o, none⟩) h0).trans y0, (hb.cell (p := ⟨c, o + 1, none⟩) h0).trans y1, (hb.cell (p := ⟨c, o + 2, none⟩) h0).trans y2, (hb.cell (p := ⟨c, o + 3, none⟩) h0).trans y3⟩, (hb.cell (p := ⟨X, 2, none⟩) hX).trans x2, (hb.cell (p := ⟨X, 3, none⟩) hX).trans x3⟩

set_option maxHeartbeats 1000000 in
set_option maxRecDepth 100000 in
theorem sall_row (c ccap clen : Nat) (u : Value) (cs ls : List Quad) (how : Int) (hcl : cs.length = clen) (h : vldF cs ls = true) (hh : isHow how = true) (w : World) (hu : ReadsL w u ls) (hcc : CellsC w c cs) :
    Calls Try.prog 23 #[.slice (some ⟨c, 0, none⟩) clen ccap, u, .int .i64 how] w fun e w' => e = .returned (.int .i64 (allTo cs ls how clen)) ∧ Below w.heap.size w w' := by
  have HV := Lib.hid h
  have HU := Lib.hid hu
  have HCL := Lib.hid hcl
  have HCC := Lib.hid hcc
  have hc8 : clen ≤ 8 := by
    obtain ⟨hvc, _, _⟩ := vldF_spec h
    have := (vldC_spec hvc).1.2
    omega
  clear h hu hcc hcl
  go_enter Try.func23, Try.ntmps23
  go_wp2_with fail
  go_loopw [7, 8] (fun s i wr => ∃ k : Nat, k ≤ clen ∧ i = .int .i64 k ∧ s = .int .i64 (allTo cs ls how k) ∧ Below w.heap.size w wr) (fun _ i _ => clen - (intOf i).toNat)
  case atStart => exact ⟨0, Nat.zero_le _, rfl, rfl, Below.refl _ _⟩
  case round =>
    obtain ⟨k, hk, rfl, rfl, hnx⟩ := hrel
    have HB := Lib.hid hnx
    have hwr : w.heap.size ≤ wr.heap.size := hnx.size
    obtain ⟨d0, d1⟩ := allTo_in (how := how) (k := k) HV.out (by have := HCL.out; omega)
    obtain ⟨dt, hdt⟩ : ∃ x, allTo cs ls how k = x := ⟨_, rfl⟩
    rw [hdt] at d0 d1 ⊢
    have HDT := Lib.hid hdt
    by_cases hlt : k < clen
    · have hkc : k < cs.length := by have := HCL.out; omega
      have CC := HCC.out.below hnx k hkc
      have hoc1 := (vldC_spec (vldF_spec HV.out).1).2 k hkc
      obtain ⟨⟨i0, i1⟩, _, ⟨i2, i3⟩, ⟨i4, i5⟩⟩ := qs_all HV.out (k : Int)
      have hch := charge_all HV.out how hkc
      have HN : Hid (allTo cs ls how (k + 1) = dt + (if 0 < q0 ls k ls.length then chargeR (cs.getD k (0, 0, 0, 0)) (q2 ls k ls.length) (q3 ls k ls.length) how else 0)) := Lib.hid (by rw [allTo, hdt])
      have HQ : Hid (qsV ls (k : Int) = .agg #[.int .i64 (q0 ls k ls.length), .int .i64 (q1 ls k ls.length), .int .i64 (q2 ls k ls.length), .int .i64 (q3 ls k ls.length)]) := Lib.hid rfl
      obtain ⟨cq, hcq⟩ : ∃ c, cs.getD k (0, 0, 0, 0) = c := ⟨_, rfl⟩
      rw [hcq] at hoc1 CC HN hch
      obtain ⟨n0, n1, n2, n3⟩ := cq
      obtain ⟨a0, ha0⟩ : ∃ s, q0 ls k ls.length = s := ⟨_, rfl⟩
      obtain ⟨a1, ha1⟩ : ∃ s, q1 ls k ls.length = s := ⟨_, rfl⟩
      obtain ⟨a2, ha2⟩ : ∃ s, q2 ls k ls.length = s := ⟨_, rfl⟩
      obtain ⟨a3, ha3⟩ : ∃ s, q3 ls k ls.length = s := ⟨_, rfl⟩
      rw [ha0, ha1, ha2, ha3] at HQ
      rw [ha0, ha2, ha3] at HN
      rw [ha2, ha3] at hch
      rw [ha0] at i0 i1
      rw [ha2] at i2 i3
      rw [ha3] at i4 i5
      obtain ⟨ch, hchq⟩ : ∃ x, chargeR (n0, n1, n2, n3) a2 a3 how = x := ⟨_, rfl⟩
      rw [hchq] at hch HN
      obtain ⟨h0, h1⟩ := hch
      have HDU : Hid (∀ W, Calls Try.prog 42 #[.agg #[.int .i16 n0, .int .i16 n1, .int .i16 n2, .int .i32 n3], .int .i64 a2, .int .i64 a3, .int .i64 how] W fun e w' => e = .returned (.int .i64 ch) ∧ Below W.heap.size W w') := Lib.hid (fun W => by rw [← hchq]; exact scharge_any n0 n1 n2 n3 a2 a3 how hoc1 ⟨i2, i3⟩ ⟨i4, i5⟩ hh W)
      have hkl : (k : Int) < (clen : Int) := by omega
      have hkn : (0 : Int) ≤ (k : Int) := by omega
      have HCW : Hid (∀ v : World, Below w.heap.size w v → v.cell? ⟨c, k * 4, none⟩ = some (.int .i16 n0) ∧ v.cell? ⟨c, k * 4 + 1, none⟩ = some (.int .i16 n1) ∧ v.cell? ⟨c, k * 4 + 2, none⟩ = some (.int .i16 n2) ∧ v.cell? ⟨c, k * 4 + 3, none⟩ = some (.int .i32 n3)) := Lib.hid (fun v hv => by
        have h := HCC.out.below hv k hkc
        rw [hcq] at h
        exact h)
      clear hnx hcq hoc1 hchq hdt ha0 ha1 ha2 ha3 CC
      go_wp2_with fail
      refine (ssum_any _ cs ls (k : Int) HV.out _ (HU.out.below HB.out)).mono ?_
      rintro e w2 ⟨rfl, b2⟩
      rw [HQ.out]
      have HB2 := Lib.hid (HB.out.trans (b2.mono hwr))
      have hw2 : w.heap.size ≤ w2.heap.size := HB2.out.size
      clear b2
      obtain ⟨W1, hW1⟩ : ∃ W, w2.alloc (.cells #[.int .i64 a0, .int .i64 a1, .int .i64 a2, .int .i64 a3] 69) = W := ⟨_, rfl⟩
      have B1 : BlkA W1 w2.heap.size 69 #[.int .i64 a0, .int .i64 a1, .int .i64 a2, .int .i64 a3] := by rw [← hW1]; exact BlkA.new rfl _ _
      have HBD0 : Hid (Below w.heap.size w W1) := Lib.hid (by rw [← hW1]; exact HB2.out.alloc hw2 _)
      have HBD : Hid (Below w.heap.size w W1.drew) := Lib.hid HBD0.out.drew
      have HW1 := Lib.hid hW1
      have SD : (W1.drew.cell? ⟨c, k * 4, none⟩ = some (.int .i16 n0) ∧ W1.drew.cell? ⟨c, k * 4 + 1, none⟩ = some (.int .i16 n1) ∧ W1.drew.cell? ⟨c, k * 4 + 2, none⟩ = some (.int .i16 n2) ∧ W1.drew.cell? ⟨c, k * 4 + 3, none⟩ = some (.int .i32 n3)) ∧ W1.drew.cell? ⟨w2.heap.size, 2, none⟩ = some (.int .i64 a2) ∧ W1.drew.cell? ⟨w2.heap.size, 3, none⟩ = some (.int .i64 a3) := ⟨HCW.out _ HBD.out, B1.drew.at 2, B1.drew.at 3⟩
      have hXl : w2.heap.size < W1.drew.heap.size := B1.lt
      have hcl : c < W1.drew.heap.size := World.block_lt_of_cell? _ _ SD.1.1
      have hwd : w.heap.size ≤ W1.drew.heap.size := HBD.out.size
      clear hW1
      by_cases hp : 0 < a0
      · have hd : decide (0 < a0) = true := decide_eq_true hp
        have HP := Lib.hid hp
        clear hp
        go_wp2_with fail
        rw [HW1.out]
        go_region_held3 (fun u => (u.cell? ⟨c, k * 4, none⟩ = some (.int .i16 n0) ∧ u.cell? ⟨c, k * 4 + 1, none⟩ = some (.int .i16 n1) ∧ u.cell? ⟨c, k * 4 + 2, none⟩ = some (.int .i16 n2) ∧ u.cell? ⟨c, k * 4 + 3, none⟩ = some (.int .i32 n3)) ∧ u.cell? ⟨w2.heap.size, 2, none⟩ = some (.int .i64 a2) ∧ u.cell? ⟨w2.heap.size, 3, none⟩ = some (.int .i64 a3)) (first | (with_reducible exact SD) | (with_reducible exact zS3)) (first | (go_at_call 42; (with_reducible refine (HDU.out _).mono ?_); rintro e w3 ⟨rfl, b3⟩; have zS3 : (w3.cell? ⟨c, k * 4, none⟩ = some (.int .i16 n0) ∧ w3.cell? ⟨c, k * 4 + 1, none⟩ = some (.int .i16 n1) ∧ w3.cell? ⟨c, k * 4 + 2, none⟩ = some (.int .i16 n2) ∧ w3.cell? ⟨c, k * 4 + 3, none⟩ = some (.int .i32 n3)) ∧ w3.cell? ⟨w2.heap.size, 2, none⟩ = some (.int .i64 a2) ∧ w3.cell? ⟨w2.heap.size, 3, none⟩ = some (.int .i64 a3) := keepA b3 hcl hXl SD; have HB3 : Hid (Below w.heap.size w w3) := Lib.hid (HBD.out.trans (b3.mono hwd))))
        have HWR : IntKind.i64.wrap (dt + ch) = dt + ch := IntWalk.i64_in _ (by omega)
        rw [HWR]
        go_wp2_with fail
        go_roundw
        case rel => exact ⟨k + 1, by omega, by go_num, by rw [HN.out, if_pos HP.out], HB3.out⟩
        case measure => simp [intOf]; omega
      · have hd : decide (0 < a0) = false := decide_eq_false hp
        have HN0 : Hid (allTo cs ls how (k + 1) = dt) := Lib.hid (by rw [HN.out, if_neg hp, Int.add_zero])
        clear hp
        go_wp2_with fail
        rw [HW1.out]
        go_roundw
        case rel => exact ⟨k + 1, by omega, by go_num, by rw [HN0.out], HBD0.out⟩
        case measure => simp [intOf]; omega
    · have hk' : k = clen := by omega
      have HE : Hid (dt = allTo cs ls how clen) := Lib.hid (by rw [← hk', HDT.out])
      clear hk' hnx hdt
      go_wp2_with fail
      go_ret
      exact ⟨ret_int HE.out, HB.out⟩
end Go.Proofs.Ytlgimedadjpdiaa
