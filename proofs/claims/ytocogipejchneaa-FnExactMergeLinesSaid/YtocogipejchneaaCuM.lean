/-
  The program's sums by kind: a map of its own.
-/
import Derived.Test.YtocogipejchneaaCuK
import Derived.Deep.RegionHeld3
import Derived.Carry
namespace Go.Proofs.Ytocogipejchneaa
open Go Go.RowKit
set_option linter.unusedVariables false

theorem field_kind (c0 c1 c2 c3 j a b c : Int) (w : World) : (Instr.field 58 (.agg #[.int .i16 c0, .int .i16 c1, .int .i16 c2, .int .i32 c3, .int .i8 j, .int .i64 a, .int .i64 b, .int .i64 c]) 0).run Try.prog w = .ok (.agg #[.int .i16 c0, .int .i16 c1, .int .i16 c2, .int .i32 c3, .int .i8 j]) w := by kernel_rfl
theorem zero_sums (w : World) : (zeroValue 56).run Try.prog w = .ok (sumV 0 0 0) w := by kernel_rfl
theorem ownsMap_below {w w' : World} {P : Program} {k : TypeId} {R : Value → Option (DataW Unit × List MemPlace)} {b n m : Nat} {D : DataW Unit} (h : w.ownsMap P k R b n D) (hb : Below m w w') (hlt : b < m) : w'.ownsMap P k R b n D := by
  obtain ⟨es, clock, hb', rest⟩ := h
  exact ⟨es, clock, by rw [hb.block b hlt]; exact hb', rest⟩
theorem keepS {m X Y : Nat} {z W : World} {b0 b1 b2 b3 y0 y1 y2 y3 y4 : Value} (hb : Below m z W) (hX : X < m) (hY : Y < m)
    (h : (z.cell? ⟨X, 0, none⟩ = some b0 ∧ z.cell? ⟨X, 1, none⟩ = some b1 ∧ z.cell? ⟨X, 2, none⟩ = some b2 ∧ z.cell? ⟨X, 3, none⟩ = some b3) ∧ z.cell? ⟨Y, 0, none⟩ = some y0 ∧ z.cell? ⟨Y, 1, none⟩ = some y1 ∧ z.cell? ⟨Y, 2, none⟩ = some y2 ∧ z.cell? ⟨Y, 3, none⟩ = some y3 ∧ z.cell? ⟨Y, 4, none⟩ = some y4) :
    (W.cell? ⟨X, 0, none⟩ = some b0 ∧ W.cell? ⟨X, 1, none⟩ = some b1 ∧ W.cell? ⟨X, 2, none⟩ = some b2 ∧ W.cell? ⟨X, 3, none⟩ = some b3) ∧ W.cell? ⟨Y, 0, none⟩ = some y0 ∧ W.cell? ⟨Y, 1, none⟩ = some y1 ∧ W.cell? ⟨Y, 2, none⟩ = some y2 ∧ W.cell? ⟨Y, 3, none⟩ = some y3 ∧ W.cell? ⟨Y, 4, none⟩ = some y4 := by
  obtain ⟨⟨h0, h1, h2, h3⟩, g0, g1, g2, g3, g4⟩ := h
  exact ⟨⟨(hb.cell (p := ⟨X, 0, none⟩) hX).trans h0, (hb.cell (p := ⟨X, 1, none⟩) hX).trans h1, (hb.cell (p := ⟨X, 2, none⟩) hX).trans h2, (hb.cell (p := ⟨X, 3, none⟩) hX).trans h3⟩, (hb.cell (p := ⟨Y, 0, none⟩) hY).trans g0, (hb.cell (p := ⟨Y, 1, none⟩) hY).trans g1, (hb.cell (p := ⟨Y, 2, none⟩) hY).trans g2, (hb.cell (p := ⟨Y, 3, none⟩) hY).trans g3, (hb.cell (p := ⟨Y, 4, none⟩) hY).trans g4⟩

theorem keepT {m X Y : Nat} {z W : World} {b0 b1 b2 b3 y0 y1 y2 y3 y4 : Value} (hg : z.grownBy W (some m)) (hX : X < z.heap.size) (hY : Y < z.heap.size) (hx : X ≠ m) (hy : Y ≠ m)
    (h : (z.cell? ⟨X, 0, none⟩ = some b0 ∧ z.cell? ⟨X, 1, none⟩ = some b1 ∧ z.cell? ⟨X, 2, none⟩ = some b2 ∧ z.cell? ⟨X, 3, none⟩ = some b3) ∧ z.cell? ⟨Y, 0, none⟩ = some y0 ∧ z.cell? ⟨Y, 1, none⟩ = some y1 ∧ z.cell? ⟨Y, 2, none⟩ = some y2 ∧ z.cell? ⟨Y, 3, none⟩ = some y3 ∧ z.cell? ⟨Y, 4, none⟩ = some y4) :
    (W.cell? ⟨X, 0, none⟩ = some b0 ∧ W.cell? ⟨X, 1, none⟩ = some b1 ∧ W.cell? ⟨X, 2, none⟩ = some b2 ∧ W.cell? ⟨X, 3, none⟩ = some b3) ∧ W.cell? ⟨Y, 0, none⟩ = some y0 ∧ W.cell? ⟨Y, 1, none⟩ = some y1 ∧ W.cell? ⟨Y, 2, none⟩ = some y2 ∧ W.cell? ⟨Y, 3, none⟩ = some y3 ∧ W.cell? ⟨Y, 4, none⟩ = some y4 := by
  obtain ⟨⟨h0, h1, h2, h3⟩, g0, g1, g2, g3, g4⟩ := h
  have cx : ∀ o, W.cell? ⟨X, o, none⟩ = z.cell? ⟨X, o, none⟩ := fun o => World.cell?_of_block (w := z) (hg.block X hX (by simp; exact hx))
  have cy : ∀ o, W.cell? ⟨Y, o, none⟩ = z.cell? ⟨Y, o, none⟩ := fun o => World.cell?_of_block (w := z) (hg.block Y hY (by simp; exact hy))
  exact ⟨⟨(cx 0).trans h0, (cx 1).trans h1, (cx 2).trans h2, (cx 3).trans h3⟩, (cy 0).trans g0, (cy 1).trans g1, (cy 2).trans g2, (cy 3).trans g3, (cy 4).trans g4⟩

set_option maxHeartbeats 600000 in
set_option maxRecDepth 100000 in
theorem ikinds_row (b len cap : Nat) (v : Value) (cs ls : List Quad) (L : Nat → Lit) (hl : ls.length = len) (h : vldF cs ls = true) (hfl : FitsL ls) (hL : ∀ j, j < cs.length → keyOf Try.prog 54 (keyV (cs.getD j (0, 0, 0, 0)) j) = some (L j)) (hinj : ∀ i j, i < cs.length → j < cs.length → L i = L j → i = j) (w : World) (hv : ReadsC w v cs) (hc : CellsL w b ls) :
    Calls Try.prog 21 #[v, .slice (some ⟨b, 0, none⟩) len cap] w fun e w' => ∃ D : DataW Unit, e = .returned (.map (some w.heap.size)) ∧ w'.ownsMap Try.prog 54 R3 w.heap.size len D ∧ KSums cs ls L len D ∧ Below w.heap.size w w' := by
  have HV := Lib.hid hv
  have HVF := Lib.hid h
  have HL := Lib.hid hl
  have HC := Lib.hid hc
  have HI := Lib.hid hfl
  have HKL := Lib.hid hL
  have HIN := Lib.hid hinj
  have h10 : len ≤ 10 := by rw [← hl]; exact (vldF_spec h).2.1
  have hc8 : cs.length ≤ 8 := (vldC_spec (vldF_spec h).1).1.2
  clear hv h hl hc hfl hL hinj
  have hmm := @run_makeMap Try.prog
  go_enter Try.func21, Try.ntmps21
  go_wp2_with fail
  clear hmm
  go_loopw [12] (fun i wr => ∃ (k : Nat) (D : DataW Unit), k ≤ len ∧ i = .int .i64 k ∧ wr.ownsMap Try.prog 54 R3 w.heap.size k D ∧ KSums cs ls L k D ∧ Below w.heap.size w wr) (fun i _ => len - (intOf i).toNat)
  case atStart => exact ⟨0, .map [], Nat.zero_le _, rfl, World.ownsMap_made w _ _ _, KSums.zero cs ls L, (Below.refl _ _).alloc (Nat.le_refl _) _⟩
  case round =>
    obtain ⟨k, D, hk, rfl, hown, hks, hnx⟩ := hrel
    have HO := Lib.hid hown
    have HK := Lib.hid hks
    have HB := Lib.hid hnx
    have hwr : w.heap.size ≤ wr.heap.size := hnx.size
    have hmb : w.heap.size < wr.heap.size := hown.lt
    by_cases hlt : k < len
    · have hkl : k < ls.length := by have := HL.out; omega
      obtain ⟨c0, c1, c2, c3⟩ := HC.out.below hnx k hkl
      have hf := HI.out.get k hkl
      obtain ⟨_, _, hok⟩ := vldF_spec HVF.out
      obtain ⟨j, hj, hjx⟩ := line_cls hok (k := k) hkl
      have hin := qs_in (n := cs.length) (j : Int) (fun i hi => hok i (by omega) : OkLTo cs.length ls k)
      obtain ⟨q, hq⟩ : ∃ q, ls.getD k (0, 0, 0, 0) = q := ⟨_, rfl⟩
      rw [hq] at c0 c1 c2 c3 hf hjx
      obtain ⟨x0, x1, x2, x3⟩ := q
      simp only at hjx
      subst hjx
      have hkey := HKL.out j hj
      have HJ := Lib.hid hj
      have HNEXT : Hid (KSums cs ls L (k + 1) (D.put (L j) (enc3 (q1 ls j k + x1) (q2 ls j k + x2) (q3 ls j k + x3)))) := Lib.hid (HK.out.succ hown.isMap (keyedK.key hkey) HIN.out hj hq hin.1.1)
      have hat := HK.out.at_ j hj
      obtain ⟨cq, hcq⟩ : ∃ c, cs.getD j (0, 0, 0, 0) = c := ⟨_, rfl⟩
      have HLOTS : Hid (∀ W, Below w.heap.size w W → Calls Try.prog 33 #[v, .agg #[.int .i8 (j : Int), .int .i16 x1, .int .i32 x2, .int .i32 x3]] W fun e w' => e = .returned (.agg #[.int .i16 cq.1, .int .i16 cq.2.1, .int .i16 cq.2.2.1, .int .i32 cq.2.2.2, .int .i8 (j : Int), .int .i64 x1, .int .i64 x2, .int .i64 x3]) ∧ Below W.heap.size W w') := Lib.hid (fun W hb => ilot_any v cs j x1 x2 x3 _ _ _ _ hj hc8 hf hcq W (HV.out.below hb))
      rw [hcq] at hkey
      obtain ⟨n0, n1, n2, n3⟩ := cq
      simp only at HLOTS
      obtain ⟨s1, e1⟩ : ∃ s, q1 ls j k = s := ⟨_, rfl⟩
      obtain ⟨s2, e2⟩ : ∃ s, q2 ls j k = s := ⟨_, rfl⟩
      obtain ⟨s3, e3⟩ : ∃ s, q3 ls j k = s := ⟨_, rfl⟩
      rw [e1, e2, e3] at hat HNEXT hin
      obtain ⟨_, ⟨i1, i2⟩, ⟨i3, i4⟩, ⟨i5, i6⟩⟩ := hin
      have HWITH : Hid (∀ W, Calls Try.prog 34 #[.agg #[.int .i64 s1, .int .i64 s2, .int .i64 s3], .agg #[.int .i8 (j : Int), .int .i16 x1, .int .i32 x2, .int .i32 x3]] W fun e w' => e = .returned (.agg #[.int .i64 (s1 + x1), .int .i64 (s2 + x2), .int .i64 (s3 + x3)]) ∧ Below W.heap.size W w') := Lib.hid (fun W => iwith_any s1 s2 s3 (j : Int) x1 x2 x3 hf ⟨by omega, by omega⟩ ⟨by omega, by omega⟩ ⟨by omega, by omega⟩ W)
      have HKEY := Lib.hid hkey
      have HLOOK : Hid (∀ W : World, W.ownsMap Try.prog 54 R3 w.heap.size k D → (Instr.lookup 51 (.map (some w.heap.size)) (.agg #[.int .i16 n0, .int .i16 n1, .int .i16 n2, .int .i32 n3, .int .i8 (j : Int)]) false).run Try.prog W = .ok (.agg #[.int .i64 s1, .int .i64 s2, .int .i64 s3]) W) := Lib.hid (fun W ho => by
        obtain ⟨y, ps, hrun, hy⟩ := ho.lookup keyedK Try.underlying51 (zero_sums W) (R3_mk 0 0 0) HKEY.out
        obtain ⟨a, b', c, rfl, hyy⟩ := R3_inv hy
        rw [hat] at hyy
        simp only [Prod.mk.injEq] at hyy
        obtain ⟨rfl, rfl, rfl⟩ := enc3_inj hyy.1
        exact hrun)
      obtain ⟨W1, hW1⟩ : ∃ W, wr.alloc (.cells #[.int .i8 (j : Int), .int .i16 x1, .int .i32 x2, .int .i32 x3] 44) = W := ⟨_, rfl⟩
      have B1 : BlkA W1 wr.heap.size 44 #[.int .i8 (j : Int), .int .i16 x1, .int .i32 x2, .int .i32 x3] := by rw [← hW1]; exact BlkA.new rfl _ _
      have E1 : Hid (Below wr.heap.size wr W1) := Lib.hid (by rw [← hW1]; exact (Below.refl _ _).alloc (Nat.le_refl _) _)
      have HW1 := Lib.hid hW1
      have HB1 : Hid (Below w.heap.size w W1) := Lib.hid (HB.out.trans (E1.out.mono hwr))
      have v0 := B1.at 0
      have v1 := B1.at 1
      have v2 := B1.at 2
      have v3 := B1.at 3
      have HBL := Lib.hid B1
      have hkli : (k : Int) < (len : Int) := by omega
      have hkn : (0 : Int) ≤ (k : Int) := by omega
      clear hq hnx hf hcq hW1 hown hks hat hkey hok e1 e2 e3 B1
      go_wp2_with fail
      rw [HW1.out]
      go_wp2_with fail
      refine (HLOTS.out _ HB1.out).mono ?_
      rintro e w2 ⟨rfl, b2⟩
      have E2 : Hid (Below wr.heap.size wr w2) := Lib.hid (E1.out.trans (b2.mono E1.out.size))
      have HBL2 := Lib.hid (HBL.out.below b2)
      have fk := field_kind n0 n1 n2 n3 (j : Int) x1 x2 x3 w2
      clear b2 v0 v1 v2 v3
      go_wp2_with fail
      obtain ⟨W3, hW3⟩ : ∃ W, w2.alloc (.cells #[.int .i16 n0, .int .i16 n1, .int .i16 n2, .int .i32 n3, .int .i8 (j : Int)] 54) = W := ⟨_, rfl⟩
      have B3 : BlkA W3 w2.heap.size 54 #[.int .i16 n0, .int .i16 n1, .int .i16 n2, .int .i32 n3, .int .i8 (j : Int)] := by rw [← hW3]; exact BlkA.new rfl _ _
      have F3 : Hid (Below w2.heap.size w2 W3) := Lib.hid (by rw [← hW3]; exact (Below.refl _ _).alloc (Nat.le_refl _) _)
      have HW3 := Lib.hid hW3
      have E3 : Hid (Below wr.heap.size wr W3.drew) := Lib.hid ((E2.out.trans (F3.out.mono E2.out.size)).drew)
      have HB3 : Hid (Below w.heap.size w W3.drew) := Lib.hid (HB.out.trans (E3.out.mono hwr))
      have HO3 : Hid (W3.drew.ownsMap Try.prog 54 R3 w.heap.size k D) := Lib.hid (ownsMap_below HO.out E3.out hmb)
      have hlook := HLOOK.out W3.drew HO3.out
      have BL3 := (HBL2.out.below F3.out).drew
      have B3d := B3.drew
      have SD : (W3.drew.cell? ⟨wr.heap.size, 0, none⟩ = some (.int .i8 (j : Int)) ∧ W3.drew.cell? ⟨wr.heap.size, 1, none⟩ = some (.int .i16 x1) ∧ W3.drew.cell? ⟨wr.heap.size, 2, none⟩ = some (.int .i32 x2) ∧ W3.drew.cell? ⟨wr.heap.size, 3, none⟩ = some (.int .i32 x3)) ∧ W3.drew.cell? ⟨w2.heap.size, 0, none⟩ = some (.int .i16 n0) ∧ W3.drew.cell? ⟨w2.heap.size, 1, none⟩ = some (.int .i16 n1) ∧ W3.drew.cell? ⟨w2.heap.size, 2, none⟩ = some (.int .i16 n2) ∧ W3.drew.cell? ⟨w2.heap.size, 3, none⟩ = some (.int .i32 n3) ∧ W3.drew.cell? ⟨w2.heap.size, 4, none⟩ = some (.int .i8 (j : Int)) := ⟨⟨BL3.at 0, BL3.at 1, BL3.at 2, BL3.at 3⟩, B3d.at 0, B3d.at 1, B3d.at 2, B3d.at 3, B3d.at 4⟩
      have hXl : wr.heap.size < W3.drew.heap.size := BL3.lt
      have hYl : w2.heap.size < W3.drew.heap.size := B3d.lt
      have hwd : w.heap.size ≤ W3.drew.heap.size := HB3.out.size
      have hmy : w2.heap.size ≠ w.heap.size := by have := E2.out.size; omega
      clear hW3 BL3 B3 B3d fk
      rw [HW3.out]
      go_region_held3 (fun u => (u.cell? ⟨wr.heap.size, 0, none⟩ = some (.int .i8 (j : Int)) ∧ u.cell? ⟨wr.heap.size, 1, none⟩ = some (.int .i16 x1) ∧ u.cell? ⟨wr.heap.size, 2, none⟩ = some (.int .i32 x2) ∧ u.cell? ⟨wr.heap.size, 3, none⟩ = some (.int .i32 x3)) ∧ u.cell? ⟨w2.heap.size, 0, none⟩ = some (.int .i16 n0) ∧ u.cell? ⟨w2.heap.size, 1, none⟩ = some (.int .i16 n1) ∧ u.cell? ⟨w2.heap.size, 2, none⟩ = some (.int .i16 n2) ∧ u.cell? ⟨w2.heap.size, 3, none⟩ = some (.int .i32 n3) ∧ u.cell? ⟨w2.heap.size, 4, none⟩ = some (.int .i8 (j : Int))) (first | (with_reducible exact SD) | (with_reducible exact zS5) | (with_reducible exact zS4)) (first | (go_at_call 34; (with_reducible refine (HWITH.out _).mono ?_); rintro e w4 ⟨rfl, b4⟩; have zS4 : (w4.cell? ⟨wr.heap.size, 0, none⟩ = some (.int .i8 (j : Int)) ∧ w4.cell? ⟨wr.heap.size, 1, none⟩ = some (.int .i16 x1) ∧ w4.cell? ⟨wr.heap.size, 2, none⟩ = some (.int .i32 x2) ∧ w4.cell? ⟨wr.heap.size, 3, none⟩ = some (.int .i32 x3)) ∧ w4.cell? ⟨w2.heap.size, 0, none⟩ = some (.int .i16 n0) ∧ w4.cell? ⟨w2.heap.size, 1, none⟩ = some (.int .i16 n1) ∧ w4.cell? ⟨w2.heap.size, 2, none⟩ = some (.int .i16 n2) ∧ w4.cell? ⟨w2.heap.size, 3, none⟩ = some (.int .i32 n3) ∧ w4.cell? ⟨w2.heap.size, 4, none⟩ = some (.int .i8 (j : Int)) := keepS b4 hXl hYl SD; have HO4 : Hid (w4.ownsMap Try.prog 54 R3 w.heap.size k D) := Lib.hid (ownsMap_below HO3.out b4 HO3.out.lt); have HB4 : Hid (Below w.heap.size w w4) := Lib.hid (HB3.out.trans (b4.mono hwd)); obtain ⟨w5, hupd0, hown5, hgrow5⟩ := HO4.out.update keyedK Try.underlying51 (by unfold maxLen; omega) HKEY.out (R3_mk (s1 + x1) (s2 + x2) (s3 + x3)); have hupd : (Instr.mapUpdate 51 (.map (some w.heap.size)) (.agg #[.int .i16 n0, .int .i16 n1, .int .i16 n2, .int .i32 n3, .int .i8 (j : Int)]) (.agg #[.int .i64 (s1 + x1), .int .i64 (s2 + x2), .int .i64 (s3 + x3)])).run Try.prog w4 = .ok () w5 := hupd0; clear hupd0; have zS5 : (w5.cell? ⟨wr.heap.size, 0, none⟩ = some (.int .i8 (j : Int)) ∧ w5.cell? ⟨wr.heap.size, 1, none⟩ = some (.int .i16 x1) ∧ w5.cell? ⟨wr.heap.size, 2, none⟩ = some (.int .i32 x2) ∧ w5.cell? ⟨wr.heap.size, 3, none⟩ = some (.int .i32 x3)) ∧ w5.cell? ⟨w2.heap.size, 0, none⟩ = some (.int .i16 n0) ∧ w5.cell? ⟨w2.heap.size, 1, none⟩ = some (.int .i16 n1) ∧ w5.cell? ⟨w2.heap.size, 2, none⟩ = some (.int .i16 n2) ∧ w5.cell? ⟨w2.heap.size, 3, none⟩ = some (.int .i32 n3) ∧ w5.cell? ⟨w2.heap.size, 4, none⟩ = some (.int .i8 (j : Int)) := keepT hgrow5 (Nat.lt_of_lt_of_le hXl b4.size) (Nat.lt_of_lt_of_le hYl b4.size) (Nat.ne_of_gt hmb) hmy zS4; have HO5 := Lib.hid hown5; have HB5 : Hid (Below w.heap.size w w5) := Lib.hid (HB4.out.grown hgrow5 HB4.out.size (fun i hi => by cases hi; exact Nat.le_refl _)); clear hown5 hgrow5))
      go_wp2_with fail
      go_roundw
      case rel => exact ⟨k + 1, _, by omega, by go_num, HO5.out, HNEXT.out, HB5.out⟩
      case measure => simp [intOf]; omega
    · have hk' : k = len := by omega
      have HE : Hid (wr.ownsMap Try.prog 54 R3 w.heap.size len D ∧ KSums cs ls L len D) := Lib.hid (by rw [← hk']; exact ⟨hown, hks⟩)
      clear hk' hnx hown hks
      go_wp2_with fail
      go_ret
      exact ⟨D, rfl, HE.out.1, HE.out.2, HB.out⟩
end Go.Proofs.Ytocogipejchneaa
