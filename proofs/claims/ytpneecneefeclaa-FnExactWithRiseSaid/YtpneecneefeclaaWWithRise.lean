/-
  The walk of FnExactWithRise: program and model answer the same at every table and percentage; neither writes into the table, and what is answered lies in new memory.
-/
import Derived.Test.YtpneecneefeclaaWrS
import Derived.Test.YtpneecneefeclaaWrI
namespace Go.Proofs.Ytpneecneefeclaa.fnExactWithRise
open Go Go.RowKit
set_option linter.unusedVariables false

theorem blk_out {w w' : World} {B lo hi : Nat} {T : TypeId} {x y : Value} (h : Blk2 w B T x y) (K : KeepsOut lo hi w w') (hd : B < lo ∨ hi ≤ B) : Blk2 w' B T x y := (K.block B h.lt hd).trans h
theorem td_is {lo hi : Nat} {w : World} {v : Value} {S : List Int} {R : List (List Int)} (h : OwnTD lo hi w v S R) : ∃ a n c b m d, v = .agg #[.slice a n c, .slice b m d] := by
  obtain ⟨u1, u2, mid, rfl, h1, _, ⟨us, h2, _⟩, _, _⟩ := h
  obtain ⟨a, c, rfl⟩ := own_is h1
  obtain ⟨b, d, rfl⟩ := own_is h2
  exact ⟨_, _, _, _, _, _, rfl⟩
theorem OwnT.toTD {B : Nat} {w : World} {v : Value} {S : List Int} {R : List (List Int)} (h : OwnT B w v S R) (hB : B ≤ w.heap.size) : OwnTD B w.heap.size w v S R := by
  obtain ⟨u1, u2, B2, rfl, h1, h2, h3, h4⟩ := h
  exact ⟨u1, u2, min B2 w.heap.size, rfl, h1, fun q hq => by have := h4 q hq; have := (h1.block q hq).2; omega, h2.toD.mono (by omega) (Nat.le_refl _), by omega, by omega⟩

set_option maxHeartbeats 3200000 in
set_option maxRecDepth 100000 in
theorem walk (v : Value) (S : List Int) (R : List (List Int)) (p : Int) (w : World) (h : IsTab w v S R) (hpw : (Lit.int .i64 p).wf = true) :
    Calls Try.prog 3 #[v, .int .i64 p] w fun e w' => e = .returned (.bool true) ∧ Below w.heap.size w w' := by
  have HT0 := Lib.hid h
  obtain ⟨a, len, cap, z, b, m, c2, rfl, q1, q2, q3⟩ := h.ex
  clear q1 q2 q3 h
  by_cases hs : 0 ≤ szT 1048576 S R
  · have K := Lib.hid (HT0.out.ok (by omega) hs)
    have hst := hs
    have t0 : decide (szT 1048576 S R < 0) = false := by simp; omega
    obtain ⟨hq1, hq2, hq3⟩ := szT_le hs
    have HtotR : Hid (tot R ≤ 1048576) := Lib.hid (by
      unfold szT at hst
      split at hst
      · unfold szM at hst
        split at hst <;> omega
      · omega)
    have HTD : ∀ {B : Nat} {w : World} {v : Value}, OwnT B w v S R → B ≤ w.heap.size → OwnTD B w.heap.size w v S R := fun h hB => OwnT.toTD h hB
    obtain ⟨hb1, hb2, hb3, hb4⟩ := wr_bd S R p
    have HS := Lib.hid (fun v w hv => swr_any v S R p w hv K.out)
    have HI := Lib.hid (fun v w hv => iwr_any v S R p w hv K.out)
    obtain ⟨rs, hrs⟩ : ∃ r, wrS S R p = r := ⟨_, rfl⟩
    obtain ⟨rr, hrr⟩ : ∃ r, wrR S R p = r := ⟨_, rfl⟩
    obtain ⟨rc, hrc⟩ : ∃ r, wrC S R p = r := ⟨_, rfl⟩
    rw [hrs] at hb1
    rw [hrr] at hb2 hb3 hb4
    rw [hrs, hrr, hrc] at HS HI
    have HA1 : Hid (rs.length ≤ 1048576) := Lib.hid (by omega)
    have HA2 : Hid (rr.length ≤ 1048576) := Lib.hid (by omega)
    have HA3 : Hid (tot rr ≤ 1048576) := Lib.hid (by omega)
    have HA4 : Hid (∀ j, j < rr.length → (rr.getD j []).length ≤ 1048576) := Lib.hid (fun j hj => by have := hb4 j hj; omega)
    have tq : decide ((1 : Int) + (rs.length : Int) + (tot rr : Int) < 0) = false := decide_eq_false (by omega)
    have tk : decide ((1 : Int) + (S.length : Int) + (tot R : Int) < 0) = false := decide_eq_false (by omega)
    clear hs hst hrs hrr hrc hb1 hb2 hb3 hb4 hq1 hq2 hq3
    go_enter Try.func3, Try.ntmps3
    go_wp2_with fail
    refine (szT_any _ S R 1048576 (by omega) (by omega) _ (HT0.out.below ((Below.refl _ _).alloc (Nat.le_refl _) _))).mono ?_
    rintro e z1 ⟨rfl, b1⟩
    have X2_1 := Lib.hid ((Blk2.new (w := w) rfl _ _ _).below b1)
    have C1 := Lib.hid (((Below.refl w.heap.size w).alloc (Nat.le_refl _) _).trans (b1.mono (by simp)))
    have hs1 : w.heap.size < z1.heap.size := X2_1.out.lt
    clear b1
    have x20 := X2_1.out.at0
    have x21 := X2_1.out.at1
    go_wp2_with fail
    refine (toT_ok _ S R _ (HT0.out.below C1.out) K.out).mono ?_
    rintro e z2 ⟨u1, rfl, o1, b2⟩
    have hs2 : z1.heap.size ≤ z2.heap.size := b2.size
    have C2 := Lib.hid (blink C1.out b2)
    have X2_2 := Lib.hid (X2_1.out.below b2)
    have HU1 := Lib.hid o1.reads
    clear o1
    clear x20 x21 b2
    have x20 := X2_2.out.at0
    have x21 := X2_2.out.at1
    go_wp2_with fail
    refine (HS.out _ _ HU1.out).mono ?_
    rintro e z3 ⟨sv, rfl, so, b3⟩
    have hs3 : z2.heap.size ≤ z3.heap.size := b3.size
    have C3 := Lib.hid (blink C2.out b3)
    have X2_3 := Lib.hid (X2_2.out.below b3)
    obtain ⟨sa, sn, sc, sb, sm, sd, rfl⟩ := td_is so
    have OS_3 := Lib.hid so
    clear so HU1
    clear x20 x21 b3
    have a3 : Below z3.heap.size z3 (z3.alloc (.cells #[.slice sa sn sc, .slice sb sm sd] 27)) := (Below.refl _ _).alloc (Nat.le_refl _) _
    have ha3 : z3.heap.size < (z3.alloc (.cells #[.slice sa sn sc, .slice sb sm sd] 27)).heap.size := by simp
    have C3a := Lib.hid (blink C3.out a3)
    have X2_3a := Lib.hid (X2_3.out.below a3)
    have OS_3a := Lib.hid (OS_3.out.below a3)
    have X6_3a := Lib.hid (show Blk2 (z3.alloc (.cells #[.slice sa sn sc, .slice sb sm sd] 27)) z3.heap.size 27 (.slice sa sn sc) (.slice sb sm sd) from Blk2.new rfl _ _ _)
    clear a3
    have x20 := X2_3a.out.at0
    have x21 := X2_3a.out.at1
    have x60 := X6_3a.out.at0
    have x61 := X6_3a.out.at1
    go_wp2_with fail
    refine (toT_ok _ S R _ (HT0.out.below C3a.out) K.out).mono ?_
    rintro e z4 ⟨u2, rfl, o1, b4⟩
    have hs4 : (z3.alloc (.cells #[.slice sa sn sc, .slice sb sm sd] 27)).heap.size ≤ z4.heap.size := b4.size
    have C4 := Lib.hid (blink C3a.out b4)
    have X2_4 := Lib.hid (X2_3a.out.below b4)
    have OS_4 := Lib.hid (OS_3a.out.below b4)
    have X6_4 := Lib.hid (X6_3a.out.below b4)
    have HU2 := Lib.hid o1
    obtain ⟨x1, x2, rfl, ⟨ax, cx, rfl, p1⟩, ⟨ay, cy, rfl, p2⟩⟩ := o1.reads
    have OX_4 := Lib.hid (HTD HU2.out (by omega))
    clear o1 p1 p2 HU2
    clear x20 x21 x60 x61 b4
    have a4 : Below z4.heap.size z4 (z4.alloc (.cells #[.slice ax S.length cx, .slice ay R.length cy] 27)) := (Below.refl _ _).alloc (Nat.le_refl _) _
    have ha4 : z4.heap.size < (z4.alloc (.cells #[.slice ax S.length cx, .slice ay R.length cy] 27)).heap.size := by simp
    have C4a := Lib.hid (blink C4.out a4)
    have X2_4a := Lib.hid (X2_4.out.below a4)
    have OS_4a := Lib.hid (OS_4.out.below a4)
    have X6_4a := Lib.hid (X6_4.out.below a4)
    have OX_4a := Lib.hid (OX_4.out.below a4)
    have X8_4a := Lib.hid (show Blk2 (z4.alloc (.cells #[.slice ax S.length cx, .slice ay R.length cy] 27)) z4.heap.size 27 (.slice ax S.length cx) (.slice ay R.length cy) from Blk2.new rfl _ _ _)
    clear a4
    have x20 := X2_4a.out.at0
    have x21 := X2_4a.out.at1
    have x60 := X6_4a.out.at0
    have x61 := X6_4a.out.at1
    have x80 := X8_4a.out.at0
    have x81 := X8_4a.out.at1
    go_wp2_with fail
    refine (HI.out _ _ OX_4a.out.reads).mono ?_
    rintro e z5 ⟨gv, rfl, go, b5⟩
    have hs5 : (z4.alloc (.cells #[.slice ax S.length cx, .slice ay R.length cy] 27)).heap.size ≤ z5.heap.size := b5.size
    have C5 := Lib.hid (blink C4a.out b5)
    have X2_5 := Lib.hid (X2_4a.out.below b5)
    have OS_5 := Lib.hid (OS_4a.out.below b5)
    have X6_5 := Lib.hid (X6_4a.out.below b5)
    have OX_5 := Lib.hid (OX_4a.out.below b5)
    have X8_5 := Lib.hid (X8_4a.out.below b5)
    obtain ⟨ga, gn, gc, gb, gm, gd, rfl⟩ := td_is go
    have OG_5 := Lib.hid go
    clear go
    clear x20 x21 x60 x61 x80 x81 b5
    have a5 : Below z5.heap.size z5 (z5.alloc (.cells #[.slice ga gn gc, .slice gb gm gd] 27)) := (Below.refl _ _).alloc (Nat.le_refl _) _
    have ha5 : z5.heap.size < (z5.alloc (.cells #[.slice ga gn gc, .slice gb gm gd] 27)).heap.size := by simp
    have C5a := Lib.hid (blink C5.out a5)
    have X2_5a := Lib.hid (X2_5.out.below a5)
    have OS_5a := Lib.hid (OS_5.out.below a5)
    have X6_5a := Lib.hid (X6_5.out.below a5)
    have OX_5a := Lib.hid (OX_5.out.below a5)
    have X8_5a := Lib.hid (X8_5.out.below a5)
    have OG_5a := Lib.hid (OG_5.out.below a5)
    have X9_5a := Lib.hid (show Blk2 (z5.alloc (.cells #[.slice ga gn gc, .slice gb gm gd] 27)) z5.heap.size 27 (.slice ga gn gc) (.slice gb gm gd) from Blk2.new rfl _ _ _)
    clear a5
    have x20 := X2_5a.out.at0
    have x21 := X2_5a.out.at1
    have x60 := X6_5a.out.at0
    have x61 := X6_5a.out.at1
    have x80 := X8_5a.out.at0
    have x81 := X8_5a.out.at1
    have x90 := X9_5a.out.at0
    have x91 := X9_5a.out.at1
    go_wp2_with fail
    refine (eqT_any _ _ rs rr _ OG_5a.out.reads OS_5a.out.reads HA1.out HA2.out HA4.out).mono ?_
    rintro e z6 ⟨rfl, b6⟩
    have hs6 : (z5.alloc (.cells #[.slice ga gn gc, .slice gb gm gd] 27)).heap.size ≤ z6.heap.size := b6.size
    have C6 := Lib.hid (blink C5a.out b6)
    have X2_6 := Lib.hid (X2_5a.out.below b6)
    have OS_6 := Lib.hid (OS_5a.out.below b6)
    have X6_6 := Lib.hid (X6_5a.out.below b6)
    have OX_6 := Lib.hid (OX_5a.out.below b6)
    have X8_6 := Lib.hid (X8_5a.out.below b6)
    have OG_6 := Lib.hid (OG_5a.out.below b6)
    have X9_6 := Lib.hid (X9_5a.out.below b6)
    clear x20 x21 x60 x61 x80 x81 x90 x91 b6
    obtain ⟨Y8, hY8⟩ : ∃ X, z4.heap.size = X := ⟨_, rfl⟩
    have X8_6y : Hid (Blk2 z6 Y8 27 (.slice ax S.length cx) (.slice ay R.length cy)) := Lib.hid (by rw [← hY8]; exact X8_6.out)
    have HY8 := Lib.hid hY8
    have SD : z6.drew.cell? ⟨w.heap.size, 0, none⟩ = some (.slice a len cap) ∧ z6.drew.cell? ⟨w.heap.size, 1, none⟩ = some (.slice b m c2) ∧ z6.drew.cell? ⟨Y8, 0, none⟩ = some (.slice ax S.length cx) ∧ z6.drew.cell? ⟨Y8, 1, none⟩ = some (.slice ay R.length cy) ∧ Hid (Below z6.heap.size z6 z6.drew) := ⟨X2_6.out.at0, X2_6.out.at1, X8_6y.out.at0, X8_6y.out.at1, Lib.hid (Below.refl _ _).drew⟩
    rw [hY8]
    clear hY8
    go_wp2_with fail
    go_region_held3 (fun v => v.cell? ⟨w.heap.size, 0, none⟩ = some (.slice a len cap) ∧ v.cell? ⟨w.heap.size, 1, none⟩ = some (.slice b m c2) ∧ v.cell? ⟨Y8, 0, none⟩ = some (.slice ax S.length cx) ∧ v.cell? ⟨Y8, 1, none⟩ = some (.slice ay R.length cy) ∧ Hid (Below z6.heap.size z6 v)) (first | exact SD | exact keepT2 (by assumption) (by assumption) | go_keep) (first | (go_at_call 6; refine (toT_ok _ S R _ (HT0.out.below (blink C6.out (kb2 (by assumption)))) K.out).mono ?_; rintro e z7 ⟨u3, rfl, o1, b1⟩; have O3 := Lib.hid o1.reads; clear o1) | (go_at_call 8; refine (eqT_ok _ _ S R _ (OX_6.out.reads.below (kb2 (by assumption))) O3.out K.out).mono ?_; rintro e z7 ⟨rfl, b1⟩))
    have hS : z7.cell? ⟨w.heap.size, 0, none⟩ = some (.slice a len cap) ∧ z7.cell? ⟨w.heap.size, 1, none⟩ = some (.slice b m c2) ∧ z7.cell? ⟨Y8, 0, none⟩ = some (.slice ax S.length cx) ∧ z7.cell? ⟨Y8, 1, none⟩ = some (.slice ay R.length cy) ∧ Hid (Below z6.heap.size z6 z7) := by assumption
    have b7 := kb2 hS
    have hs7 : z6.heap.size ≤ z7.heap.size := b7.size
    have C7 := Lib.hid (blink C6.out b7)
    have X2_7 := Lib.hid (X2_6.out.below b7)
    have OS_7 := Lib.hid (OS_6.out.below b7)
    have X6_7 := Lib.hid (X6_6.out.below b7)
    have OX_7 := Lib.hid (OX_6.out.below b7)
    have X8_7 := Lib.hid (X8_6.out.below b7)
    have OG_7 := Lib.hid (OG_6.out.below b7)
    have X9_7 := Lib.hid (X9_6.out.below b7)
    have X8_7y := Lib.hid (X8_6y.out.below b7)
    clear hS SD b7
    have X8_7 := X8_7y
    have hy8 := HY8.out
    have x20 := X2_7.out.at0
    have x21 := X2_7.out.at1
    have x60 := X6_7.out.at0
    have x61 := X6_7.out.at1
    have x90 := X9_7.out.at0
    have x91 := X9_7.out.at1
    have x80 := X8_7.out.at0
    have x81 := X8_7.out.at1
    go_wp2_with fail
    refine (markT_any (z3.alloc (.cells #[.slice sa sn sc, .slice sb sm sd] 27)).heap.size z4.heap.size _ S R 1 z7 OX_7.out (by omega) (by omega) (by omega) K.out.sl K.out.rl HtotR.out).mono ?_
    rintro e z8 ⟨rfl, mk8, K8⟩
    have hs8 : z7.heap.size ≤ z8.heap.size := K8.size
    have C8 := Lib.hid (kout_below C7.out K8 (by omega) (by omega))
    have X2_8 := Lib.hid (blk_out X2_7.out K8 (.inl (by omega)))
    have OS_8 := Lib.hid (OS_7.out.out K8 (.inl (by omega)))
    have X6_8 := Lib.hid (blk_out X6_7.out K8 (.inl (by omega)))
    have OG_8 := Lib.hid (OG_7.out.out K8 (.inr (by omega)))
    have X9_8 := Lib.hid (blk_out X9_7.out K8 (.inr (by omega)))
    have X8_8 := Lib.hid (blk_out X8_7.out K8 (.inr (by rw [← HY8.out]; exact Nat.le_refl _)))
    clear x20 x21 x60 x61 x90 x91 x80 x81 K8
    have x20 := X2_8.out.at0
    have x21 := X2_8.out.at1
    have x60 := X6_8.out.at0
    have x61 := X6_8.out.at1
    have x90 := X9_8.out.at0
    have x91 := X9_8.out.at1
    have x80 := X8_8.out.at0
    have x81 := X8_8.out.at1
    go_wp2_with fail
    refine (eqT_any _ _ rs rr _ OG_8.out.reads OS_8.out.reads HA1.out HA2.out HA4.out).mono ?_
    rintro e z9 ⟨rfl, b9⟩
    have hs9 : z8.heap.size ≤ z9.heap.size := b9.size
    have C9 := Lib.hid (blink C8.out b9)
    have X2_9 := Lib.hid (X2_8.out.below b9)
    have OS_9 := Lib.hid (OS_8.out.below b9)
    have X6_9 := Lib.hid (X6_8.out.below b9)
    have OG_9 := Lib.hid (OG_8.out.below b9)
    have X9_9 := Lib.hid (X9_8.out.below b9)
    have X8_9 := Lib.hid (X8_8.out.below b9)
    clear x20 x21 x60 x61 x90 x91 x80 x81 b9
    have x20 := X2_9.out.at0
    have x21 := X2_9.out.at1
    have x60 := X6_9.out.at0
    have x61 := X6_9.out.at1
    have x90 := X9_9.out.at0
    have x91 := X9_9.out.at1
    have x80 := X8_9.out.at0
    have x81 := X8_9.out.at1
    go_wp2_with fail
    refine (markT_any (z4.alloc (.cells #[.slice ax S.length cx, .slice ay R.length cy] 27)).heap.size z5.heap.size _ rs rr 1 z9 OG_9.out (by omega) (by omega) (by omega) HA1.out HA2.out HA3.out).mono ?_
    rintro e z10 ⟨rfl, mk10, K10⟩
    have hs10 : z9.heap.size ≤ z10.heap.size := K10.size
    have C10 := Lib.hid (kout_below C9.out K10 (by omega) (by omega))
    have X2_10 := Lib.hid (blk_out X2_9.out K10 (.inl (by omega)))
    have OS_10 := Lib.hid (OS_9.out.out K10 (.inl (by omega)))
    have X6_10 := Lib.hid (blk_out X6_9.out K10 (.inl (by omega)))
    have X9_10 := Lib.hid (blk_out X9_9.out K10 (.inr (by omega)))
    have X8_10 := Lib.hid (blk_out X8_9.out K10 (.inl (by omega)))
    clear x20 x21 x60 x61 x90 x91 x80 x81 K10
    have OM_10 := Lib.hid mk10
    clear mk10 mk8
    have x20 := X2_10.out.at0
    have x21 := X2_10.out.at1
    have x60 := X6_10.out.at0
    have x61 := X6_10.out.at1
    have x90 := X9_10.out.at0
    have x91 := X9_10.out.at1
    have x80 := X8_10.out.at0
    have x81 := X8_10.out.at1
    go_wp2_with fail
    refine (heldT_any _ rs rr 1 _ OM_10.out.reads (by omega) (by omega) HA1.out HA2.out HA3.out).mono ?_
    rintro e z11 ⟨rfl, b11⟩
    have hs11 : z10.heap.size ≤ z11.heap.size := b11.size
    have C11 := Lib.hid (blink C10.out b11)
    have X2_11 := Lib.hid (X2_10.out.below b11)
    have OS_11 := Lib.hid (OS_10.out.below b11)
    have X6_11 := Lib.hid (X6_10.out.below b11)
    have X9_11 := Lib.hid (X9_10.out.below b11)
    have X8_11 := Lib.hid (X8_10.out.below b11)
    have OM_11 := Lib.hid (OM_10.out.below b11)
    clear x20 x21 x60 x61 x90 x91 x80 x81 b11
    have x20 := X2_11.out.at0
    have x21 := X2_11.out.at1
    have x60 := X6_11.out.at0
    have x61 := X6_11.out.at1
    have x90 := X9_11.out.at0
    have x91 := X9_11.out.at1
    have x80 := X8_11.out.at0
    have x81 := X8_11.out.at1
    go_wp2_with fail
    refine (toT_ok _ S R _ (HT0.out.below C11.out) K.out).mono ?_
    rintro e z12 ⟨u4, rfl, o1, b12⟩
    have hs12 : z11.heap.size ≤ z12.heap.size := b12.size
    have C12 := Lib.hid (blink C11.out b12)
    have X2_12 := Lib.hid (X2_11.out.below b12)
    have OS_12 := Lib.hid (OS_11.out.below b12)
    have X6_12 := Lib.hid (X6_11.out.below b12)
    have X9_12 := Lib.hid (X9_11.out.below b12)
    have X8_12 := Lib.hid (X8_11.out.below b12)
    have OM_12 := Lib.hid (OM_11.out.below b12)
    have HU4 := Lib.hid o1.reads
    clear o1
    clear x20 x21 x60 x61 x90 x91 x80 x81 b12
    have x20 := X2_12.out.at0
    have x21 := X2_12.out.at1
    have x60 := X6_12.out.at0
    have x61 := X6_12.out.at1
    have x90 := X9_12.out.at0
    have x91 := X9_12.out.at1
    have x80 := X8_12.out.at0
    have x81 := X8_12.out.at1
    go_wp2_with fail
    refine (HI.out _ _ HU4.out).mono ?_
    rintro e z13 ⟨hv, rfl, ho, b13⟩
    have hs13 : z12.heap.size ≤ z13.heap.size := b13.size
    have C13 := Lib.hid (blink C12.out b13)
    have X2_13 := Lib.hid (X2_12.out.below b13)
    have OS_13 := Lib.hid (OS_12.out.below b13)
    have X6_13 := Lib.hid (X6_12.out.below b13)
    have X9_13 := Lib.hid (X9_12.out.below b13)
    have X8_13 := Lib.hid (X8_12.out.below b13)
    have OM_13 := Lib.hid (OM_12.out.below b13)
    obtain ⟨ka, kn, kc, kb, km, kd, rfl⟩ := td_is ho
    have OH_13 := Lib.hid ho
    clear ho HU4
    clear x20 x21 x60 x61 x90 x91 x80 x81 b13
    have a13 : Below z13.heap.size z13 (z13.alloc (.cells #[.slice ka kn kc, .slice kb km kd] 27)) := (Below.refl _ _).alloc (Nat.le_refl _) _
    have ha13 : z13.heap.size < (z13.alloc (.cells #[.slice ka kn kc, .slice kb km kd] 27)).heap.size := by simp
    have C13a := Lib.hid (blink C13.out a13)
    have X2_13a := Lib.hid (X2_13.out.below a13)
    have OS_13a := Lib.hid (OS_13.out.below a13)
    have X6_13a := Lib.hid (X6_13.out.below a13)
    have X9_13a := Lib.hid (X9_13.out.below a13)
    have X8_13a := Lib.hid (X8_13.out.below a13)
    have OM_13a := Lib.hid (OM_13.out.below a13)
    have OH_13a := Lib.hid (OH_13.out.below a13)
    have X14_13a := Lib.hid (show Blk2 (z13.alloc (.cells #[.slice ka kn kc, .slice kb km kd] 27)) z13.heap.size 27 (.slice ka kn kc) (.slice kb km kd) from Blk2.new rfl _ _ _)
    clear a13
    have x20 := X2_13a.out.at0
    have x21 := X2_13a.out.at1
    have x60 := X6_13a.out.at0
    have x61 := X6_13a.out.at1
    have x90 := X9_13a.out.at0
    have x91 := X9_13a.out.at1
    have x80 := X8_13a.out.at0
    have x81 := X8_13a.out.at1
    have x140 := X14_13a.out.at0
    have x141 := X14_13a.out.at1
    go_wp2_with fail
    refine (eqT_any _ _ rs rr _ OH_13a.out.reads OS_13a.out.reads HA1.out HA2.out HA4.out).mono ?_
    rintro e z14 ⟨rfl, b14⟩
    have hs14 : (z13.alloc (.cells #[.slice ka kn kc, .slice kb km kd] 27)).heap.size ≤ z14.heap.size := b14.size
    have C14 := Lib.hid (blink C13a.out b14)
    have X2_14 := Lib.hid (X2_13a.out.below b14)
    have OS_14 := Lib.hid (OS_13a.out.below b14)
    have X6_14 := Lib.hid (X6_13a.out.below b14)
    have X9_14 := Lib.hid (X9_13a.out.below b14)
    have X8_14 := Lib.hid (X8_13a.out.below b14)
    have OM_14 := Lib.hid (OM_13a.out.below b14)
    have OH_14 := Lib.hid (OH_13a.out.below b14)
    have X14_14 := Lib.hid (X14_13a.out.below b14)
    clear x20 x21 x60 x61 x90 x91 x80 x81 x140 x141 b14
    have x20 := X2_14.out.at0
    have x21 := X2_14.out.at1
    have x60 := X6_14.out.at0
    have x61 := X6_14.out.at1
    have x90 := X9_14.out.at0
    have x91 := X9_14.out.at1
    have x80 := X8_14.out.at0
    have x81 := X8_14.out.at1
    have x140 := X14_14.out.at0
    have x141 := X14_14.out.at1
    go_wp2_with fail
    refine (heldT_any _ rs rr 1 _ OM_14.out.reads (by omega) (by omega) HA1.out HA2.out HA3.out).mono ?_
    rintro e z15 ⟨rfl, b15⟩
    have hs15 : z14.heap.size ≤ z15.heap.size := b15.size
    have C15 := Lib.hid (blink C14.out b15)
    have X2_15 := Lib.hid (X2_14.out.below b15)
    have OS_15 := Lib.hid (OS_14.out.below b15)
    have X6_15 := Lib.hid (X6_14.out.below b15)
    have X9_15 := Lib.hid (X9_14.out.below b15)
    have X8_15 := Lib.hid (X8_14.out.below b15)
    have OM_15 := Lib.hid (OM_14.out.below b15)
    have OH_15 := Lib.hid (OH_14.out.below b15)
    have X14_15 := Lib.hid (X14_14.out.below b15)
    clear x20 x21 x60 x61 x90 x91 x80 x81 x140 x141 b15
    go_wp2_with fail
    go_ret
    exact ⟨rfl, C15.out⟩
  · have t0 : decide (szT 1048576 S R < 0) = true := by simp; omega
    go_enter Try.func3, Try.ntmps3
    go_wp2_with fail
    refine (szT_any _ S R 1048576 (by omega) (by omega) _ (HT0.out.below ((Below.refl _ _).alloc (Nat.le_refl _) _))).mono ?_
    rintro e z1 ⟨rfl, b1⟩
    go_wp2_with fail
    go_ret
    exact ⟨rfl, ((Below.refl w.heap.size w).alloc (Nat.le_refl _) _).trans (b1.mono (by simp))⟩
end Go.Proofs.Ytpneecneefeclaa.fnExactWithRise
