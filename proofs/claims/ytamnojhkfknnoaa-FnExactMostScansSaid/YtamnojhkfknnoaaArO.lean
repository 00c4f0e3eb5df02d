/-
  The arrivals that are one lane behind others.
-/
import Derived.Test.YtamnojhkfknnoaaArV
namespace Go.Proofs.Ytamnojhkfknnoaa
open Go Go.RowKit
set_option linter.unusedVariables false

/-- The hops of a net: from and to are stations, and how long they take is told. -/
def okHop (l : Lan) : Prop := (0 ≤ l.1 ∧ l.1 < 8) ∧ (0 ≤ l.2.1 ∧ l.2.1 < 8) ∧ (1 ≤ l.2.2.1 ∧ l.2.2.1 ≤ 40) ∧ (0 ≤ l.2.2.2 ∧ l.2.2.2 ≤ 80)
def OkHops (L : List Lan) : Prop := ∀ i, i < L.length → okHop (L.getD i (0, 0, 0, 0))
theorem OkHops.nats {L : List Lan} (h : OkHops L) {k : Nat} (hk : k < L.length) : ∃ f t a b : Nat, L.getD k (0, 0, 0, 0) = ((f : Int), (t : Int), (a : Int), (b : Int)) ∧ f < 8 ∧ t < 8 ∧ (1 ≤ a ∧ a ≤ 40) ∧ b ≤ 80 := by
  have h2 := h k hk
  obtain ⟨q, hq⟩ : ∃ q, L.getD k (0, 0, 0, 0) = q := ⟨_, rfl⟩
  rw [hq] at h2
  obtain ⟨x0, x1, x2, x3⟩ := q
  unfold okHop at h2
  simp only at h2
  exact ⟨x0.toNat, x1.toNat, x2.toNat, x3.toNat, by rw [hq]; simp only [Prod.mk.injEq]; omega, by omega, by omega, by omega, by omega⟩
def onwK (L : List Lan) (T : List Nat) : Nat → List Nat
  | 0 => t0
  | k + 1 => (onwK L T k).set (L.getD k (0, 0, 0, 0)).2.1.toNat ((onwK L T k).getD (L.getD k (0, 0, 0, 0)).2.1.toNat 0 ||| mvK (T.getD (L.getD k (0, 0, 0, 0)).1.toNat 0) (L.getD k (0, 0, 0, 0)).2.2.1.toNat ((L.getD k (0, 0, 0, 0)).2.2.2.toNat + 1))
theorem onwK_ok {L : List Lan} {T : List Nat} (hT : TOk T) (k : Nat) : TOk (onwK L T k) := by
  induction k with
  | zero => exact t0_ok
  | succ k ih => exact ih.set (Nat.or_lt_two_pow (ih.lt _) (mvK_lt (hT.lt _) _ _))
def onw (L : List Lan) (T : List Nat) : List Nat := onwK L T L.length
theorem onw_ok {L : List Lan} {T : List Nat} (hT : TOk T) : TOk (onw L T) := onwK_ok hT L.length
theorem bx_op5 {P : Program} {id : Nat} {o0 o1 o2 o3 o4 o5 : Oper} {rest : List Oper} {Q : Exit → Act → World → Prop} {a : Act} {w : World}
    (h : (Code.region id (List.toArray (o0 :: o1 :: o2 :: o3 :: o4 :: OpBx o5 :: rest)) true).wp P Q a w) : (Code.region id (List.toArray (o0 :: o1 :: o2 :: o3 :: o4 :: o5 :: rest)) true).wp P Q a w := h

set_option maxHeartbeats 8000000 in
set_option maxRecDepth 100000 in
theorem ionward_any (v : Value) (L : List Lan) (T : List Nat) (hT : TOk T) (hL : OkHops L) (hn : L.length ≤ 1048576) (w : World) (hv : ReadsLa w v L) :
    Calls Try.prog 43 #[v, tv T] w fun e w' => e = .returned (tv (onw L T)) ∧ Below w.heap.size w w' := by
  obtain ⟨av, cap, rfl, hav⟩ := hv
  have HA := Lib.hid hav
  have hb0 : Below w.heap.size w (((w.alloc (.cells (tw T) 94)).alloc (.cells (tw t0) 94)).alloc (.cells (tw t0) 94)) := (((Below.refl _ _).alloc (Nat.le_refl _) _).alloc (by simp) _).alloc (by simp; omega) _
  have BX : BlkT (((w.alloc (.cells (tw T) 94)).alloc (.cells (tw t0) 94)).alloc (.cells (tw t0) 94)) w.heap.size T := ((BlkA.new rfl _ _).alloc _).alloc _
  have BR : BlkT (((w.alloc (.cells (tw T) 94)).alloc (.cells (tw t0) 94)).alloc (.cells (tw t0) 94)) (w.heap.size + 1) t0 := (BlkA.new (by simp) _ _).alloc _
  have BN : BlkT (((w.alloc (.cells (tw T) 94)).alloc (.cells (tw t0) 94)).alloc (.cells (tw t0) 94)) (w.heap.size + 1 + 1) t0 := BlkA.new (by simp) _ _
  rw [tw_zero] at hb0 BX BR BN
  have HT := Lib.hid hT
  have HL := Lib.hid hL
  have HL0 : Hid (t0.length = 8) := Lib.hid t0_ok.len
  have HLT := Lib.hid hT.len
  have HB1 := Lib.hid hb0
  have HX1 := Lib.hid BX
  have HR1 := Lib.hid BR
  have HN1 := Lib.hid BN
  obtain ⟨len, hlen⟩ : ∃ m, L.length = m := ⟨_, rfl⟩
  have HM := Lib.hid hlen
  rw [hlen] at hn ⊢
  clear hT hL hav hlen hb0 BX BR BN
  go_enter Try.func43, Try.ntmps43
  go_wp2_with fail
  obtain ⟨W1, hW⟩ : ∃ W, (((w.alloc (.cells (tw T) 94)).alloc (.cells (tw t0) 94)).alloc (.cells (tw t0) 94)) = W := ⟨_, rfl⟩
  rw [tw_zero] at hW
  rw [hW] at HB1 HX1 HR1 HN1 ⊢
  clear hW
  go_loopw [10] (fun i wr => ∃ k : Nat, k ≤ len ∧ i = .int .i64 k ∧ BlkT wr w.heap.size T ∧ BlkT wr (w.heap.size + 1) t0 ∧ BlkT wr (w.heap.size + 1 + 1) (onwK L T k) ∧ Below w.heap.size w wr) (fun i _ => len - (intOf i).toNat)
  case atStart => exact ⟨0, Nat.zero_le _, rfl, HX1.out, HR1.out, HN1.out, HB1.out⟩
  case round =>
    obtain ⟨k, hk, rfl, bx, br, bn, hnx⟩ := hrel
    have HX := Lib.hid bx
    have HR := Lib.hid br
    have HNB := Lib.hid bn
    have HN := Lib.hid hnx
    have hww : w.heap.size ≤ wr.heap.size := hnx.size
    have hw2 : w.heap.size + 1 + 1 < wr.heap.size := BlkA.lt bn
    clear bx br bn hnx
    by_cases hlt : k < len
    · obtain ⟨bb, rfl, hc⟩ := HA.out (by intro e; have := HM.out; rw [e] at this; simp at this; omega)
      obtain ⟨q0, q1, q2, q3⟩ := (hc.below HN.out) k (by rw [HM.out]; exact hlt)
      obtain ⟨f, t, a, b, hq, hf8, ht8, ha40, hb80⟩ := HL.out.nats (k := k) (by rw [HM.out]; exact hlt)
      have HLK : Hid ((onwK L T k).length = 8) := Lib.hid (onwK_ok HT.out k).len
      have HS : Hid (onwK L T (k + 1) = (onwK L T k).set t ((onwK L T k).getD t 0 ||| mvK (T.getD f 0) a (b + 1))) := Lib.hid (by rw [onwK, hq]; rfl)
      rw [hq] at q0 q1 q2 q3
      simp only at q0 q1 q2 q3
      obtain ⟨R, hR⟩ : ∃ R, onwK L T k = R := ⟨_, rfl⟩
      rw [hR] at HNB HLK HS
      obtain ⟨M, hM⟩ : ∃ M, R.getD t 0 = M := ⟨_, rfl⟩
      obtain ⟨N, hN⟩ : ∃ N, T.getD f 0 = N := ⟨_, rfl⟩
      have hNlt : N < 2 ^ room := by rw [← hN]; exact HT.out.lt f
      have HNLT := Lib.hid hNlt
      obtain ⟨P, hP⟩ : ∃ P, mvK N a (b + 1) = P := ⟨_, rfl⟩
      rw [hM, hN, hP] at HS
      have HCALLM : Hid (∀ W, Calls Try.prog 64 #[hv N, .func (.func 65) #[] #[], .int .i16 (a : Int), .int .i16 (b : Int)] W fun e w' => e = .returned (hv P) ∧ Below W.heap.size W w') := Lib.hid (fun W => by rw [← hP]; exact imoved_any N a b HNLT.out (by omega) (by omega) W)
      have HCELL : Hid (∀ W, BlkT W w.heap.size T → W.cell? ⟨w.heap.size, f * 5, none⟩ = some (.int .u64 (wd N 0 : Nat)) ∧ W.cell? ⟨w.heap.size, f * 5 + 1, none⟩ = some (.int .u64 (wd N 1 : Nat)) ∧ W.cell? ⟨w.heap.size, f * 5 + 2, none⟩ = some (.int .u64 (wd N 2 : Nat)) ∧ W.cell? ⟨w.heap.size, f * 5 + 3, none⟩ = some (.int .u64 (wd N 3 : Nat)) ∧ W.cell? ⟨w.heap.size, f * 5 + 4, none⟩ = some (.int .u64 (wd N 4 : Nat))) := Lib.hid (fun W hb => by have := hb.cells f (by rw [HLT.out]; exact hf8); rw [hN] at this; exact this)
      have HCEN : Hid (∀ W, BlkT W (w.heap.size + 1 + 1) R → W.cell? ⟨w.heap.size + 1 + 1, t * 5, none⟩ = some (.int .u64 (wd M 0 : Nat)) ∧ W.cell? ⟨w.heap.size + 1 + 1, t * 5 + 1, none⟩ = some (.int .u64 (wd M 1 : Nat)) ∧ W.cell? ⟨w.heap.size + 1 + 1, t * 5 + 2, none⟩ = some (.int .u64 (wd M 2 : Nat)) ∧ W.cell? ⟨w.heap.size + 1 + 1, t * 5 + 3, none⟩ = some (.int .u64 (wd M 3 : Nat)) ∧ W.cell? ⟨w.heap.size + 1 + 1, t * 5 + 4, none⟩ = some (.int .u64 (wd M 4 : Nat))) := Lib.hid (fun W hb => by have := hb.cells t (by rw [HLK.out]; exact ht8); rw [hM] at this; exact this)
      obtain ⟨W1, hW1⟩ : ∃ W, wr.alloc (.cells #[.int .i8 (f : Int), .int .i8 (t : Int), .int .i16 (a : Int), .int .i16 (b : Int)] 105) = W := ⟨_, rfl⟩
      have X0 : BlkT W1.drew w.heap.size T := by rw [← hW1]; exact BlkA.drew (BlkA.alloc HX.out _)
      have N0 : BlkT W1.drew (w.heap.size + 1 + 1) R := by rw [← hW1]; exact BlkA.drew (BlkA.alloc HNB.out _)
      have H0 : BlkA W1.drew wr.heap.size 105 #[.int .i8 (f : Int), .int .i8 (t : Int), .int .i16 (a : Int), .int .i16 (b : Int)] := by rw [← hW1]; exact BlkA.drew (BlkA.new rfl _ _)
      have K0 : Below wr.heap.size wr W1.drew := by rw [← hW1]; exact ((Below.refl _ _).alloc (Nat.le_refl _) _).drew
      have HX0 := Lib.hid X0
      have HN0 := Lib.hid N0
      have HH0 := Lib.hid H0
      obtain ⟨y0, y1, y2, y3, y4⟩ := HCELL.out _ X0
      have SD : W1.drew.cell? ⟨wr.heap.size, 0, none⟩ = some (.int .i8 (f : Int)) ∧ W1.drew.cell? ⟨wr.heap.size, 1, none⟩ = some (.int .i8 (t : Int)) ∧ W1.drew.cell? ⟨wr.heap.size, 2, none⟩ = some (.int .i16 (a : Int)) ∧ W1.drew.cell? ⟨wr.heap.size, 3, none⟩ = some (.int .i16 (b : Int)) ∧ W1.drew.cell? ⟨w.heap.size, f * 5, none⟩ = some (.int .u64 (wd N 0 : Nat)) ∧ W1.drew.cell? ⟨w.heap.size, f * 5 + 1, none⟩ = some (.int .u64 (wd N 1 : Nat)) ∧ W1.drew.cell? ⟨w.heap.size, f * 5 + 2, none⟩ = some (.int .u64 (wd N 2 : Nat)) ∧ W1.drew.cell? ⟨w.heap.size, f * 5 + 3, none⟩ = some (.int .u64 (wd N 3 : Nat)) ∧ W1.drew.cell? ⟨w.heap.size, f * 5 + 4, none⟩ = some (.int .u64 (wd N 4 : Nat)) := ⟨H0.at 0, H0.at 1, H0.at 2, H0.at 3, y0, y1, y2, y3, y4⟩
      obtain ⟨c0, c1, c2, c3, c4⟩ := HCEN.out _ N0
      have HW1 := Lib.hid hW1
      have hkl : (k : Int) < (len : Int) := by omega
      have hk0 : (0 : Int) ≤ (k : Int) := by omega
      have hf8' : (f : Int) < 8 := by omega
      have ht8' : (t : Int) < 8 := by omega
      have hf0 : (0 : Int) ≤ (f : Int) := by omega
      have ht0 : (0 : Int) ≤ (t : Int) := by omega
      clear hR hM hN hP hW1 X0 H0 N0 y0 y1 y2 y3 y4 hq hc hNlt
      go_wp2_with fail
      rw [HW1.out]
      clear q0 q1 q2 q3
      refine bx_op5 ?_
      go_region_held3 (fun v => v.cell? ⟨wr.heap.size, 0, none⟩ = some (.int .i8 (f : Int)) ∧ v.cell? ⟨wr.heap.size, 1, none⟩ = some (.int .i8 (t : Int)) ∧ v.cell? ⟨wr.heap.size, 2, none⟩ = some (.int .i16 (a : Int)) ∧ v.cell? ⟨wr.heap.size, 3, none⟩ = some (.int .i16 (b : Int)) ∧ v.cell? ⟨w.heap.size, f * 5, none⟩ = some (.int .u64 (wd N 0 : Nat)) ∧ v.cell? ⟨w.heap.size, f * 5 + 1, none⟩ = some (.int .u64 (wd N 1 : Nat)) ∧ v.cell? ⟨w.heap.size, f * 5 + 2, none⟩ = some (.int .u64 (wd N 2 : Nat)) ∧ v.cell? ⟨w.heap.size, f * 5 + 3, none⟩ = some (.int .u64 (wd N 3 : Nat)) ∧ v.cell? ⟨w.heap.size, f * 5 + 4, none⟩ = some (.int .u64 (wd N 4 : Nat))) (first | (with_reducible exact SD) | (with_reducible exact zS1) | (with_reducible exact zS2) | (obtain ⟨y0, y1, y2, y3, y4⟩ := HCELL.out _ (BlkA.other5 (C := w.heap.size + 1 + 1) (s := t) X2 (by omega) (.int .u64 (wd (M ||| P) 0 : Nat)) (.int .u64 (wd (M ||| P) 1 : Nat)) (.int .u64 (wd (M ||| P) 2 : Nat)) (.int .u64 (wd (M ||| P) 3 : Nat)) (.int .u64 (wd (M ||| P) 4 : Nat))); have hh := BlkA.other5 (C := w.heap.size + 1 + 1) (s := t) H2 (by omega) (.int .u64 (wd (M ||| P) 0 : Nat)) (.int .u64 (wd (M ||| P) 1 : Nat)) (.int .u64 (wd (M ||| P) 2 : Nat)) (.int .u64 (wd (M ||| P) 3 : Nat)) (.int .u64 (wd (M ||| P) 4 : Nat)); exact ⟨hh.at 0, hh.at 1, hh.at 2, hh.at 3, y0, y1, y2, y3, y4⟩)) (first | (go_at_call 64; (with_reducible refine (HCALLM.out _).mono ?_); rintro e w5 ⟨rfl, d1⟩; have X1 : BlkT w5 w.heap.size T := BlkA.below HX0.out d1; have N1 : BlkT w5 (w.heap.size + 1 + 1) R := BlkA.below HN0.out d1; have H1 := HH0.out.below d1; obtain ⟨y0, y1, y2, y3, y4⟩ := HCELL.out _ X1; have zS1 : w5.cell? ⟨wr.heap.size, 0, none⟩ = some (.int .i8 (f : Int)) ∧ w5.cell? ⟨wr.heap.size, 1, none⟩ = some (.int .i8 (t : Int)) ∧ w5.cell? ⟨wr.heap.size, 2, none⟩ = some (.int .i16 (a : Int)) ∧ w5.cell? ⟨wr.heap.size, 3, none⟩ = some (.int .i16 (b : Int)) ∧ w5.cell? ⟨w.heap.size, f * 5, none⟩ = some (.int .u64 (wd N 0 : Nat)) ∧ w5.cell? ⟨w.heap.size, f * 5 + 1, none⟩ = some (.int .u64 (wd N 1 : Nat)) ∧ w5.cell? ⟨w.heap.size, f * 5 + 2, none⟩ = some (.int .u64 (wd N 2 : Nat)) ∧ w5.cell? ⟨w.heap.size, f * 5 + 3, none⟩ = some (.int .u64 (wd N 3 : Nat)) ∧ w5.cell? ⟨w.heap.size, f * 5 + 4, none⟩ = some (.int .u64 (wd N 4 : Nat)) := ⟨H1.at 0, H1.at 1, H1.at 2, H1.at 3, y0, y1, y2, y3, y4⟩; have K1 := blink K0 d1; obtain ⟨g0, g1, g2, g3, g4⟩ := HCEN.out _ N1) | (go_at_call 63; (with_reducible refine (ior_any M P _).mono ?_); rintro e w6 ⟨rfl, d2⟩; have X2 : BlkT w6 w.heap.size T := BlkA.below X1 d2; have N2 : BlkT w6 (w.heap.size + 1 + 1) R := BlkA.below N1 d2; have H2 := H1.below d2; obtain ⟨y0, y1, y2, y3, y4⟩ := HCELL.out _ X2; have zS2 : w6.cell? ⟨wr.heap.size, 0, none⟩ = some (.int .i8 (f : Int)) ∧ w6.cell? ⟨wr.heap.size, 1, none⟩ = some (.int .i8 (t : Int)) ∧ w6.cell? ⟨wr.heap.size, 2, none⟩ = some (.int .i16 (a : Int)) ∧ w6.cell? ⟨wr.heap.size, 3, none⟩ = some (.int .i16 (b : Int)) ∧ w6.cell? ⟨w.heap.size, f * 5, none⟩ = some (.int .u64 (wd N 0 : Nat)) ∧ w6.cell? ⟨w.heap.size, f * 5 + 1, none⟩ = some (.int .u64 (wd N 1 : Nat)) ∧ w6.cell? ⟨w.heap.size, f * 5 + 2, none⟩ = some (.int .u64 (wd N 2 : Nat)) ∧ w6.cell? ⟨w.heap.size, f * 5 + 3, none⟩ = some (.int .u64 (wd N 3 : Nat)) ∧ w6.cell? ⟨w.heap.size, f * 5 + 4, none⟩ = some (.int .u64 (wd N 4 : Nat)) := ⟨H2.at 0, H2.at 1, H2.at 2, H2.at 3, y0, y1, y2, y3, y4⟩; have K2 := blink K1 d2; obtain ⟨e0, e1, e2, e3, e4⟩ := HCEN.out _ N2; have f0 := BlkA.frozen N2 (t * 5); have f1 := BlkA.frozen N2 (t * 5 + 1); have f2 := BlkA.frozen N2 (t * 5 + 2); have f3 := BlkA.frozen N2 (t * 5 + 3); have f4 := BlkA.frozen N2 (t * 5 + 4)))
      all_goals
        have N3 := N2.store t (M ||| P) (by rw [HLK.out]; exact ht8)
        have X3 : BlkT (((((w6.setCell ⟨w.heap.size + 1 + 1, t * 5, none⟩ (.int .u64 (wd (M ||| P) 0 : Nat))).setCell ⟨w.heap.size + 1 + 1, t * 5 + 1, none⟩ (.int .u64 (wd (M ||| P) 1 : Nat))).setCell ⟨w.heap.size + 1 + 1, t * 5 + 2, none⟩ (.int .u64 (wd (M ||| P) 2 : Nat))).setCell ⟨w.heap.size + 1 + 1, t * 5 + 3, none⟩ (.int .u64 (wd (M ||| P) 3 : Nat))).setCell ⟨w.heap.size + 1 + 1, t * 5 + 4, none⟩ (.int .u64 (wd (M ||| P) 4 : Nat))) w.heap.size T := BlkA.other5 X2 (by omega) _ _ _ _ _
        have R3 : BlkT (((((w6.setCell ⟨w.heap.size + 1 + 1, t * 5, none⟩ (.int .u64 (wd (M ||| P) 0 : Nat))).setCell ⟨w.heap.size + 1 + 1, t * 5 + 1, none⟩ (.int .u64 (wd (M ||| P) 1 : Nat))).setCell ⟨w.heap.size + 1 + 1, t * 5 + 2, none⟩ (.int .u64 (wd (M ||| P) 2 : Nat))).setCell ⟨w.heap.size + 1 + 1, t * 5 + 3, none⟩ (.int .u64 (wd (M ||| P) 3 : Nat))).setCell ⟨w.heap.size + 1 + 1, t * 5 + 4, none⟩ (.int .u64 (wd (M ||| P) 4 : Nat))) (w.heap.size + 1) t0 := BlkA.other5 (BlkA.below HR.out K2) (by omega) _ _ _ _ _
        have K3 : Below w.heap.size w (((((w6.setCell ⟨w.heap.size + 1 + 1, t * 5, none⟩ (.int .u64 (wd (M ||| P) 0 : Nat))).setCell ⟨w.heap.size + 1 + 1, t * 5 + 1, none⟩ (.int .u64 (wd (M ||| P) 1 : Nat))).setCell ⟨w.heap.size + 1 + 1, t * 5 + 2, none⟩ (.int .u64 (wd (M ||| P) 2 : Nat))).setCell ⟨w.heap.size + 1 + 1, t * 5 + 3, none⟩ (.int .u64 (wd (M ||| P) 3 : Nat))).setCell ⟨w.heap.size + 1 + 1, t * 5 + 4, none⟩ (.int .u64 (wd (M ||| P) 4 : Nat))) := below_set5 (HN.out.trans (K2.mono hww)) (by omega) _ _ _ _ _
        have HN3 := Lib.hid N3
        have HX3 := Lib.hid X3
        have HR3 := Lib.hid R3
        have HK3 := Lib.hid K3
        clear N3 X3 R3 K3 X1 X2 N1 N2 H1 H2 K1 K2 d1 d2 g0 g1 g2 g3 g4 e0 e1 e2 e3 e4 f0 f1 f2 f3 f4
        generalize (((((w6.setCell ⟨w.heap.size + 1 + 1, t * 5, none⟩ (.int .u64 (wd (M ||| P) 0 : Nat))).setCell ⟨w.heap.size + 1 + 1, t * 5 + 1, none⟩ (.int .u64 (wd (M ||| P) 1 : Nat))).setCell ⟨w.heap.size + 1 + 1, t * 5 + 2, none⟩ (.int .u64 (wd (M ||| P) 2 : Nat))).setCell ⟨w.heap.size + 1 + 1, t * 5 + 3, none⟩ (.int .u64 (wd (M ||| P) 3 : Nat))).setCell ⟨w.heap.size + 1 + 1, t * 5 + 4, none⟩ (.int .u64 (wd (M ||| P) 4 : Nat))) = WZ at HN3 HX3 HR3 HK3 ⊢
        go_wp2_with fail
        go_roundw
        case rel => exact ⟨k + 1, by omega, by go_num, HX3.out, HR3.out, by rw [HS.out]; exact HN3.out, HK3.out⟩
        case measure => simp [intOf]; omega
    · have hk' : k = len := by omega
      obtain ⟨R8, hR8⟩ : ∃ R, onw L T = R := ⟨_, rfl⟩
      have HR8 := Lib.hid hR8
      have HTO : Hid (R8.length = 8) := Lib.hid (by rw [← hR8]; exact (onw_ok HT.out).len)
      have HX8 : Hid (BlkT wr (w.heap.size + 1 + 1) R8) := Lib.hid (by rw [← hR8, onw, HM.out, ← hk']; exact HNB.out)
      clear hR8 HNB hk'
      go_wp2_with (first
        | (refine wpList_load_row (o := ⟨some 32, _, _, _, _, _⟩) rfl 94 (.tmp 5) rfl (w.heap.size + 1 + 1) rfl 94 _ (0, 0) _ HX8.out (show Try.prog.underlying 94 = some (.array 8 92) by kernel_rfl) rfl (tw_info HTO.out) ?_)
        | (refine wpList_store_row (o := ⟨none, _, _, _, _, _⟩) rfl 94 (.tmp 4) (.tmp 32) rfl (w.heap.size + 1) (tw R8) rfl rfl 94 _ HR.out (tw_info HTO.out) (by rw [tw_size, tw_size, HTO.out, HL0.out]) (tw_ones _) ?_))
      refine bodyPost_ret (v := tv R8) ?_ rfl ⟨by rw [HR8.out], below_setRowT HN.out (by omega)⟩
      exact results_cell_row Try.results43 _ _ (w.heap.size + 1) 94 _ (0, 0) _ rfl (setRow_heapT _ _ _ _ _ _ HR.out) (show Try.prog.underlying 94 = some (.array 8 92) by kernel_rfl) rfl (tw_info HTO.out)
end Go.Proofs.Ytamnojhkfknnoaa
