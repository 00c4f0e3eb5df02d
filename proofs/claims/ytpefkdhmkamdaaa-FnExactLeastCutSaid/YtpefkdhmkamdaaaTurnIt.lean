/-
  The iterator of turns, told by what it hands over.
-/
import Derived.Test.YtpefkdhmkamdaaaTurns
import Derived.Test.YtpefkdhmkamdaaaSides
namespace Go.Proofs.Ytpefkdhmkamdaaa
open Go Go.RowKit Go.Shelf
set_option linter.unusedVariables false
attribute [local go_sem] Oper.semAt_some

def encT (x : Turn) : Array Value := #[.agg #[.int .i8 x.1.1, .int .i8 x.1.2.1, .int .i8 x.1.2.2]]
theorem grown_of_below {w w' : World} (h : Below w.heap.size w w') (row : Option Nat) : w.grownBy w' row := ⟨h.os, h.tape, h.output, h.size, fun k hk _ => h.block k hk⟩
/-- How far a triple of cells has come. -/
def rankW (w : World) (B : Nat) : Int := intOf ((w.cell? ⟨B, 0, none⟩).getD undef) * 100000 + intOf ((w.cell? ⟨B, 1, none⟩).getD undef) * 300 + intOf ((w.cell? ⟨B, 2, none⟩).getD undef)
theorem grown_cell (w : World) (p : Addr) (u : Value) : w.grownBy (w.setCell p u) (some p.block) :=
  ⟨rfl, rfl, rfl, by simp [World.setCell], fun k _ hne => heap_setCell_other w p k u (fun e => hne (by rw [e]))⟩
theorem grown_trans {a b c : World} {row : Option Nat} (h : a.grownBy b row) (k : b.grownBy c row) : a.grownBy c row :=
  ⟨k.os.trans h.os, k.tape.trans h.tape, k.output.trans h.output, Nat.le_trans h.size k.size, fun i hi hne => (k.block i (Nat.lt_of_lt_of_le hi h.size) hne).trans (h.block i hi hne)⟩
theorem rankW_of {w : World} {B : Nat} {a b c : Int} (h : At3 w B a b c) : rankW w B = rankT (a, b, c) := by
  unfold rankW rankT
  rw [h.1, h.2.1, h.2.2]
  rfl

set_option maxRecDepth 100000 in
set_option maxHeartbeats 800000 in
theorem turn1_in (n : Nat) (hn : 3 ≤ n) (l Bs : Nat) (a b c : Int) (hok : okB a b c = true) (J : List Turn → World → Prop) (W : World) (hJ : UpFrom W.heap.size J)
    (hY : ∀ pre x W1, J pre W1 → pre.length < 6 → YieldAt Fence.wide (n - 1) Try.prog l (encT x) W1 fun e W' => e = .returned (.bool true) ∧ J (pre ++ [x]) W' ∧ KeepsUp W.heap.size W1 W')
    (hBs : At3 W Bs a b c) (h0 : J [] W) :
    CallsIn Fence.wide n Try.prog 34 #[.func (.yield l) #[] #[], .pointer (some ⟨Bs, 0, none⟩)] W fun e W' => (∃ v, e = .returned v) ∧ ∃ xs, xs.map (fun t : Turn => t.1) = turnsL (lo3 a b c) (mi3 a b c) (hi3 a b c) ∧ J xs W' := by
  have hn1 : 1 ≤ n := by omega
  have hro : Fence.wide.round = none := rfl
  have hFF : ∀ f, Fence.wide.fn f := fun _ => trivial
  have g0 := hBs.1
  have g1 := hBs.2.1
  have g2 := hBs.2.2
  obtain ⟨x, hx⟩ : ∃ x, lo3 a b c = x := ⟨_, rfl⟩
  obtain ⟨y, hy⟩ : ∃ y, mi3 a b c = y := ⟨_, rfl⟩
  obtain ⟨z, hz⟩ : ∃ z, hi3 a b c = z := ⟨_, rfl⟩
  have hord := ord3 a b c
  have hbd := of_decide_eq_true hok
  rw [hx, hy, hz] at hord ⊢
  rw [hx, hz] at hbd
  have hasc := (callsIn_wide (n := n - 1)).2 (asc_any a b c W)
  rw [hx, hy, hz] at hasc
  have HASC := Lib.hid hasc
  have HJ := Lib.hid hJ
  have HY := Lib.hid hY
  have H0 := Lib.hid h0
  have HORD := Lib.hid hord
  have HBD := Lib.hid hbd
  clear hasc hJ hY h0 hBs hok hx hy hz hord hbd
  refine callsIn_of_wp Try.func34 rfl (hFF _) ?_ hro
  simp only [Try.ntmps34, List.size_toArray, List.length_cons, List.length_nil, Nat.reduceAdd, Nat.reduceSub, Array.replicate_succ, Array.replicate_zero, List.push_toArray, List.append_toArray, List.nil_append, List.cons_append]
  gi_wp2
  refine HASC.out.mono ?_
  rintro e W1 ⟨rfl, b1⟩
  obtain ⟨W2, e2⟩ : ∃ V, W1.alloc (.cells #[.int .i8 x, .int .i8 y, .int .i8 z] 55) = V := ⟨_, rfl⟩
  have s2 : W2.heap.size = W1.heap.size + 1 := by rw [← e2]; simp
  have k2 : Blk3 W2 W1.heap.size 55 x y z := by rw [← e2]; exact Blk3.new _ _ _ _ _
  obtain ⟨W3, e3⟩ : ∃ V, W2.alloc (.cells #[.int .i8 z, .int .i8 y, .int .i8 x] 55) = V := ⟨_, rfl⟩
  have k3 : Blk3 W3 W1.heap.size 55 x y z := by rw [← e3]; exact k2.alloc _
  have l3 : Blk3 W3 (W1.heap.size + 1) 55 z y x := by rw [← e3, ← s2]; exact Blk3.new _ _ _ _ _
  have hs1 : W.heap.size ≤ W1.heap.size := b1.size
  have b3 : Below W.heap.size W W3 := by rw [← e3]; refine Below.alloc ?_ (by omega) _; rw [← e2]; exact b1.alloc hs1 _
  have J3 : J [] W3 := HJ.out [] W W3 none H0.out (grown_of_below b3 none) (fun r e => by cases e)
  have E2 := Lib.hid e2
  have E3 := Lib.hid e3
  have B3 := Lib.hid b3
  have HJ3 := Lib.hid J3
  have K3 := Lib.hid k3
  have L3 := Lib.hid l3
  clear e2 e3 s2 k2 k3 l3 b3 J3 b1
  gi_wp2
  rw [E2.out, E3.out]
  gi_loopw [] (fun wr => ∃ (k : Nat) (pre : List Turn), k < (turnsL x y z).length ∧ pre.map (fun t : Turn => t.1) = (turnsL x y z).take k ∧ J pre wr ∧ Blk3 wr W1.heap.size 55 ((turnsL x y z).getD k (0, 0, 0)).1 ((turnsL x y z).getD k (0, 0, 0)).2.1 ((turnsL x y z).getD k (0, 0, 0)).2.2 ∧ Blk3 wr (W1.heap.size + 1) 55 z y x)
    (fun wr => (100000000 - rankW wr W1.heap.size).toNat)
  case atStart => exact ⟨0, [], (turnsL_len x y z).1, rfl, HJ3.out, by rw [turnsL_first]; exact K3.out, L3.out⟩
  case round =>
    obtain ⟨k, pre, hk, hpre, hJp, hb, hl⟩ := hrel
    have hlen := turnsL_len x y z
    have hokT := turnsL_ok (x := x) (y := y) (z := z) (by have := HBD.out; omega) HORD.out.1 HORD.out.2 HBD.out.2
    have htk : (turnsL x y z).getD k (0, 0, 0) ∈ turnsL x y z := by
      rw [List.getD, List.getElem?_eq_getElem hk]; exact List.getElem_mem hk
    have hsucc : (turnsL x y z).take (k + 1) = (turnsL x y z).take k ++ [(turnsL x y z).getD k (0, 0, 0)] := by
      rw [List.take_succ_eq_append_getElem hk, List.getD, List.getElem?_eq_getElem hk]; rfl
    have hpl : pre.length < 6 := by
      have h := congrArg List.length hpre
      rw [List.length_map, List.length_take] at h
      omega
    have hot := hokT _ htk
    have hstep := fun h => turnsL_step HORD.out.1 HORD.out.2 (by have := HBD.out; omega) HBD.out.2 k h
    have hlast := turnsL_last x y z k
    obtain ⟨t, ht⟩ : ∃ t, (turnsL x y z).getD k (0, 0, 0) = t := ⟨_, rfl⟩
    rw [ht] at hb hot hsucc hstep hlast
    obtain ⟨fn, tmps, assign, body, hyl, hR⟩ := HY.out pre ⟨t, hot⟩ wr hJp hpl
    have hrank := rankW_of hb.at3
    obtain ⟨p, q, r⟩ := t
    unfold encT at hyl
    simp only at hyl hb hrank
    have hmap : (pre ++ [(⟨(p, q, r), hot⟩ : Turn)]).map (fun t : Turn => t.1) = (turnsL x y z).take (k + 1) := by rw [List.map_append, hpre, hsucc]; rfl
    obtain ⟨ys, hys⟩ : ∃ ys, pre ++ [(⟨(p, q, r), hot⟩ : Turn)] = ys := ⟨_, rfl⟩
    rw [hys] at hR hmap
    have c0 := hb.at3.1
    have c1 := hb.at3.2.1
    have c2 := hb.at3.2.2
    have HM := Lib.hid hmap
    have HB := Lib.hid hb
    have HL := Lib.hid hl
    have HS := Lib.hid hstep
    have HLA := Lib.hid hlast
    have HRK := Lib.hid hrank
    have HRB : Hid (rankT (p, q, r) < 100000000) := Lib.hid (by unfold OkT at hot; unfold rankT; simp only at hot ⊢; omega)
    clear hmap hb hl hstep hlast hrank hokT htk hsucc hpre ht hJp hlen hpl hys hot
    gi_wp2
    refine hR.mono ?_
    rintro e W4 ⟨rfl, hJ4, hk4⟩
    have kb4 : Blk3 W4 W1.heap.size 55 p q r := hk4.same _ _ hs1 HB.out
    have kl4 : Blk3 W4 (W1.heap.size + 1) 55 z y x := hk4.same _ _ (by omega) HL.out
    have c0 := kb4.at3.1
    have c1 := kb4.at3.2.1
    have c2 := kb4.at3.2.2
    have d0 := kl4.at3.1
    have d1 := kl4.at3.2.1
    have d2 := kl4.at3.2.2
    have f0 := kb4.frozen 0
    have f1 := kb4.frozen 1
    have f2 := kb4.frozen 2
    have KB4 := Lib.hid kb4
    have KL4 := Lib.hid kl4
    have HJ4 := Lib.hid hJ4
    clear kb4 kl4 hJ4 hk4 hyl hR
    by_cases hend : k + 1 = (turnsL x y z).length
    · have hl2 := HLA.out hend
      simp only [Prod.mk.injEq] at hl2
      have HXS : Hid (ys.map (fun t : Turn => t.1) = turnsL x y z) := Lib.hid (by rw [HM.out, hend, List.take_length])
      rw [hl2.1] at c0
      rw [hl2.2.1] at c1
      rw [hl2.2.2] at c2
      have hgd := guard_sides
      have heq := eq_sides z y x z y x W4
      simp only [beq_self_eq_true, Bool.and_self] at heq
      clear hend hk hl2
      gi_wp2
      go_end0
      exact ⟨⟨_, rfl⟩, _, HXS.out, HJ4.out⟩
    · obtain ⟨hn1, hne, hrk⟩ := HS.out (by omega)
      have hk' : k + 1 < (turnsL x y z).length := by omega
      have hnx := (callsIn_wide (n := n - 1)).2 (inext_any (p, q, r) W4)
      rw [hn1] at hnx
      obtain ⟨t', ht'⟩ : ∃ t', (turnsL x y z).getD (k + 1) (0, 0, 0) = t' := ⟨_, rfl⟩
      rw [ht'] at hnx hrk
      obtain ⟨p', q', r'⟩ := t'
      simp only at hnx
      have HNX := Lib.hid hnx
      have HRK2 := Lib.hid hrk
      have HT' := Lib.hid ht'
      have hne3 : ¬ p = z ∨ ¬ q = y ∨ ¬ r = x := by
        refine Classical.byContradiction fun h => hne ?_
        have h1 : p = z := Classical.byContradiction fun g => h (.inl g)
        have h2 : q = y := Classical.byContradiction fun g => h (.inr (.inl g))
        have h3 : r = x := Classical.byContradiction fun g => h (.inr (.inr g))
        rw [h1, h2, h3]
      have hgd := guard_sides
      have heq := eq_sides p q r z y x W4
      have hb3 : (p == z && (q == y && r == x)) = false := by
        rcases hne3 with h | h | h <;> simp [h]
      rw [hb3] at heq
      have HK1 := Lib.hid hk'
      clear hnx hrk ht' hn1 hne hend hne3 hb3 hk hk'
      gi_wp2
      refine HNX.out.mono ?_
      rintro e W5 ⟨rfl, b5⟩
      have kb5 : Blk3 W5 W1.heap.size 55 p q r := KB4.out.below b5 KB4.out.lt
      have kl5 : Blk3 W5 (W1.heap.size + 1) 55 z y x := KL4.out.below b5 KL4.out.lt
      have J5 : J ys W5 := HJ.out ys W4 W5 none HJ4.out (grown_of_below b5 none) (fun r e => by cases e)
      have c0 := kb5.at3.1
      have c1 := kb5.at3.2.1
      have c2 := kb5.at3.2.2
      have f0 := kb5.frozen 0
      have f1 := kb5.frozen 1
      have f2 := kb5.frozen 2
      have KB6 := Lib.hid (kb5.store (x := p') (y := q') (z := r'))
      have KB5 := Lib.hid kb5
      have KL5 := Lib.hid kl5
      have HJ5 := Lib.hid J5
      clear kb5 kl5 J5 b5 hgd heq
      gi_wp2
      obtain ⟨W6, e6⟩ : ∃ V, ((W5.setCell ⟨W1.heap.size, 0, none⟩ (.int .i8 p')).setCell ⟨W1.heap.size, 1, none⟩ (.int .i8 q')).setCell ⟨W1.heap.size, 2, none⟩ (.int .i8 r') = V := ⟨_, rfl⟩
      rw [e6]
      have k6 : Blk3 W6 W1.heap.size 55 p' q' r' := by rw [← e6]; exact KB6.out
      have g6 : W5.grownBy W6 (some W1.heap.size) := by
        rw [← e6]
        exact grown_trans (grown_trans (grown_cell W5 ⟨W1.heap.size, 0, none⟩ _) (grown_cell _ ⟨W1.heap.size, 1, none⟩ _)) (grown_cell _ ⟨W1.heap.size, 2, none⟩ _)
      have J6 : J ys W6 := HJ.out ys W5 W6 _ HJ5.out g6 (fun r e => by cases e; exact hs1)
      have l6 : Blk3 W6 (W1.heap.size + 1) 55 z y x := (g6.block _ KL5.out.lt (by simp)).trans KL5.out
      clear e6
      go_roundw
      case rel => exact ⟨k + 1, ys, HK1.out, HM.out, J6, by rw [HT'.out]; exact k6, l6⟩
      case measure => rw [rankW_of k6.at3, HRK.out]; have := HRK2.out; have := HRB.out; omega
end Go.Proofs.Ytpefkdhmkamdaaa
