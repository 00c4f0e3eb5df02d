/-
  Tables of the call's own, told by the range of their blocks; contracts of the laws' helpers that mark a table and look whether it is still marked.
-/
import Derived.Test.YtpneecneefeclaaMatH
import Derived.Test.YtpneecneefeclaaTabB
namespace Go.Proofs.Ytpneecneefeclaa
open Go Go.RowKit
set_option linter.unusedVariables false

/-- The steps lie below mid, the prices from mid on. -/
def OwnTD (lo hi : Nat) (w : World) (v : Value) (S : List Int) (R : List (List Int)) : Prop :=
  ∃ (u1 u2 : Value) (mid : Nat), v = .agg #[u1, u2] ∧ OwnH lo w u1 S ∧ (∀ p, u1.ownBlock = some p → p < mid) ∧ OwnMD mid hi w u2 R ∧ lo ≤ mid ∧ mid ≤ hi
theorem OwnTD.reads {lo hi : Nat} {w : World} {v : Value} {S : List Int} {R : List (List Int)} (h : OwnTD lo hi w v S R) : ReadsT w v S R := by
  obtain ⟨u1, u2, mid, rfl, h1, _, h2, _, _⟩ := h
  exact ⟨u1, u2, rfl, h1.reads, h2.reads⟩
theorem OwnTD.below {lo hi : Nat} {w w' : World} {v : Value} {S : List Int} {R : List (List Int)} (h : OwnTD lo hi w v S R) (hb : Below w.heap.size w w') : OwnTD lo hi w' v S R := by
  obtain ⟨u1, u2, mid, rfl, h1, h3, h2, h4, h5⟩ := h
  exact ⟨u1, u2, mid, rfl, h1.below hb, h3, h2.below hb, h4, h5⟩
theorem OwnTD.out {lo hi lo' hi' : Nat} {w w' : World} {v : Value} {S : List Int} {R : List (List Int)} (h : OwnTD lo hi w v S R) (K : KeepsOut lo' hi' w w') (hd : hi ≤ lo' ∨ hi' ≤ lo) : OwnTD lo hi w' v S R := by
  obtain ⟨u1, u2, mid, rfl, h1, h3, h2, h4, h5⟩ := h
  exact ⟨u1, u2, mid, rfl, h1.out K (fun p hp => by have := h3 p hp; have := (h1.block p hp).1; omega), h3, h2.out K (by omega), h4, h5⟩
theorem OwnTD.mono {lo lo' hi hi' : Nat} {w : World} {v : Value} {S : List Int} {R : List (List Int)} (h : OwnTD lo hi w v S R) (h1 : lo' ≤ lo) (h2 : hi ≤ hi') : OwnTD lo' hi' w v S R := by
  obtain ⟨u1, u2, mid, rfl, g1, g3, g2, g4, g5⟩ := h
  exact ⟨u1, u2, mid, rfl, g1.mono h1, g3, g2.mono (Nat.le_refl _) h2, by omega, by omega⟩
theorem koutA (lo hi : Nat) (w : World) (o : Obj) : KeepsOut lo hi w (w.alloc o) := ⟨rfl, rfl, rfl, by simp, fun k hk _ => heap_alloc_old w o hk⟩

set_option maxHeartbeats 1600000 in
set_option maxRecDepth 100000 in
theorem markT_any (lo hi : Nat) (v : Value) (S : List Int) (R : List (List Int)) (k0 : Int) (w : World) (h : OwnTD lo hi w v S R) (h0 : 0 ≤ k0) (h1 : k0 ≤ 1) (hhi : hi ≤ w.heap.size) (hs : S.length ≤ 1048576) (hx : R.length ≤ 1048576) (ht : tot R ≤ 1048576) :
    Calls Try.prog 9 #[v, .int .i64 k0] w fun e w' => e = .returned (.int .i64 (k0 + S.length + tot R)) ∧ OwnTD lo hi w' v (iotaH k0 S.length) (iotaM (k0 + S.length) R) ∧ KeepsOut lo hi w w' := by
  obtain ⟨u1, u2, mid, rfl, g1, g3, g2, g4, g5⟩ := h
  have H1 := Lib.hid g1
  have H2 := Lib.hid g2
  have H3 := Lib.hid g3
  have hsl : (S.length : Int) ≤ 1048576 := by omega
  obtain ⟨n, hn⟩ : ∃ n, S.length = n := ⟨_, rfl⟩
  have HN := Lib.hid hn
  rw [hn] at hs hsl ⊢
  clear g1 g2 g3 hn
  go_enter Try.func9, Try.ntmps9
  go_wp2_with fail
  refine (markH_any lo u1 S k0 _ (H1.out.below ((Below.refl _ _).alloc (Nat.le_refl _) _)) (by omega) (by omega) (by rw [HN.out]; exact hs)).mono ?_
  rintro e w2 ⟨rfl, o2, gr2⟩
  have hbx : w2.heap[w.heap.size]? = some (.cells #[u1, u2] 27 (0, 0)) := by
    rw [gr2.block w.heap.size (by simp) (fun e => by have := H3.out _ e.symm; omega)]
    exact heap_alloc_new w _
  have z1 : w2.cell? ⟨w.heap.size, 1, none⟩ = some u2 := Blk2.at1 hbx
  have K2 : KeepsOut lo mid w w2 := (koutA _ _ w _).trans (keepsOut_grown gr2 (fun p hp => ⟨(H1.out.block p hp).1, H3.out p hp⟩))
  have HK2 := Lib.hid K2
  have HO2 := Lib.hid o2
  have HR2 := Lib.hid (H2.out.out K2 (.inr (Nat.le_refl _)))
  rw [HN.out]
  clear o2 gr2 hbx K2
  go_wp2_with fail
  refine (markM_any mid hi u2 R (k0 + n) w2 HR2.out (by omega) (by omega) hx ht).mono ?_
  rintro e w3 ⟨rfl, o3, K3⟩
  have HO3 := Lib.hid o3
  have HK3 := Lib.hid K3
  clear o3 K3
  go_wp2_with fail
  go_ret
  refine ⟨rfl, ⟨u1, u2, mid, rfl, ?_, H3.out, HO3.out, g4, g5⟩, (HK2.out.widen (Nat.le_refl _) g5).trans (HK3.out.widen g4 (Nat.le_refl _))⟩
  have h := HO2.out
  rw [HN.out] at h
  exact h.out HK3.out (fun p hp => .inl (H3.out p hp))

set_option maxHeartbeats 1600000 in
set_option maxRecDepth 100000 in
theorem heldT_any (v : Value) (S : List Int) (R : List (List Int)) (k0 : Int) (w : World) (h : ReadsT w v (iotaH k0 S.length) (iotaM (k0 + S.length) R)) (h0 : 0 ≤ k0) (h1 : k0 ≤ 1) (hs : S.length ≤ 1048576) (hx : R.length ≤ 1048576) (ht : tot R ≤ 1048576) :
    Calls Try.prog 10 #[v, .int .i64 k0] w fun e w' => e = .returned (.int .i64 (k0 + S.length + tot R)) ∧ Below w.heap.size w w' := by
  obtain ⟨u1, u2, rfl, g1, g2⟩ := h
  have H1 := Lib.hid g1
  have H2 := Lib.hid g2
  obtain ⟨n, hn⟩ : ∃ n, S.length = n := ⟨_, rfl⟩
  rw [hn] at hs H1 H2 ⊢
  obtain ⟨t, htt⟩ : ∃ t, tot R = t := ⟨_, rfl⟩
  have HT := Lib.hid htt
  have ht' := ht
  rw [htt] at ht' ⊢
  have t1 : decide (k0 + (n : Int) < 0) = false := decide_eq_false (by omega)
  have t2 : decide (k0 + (n : Int) + (t : Int) < 0) = false := decide_eq_false (by omega)
  clear g1 g2 hn htt
  go_enter Try.func10, Try.ntmps10
  go_wp2_with fail
  refine (heldH_any u1 n k0 _ (H1.out.below ((Below.refl _ _).alloc (Nat.le_refl _) _)) (by omega) (by omega) hs).mono ?_
  rintro e w2 ⟨rfl, b2⟩
  have q := (Blk2.new (n := w.heap.size) (w := w) rfl _ _ _).below b2
  have z1 := q.at1
  have HB2 : Hid (Below w.heap.size w w2) := Lib.hid (((Below.refl _ _).alloc (Nat.le_refl _) _).trans (b2.mono (by simp)))
  clear q b2
  go_wp2_with fail
  refine (heldM_any u2 R (k0 + n) w2 (H2.out.below HB2.out) (by omega) (by omega) hx ht).mono ?_
  rintro e w3 ⟨rfl, b3⟩
  rw [HT.out]
  have HB3 := Lib.hid (blink HB2.out b3)
  clear b3
  go_wp2_with fail
  go_ret
  exact ⟨rfl, HB3.out⟩
end Go.Proofs.Ytpneecneefeclaa
