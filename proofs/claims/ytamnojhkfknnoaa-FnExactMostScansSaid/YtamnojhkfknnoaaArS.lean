/-
  The model's times: marking along a lane.
-/
import Derived.Test.YtamnojhkfknnoaaArQ
import Derived.Test.YtamnojhkfknnoaaNtC
import Derived.BigRegion
namespace Go.Proofs.Ytamnojhkfknnoaa
open Go Go.RowKit
set_option linter.unusedVariables false

/-- Marks for eight stations and 301 hours. -/
structure TmIs (cs : Array Value) (A : Nat → Nat → Bool) : Prop where
  size : cs.size = 2408
  at' : ∀ s h, s < 8 → h ≤ 300 → cs[s * 301 + h]? = some (.bool (A s h))
theorem TmIs.set {cs : Array Value} {A : Nat → Nat → Bool} (h : TmIs cs A) {t x : Nat} (ht : t < 8) (hx : x ≤ 300) : TmIs (cs.setIfInBounds (t * 301 + x) (.bool true)) (fun s h => A s h || decide (s = t ∧ h = x)) := by
  refine ⟨by simp [h.size], fun s h' hs hh => ?_⟩
  rw [Array.getElem?_setIfInBounds]
  by_cases e : s = t ∧ h' = x
  · obtain ⟨rfl, rfl⟩ := e
    rw [if_pos rfl, if_pos (by rw [h.size]; omega)]
    simp
  · rw [if_neg (by omega), h.at' s h' hs hh, decide_eq_false e, Bool.or_false]
theorem TmIs.congr {cs : Array Value} {A A' : Nat → Nat → Bool} (h : TmIs cs A) (he : ∀ s h', s < 8 → h' ≤ 300 → A s h' = A' s h') : TmIs cs A' :=
  ⟨h.size, fun s h' hs hh => by rw [h.at' s h' hs hh, he s h' hs hh]⟩
def alK (A : Nat → Nat → Bool) (t hour a d : Nat) : Nat → Nat → Bool := fun s h => A s h || decide (s = t ∧ hour + a ≤ h ∧ h < hour + d)
theorem alK_zero (A : Nat → Nat → Bool) (t hour a s h : Nat) : alK A t hour a a s h = A s h := by
  unfold alK
  rw [decide_eq_false (by omega), Bool.or_false]
theorem alK_succ (A : Nat → Nat → Bool) (t hour a d s h : Nat) (hd : a ≤ d) : (alK A t hour a d s h || decide (s = t ∧ h = hour + d)) = alK A t hour a (d + 1) s h := by
  unfold alK
  rw [Bool.or_assoc]
  congr 1
  rw [← Bool.decide_or]
  exact decide_eq_decide.2 (by omega)
theorem KeepsOut.blkA {lo hi B : Nat} {w w' : World} {T : TypeId} {vs : Array Value} (h : BlkA w B T vs) (K : KeepsOut lo hi w w') (hd : B < lo ∨ hi ≤ B) : BlkA w' B T vs := h.out K hd
theorem keepsOut_set (w : World) (b o : Nat) (u : Value) : KeepsOut b (b + 1) w (w.setCell ⟨b, o, none⟩ u) :=
  ⟨rfl, rfl, rfl, by simp, fun k hk hd => heap_setCell_other w ⟨b, o, none⟩ k u (by show k ≠ b; omega)⟩
theorem keepsOut_drewN (lo hi : Nat) (w : World) (n : Nat) : KeepsOut lo hi w (w.drewN n) := ⟨(bdrewN (w := w) n).os, (bdrewN (w := w) n).tape, (bdrewN (w := w) n).output, (bdrewN (w := w) n).size, fun k hk _ => (bdrewN (w := w) n).block k hk⟩
theorem keepsOut_drew (lo hi : Nat) (w : World) : KeepsOut lo hi w w.drew := ⟨rfl, rfl, rfl, Nat.le_refl _, fun _ _ _ => rfl⟩

set_option maxHeartbeats 4000000 in
set_option maxRecDepth 100000 in
theorem salong_any (B Bt st sy : Nat) (v : Value) (f t a b hour : Nat) (cs : Array Value) (A : Nat → Nat → Bool) (hsy : sy ≤ 40) (ht8 : t < 8) (ha : a ≤ 40) (hb40 : b ≤ 40) (hh : hour ≤ 300) (hne : B ≠ Bt) (w : World)
    (hb : BlkA w B 35 (netB (st : Int) (sy : Int) v)) (ht : BlkA w Bt 81 cs) (hA : TmIs cs A) :
    Calls Try.prog 46 #[.pointer (some ⟨B, 0, none⟩), .pointer (some ⟨Bt, 0, none⟩), .agg #[.int .i8 (f : Int), .int .i8 (t : Int), .int .i16 (a : Int), .int .i16 (b : Int)], .int .i64 (hour : Int)] w fun e w' => (∃ u, e = .returned u) ∧ ∃ cs', BlkA w' Bt 81 cs' ∧ TmIs cs' (alK A t hour a (b + sy + 1)) ∧ KeepsOut Bt (Bt + 1) w w' := by
  have BL : BlkA (w.alloc (.cells #[.int .i8 (f : Int), .int .i8 (t : Int), .int .i16 (a : Int), .int .i16 (b : Int)] 105)) w.heap.size 105 #[.int .i8 (f : Int), .int .i8 (t : Int), .int .i16 (a : Int), .int .i16 (b : Int)] := BlkA.new rfl _ _
  have BN := hb.alloc (.cells #[.int .i8 (f : Int), .int .i8 (t : Int), .int .i16 (a : Int), .int .i16 (b : Int)] 105)
  have BT := ht.alloc (.cells #[.int .i8 (f : Int), .int .i8 (t : Int), .int .i16 (a : Int), .int .i16 (b : Int)] 105)
  have KA := keepsOut_alloc Bt (Bt + 1) w (.cells #[.int .i8 (f : Int), .int .i8 (t : Int), .int .i16 (a : Int), .int .i16 (b : Int)] 105)
  have hBw : B < w.heap.size := hb.lt
  have hTw : Bt < w.heap.size := ht.lt
  have HA := Lib.hid hA
  have HNE := Lib.hid hne
  clear hb ht hA hne
  go_enter Try.func46, Try.ntmps46
  go_wp2_with fail
  obtain ⟨W1, hW⟩ : ∃ W, w.alloc (.cells #[.int .i8 (f : Int), .int .i8 (t : Int), .int .i16 (a : Int), .int .i16 (b : Int)] 105) = W := ⟨_, rfl⟩
  rw [hW] at BL BN BT KA ⊢
  have HBL := Lib.hid BL
  have HBN := Lib.hid BN
  have HBT := Lib.hid BT
  have HKA := Lib.hid KA
  clear hW BL BN BT KA
  go_loopw [8] (fun i wr => ∃ (d : Nat) (cs' : Array Value), a ≤ d ∧ d ≤ 100 ∧ (d = a ∨ d ≤ b + sy + 1) ∧ i = .int .i64 d ∧ BlkA wr Bt 81 cs' ∧ TmIs cs' (alK A t hour a d) ∧ BlkA wr w.heap.size 105 #[.int .i8 (f : Int), .int .i8 (t : Int), .int .i16 (a : Int), .int .i16 (b : Int)] ∧ BlkA wr B 35 (netB (st : Int) (sy : Int) v) ∧ KeepsOut Bt (Bt + 1) w wr) (fun i _ => 200 - (intOf i).toNat)
  case atStart => exact ⟨a, cs, Nat.le_refl _, by omega, .inl rfl, rfl, HBT.out, HA.out.congr (fun s h _ _ => (alK_zero A t hour a s h).symm), HBL.out, HBN.out, HKA.out⟩
  case round =>
    obtain ⟨d, cs', had, hd100, hdm, rfl, bt, hT, bl, bn, hk⟩ := hrel
    have y1 : wr.cell? ⟨B, 1, none⟩ = some (.int .i16 (sy : Int)) := bn.at 1
    have l1 : wr.cell? ⟨w.heap.size, 1, none⟩ = some (.int .i8 (t : Int)) := bl.at 1
    have l3 : wr.cell? ⟨w.heap.size, 3, none⟩ = some (.int .i16 (b : Int)) := bl.at 3
    have w1 : IntKind.i64.wrap (b : Int) = (b : Int) := IntWalk.i64_in _ (by omega)
    have w2 : IntKind.i64.wrap (sy : Int) = (sy : Int) := IntWalk.i64_in _ (by omega)
    have w3 : IntKind.i64.wrap ((b : Int) + (sy : Int)) = (b : Int) + (sy : Int) := IntWalk.i64_in _ (by omega)
    have w4 : IntKind.i64.wrap ((hour : Int) + (d : Int)) = (hour : Int) + (d : Int) := IntWalk.i64_in _ (by omega)
    have HBT := Lib.hid bt
    have HT := Lib.hid hT
    have HBL := Lib.hid bl
    have HBN := Lib.hid bn
    have HK := Lib.hid hk
    have hwr : w.heap.size < wr.heap.size := bl.lt
    clear bt hT bl bn hk
    go_wp2_with fail
    by_cases c1 : (d : Int) ≤ (b : Int) + (sy : Int)
    · have t1 : decide ((d : Int) ≤ (b : Int) + (sy : Int)) = true := decide_eq_true c1
      by_cases c2 : (hour : Int) + (d : Int) ≤ 300
      · have t2 : decide ((hour : Int) + (d : Int) ≤ 300) = true := decide_eq_true c2
        go_quiet (fail)
        obtain ⟨WD, ed⟩ : ∃ W, wr.drewN nq = W := ⟨_, rfl⟩
        have BT := Lib.hid (show BlkA WD Bt 81 cs' by rw [← ed]; exact HBT.out.drewN nq)
        have BL := Lib.hid (show BlkA WD w.heap.size 105 #[.int .i8 (f : Int), .int .i8 (t : Int), .int .i16 (a : Int), .int .i16 (b : Int)] by rw [← ed]; exact HBL.out.drewN nq)
        have BN := Lib.hid (show BlkA WD B 35 (netB (st : Int) (sy : Int) v) by rw [← ed]; exact HBN.out.drewN nq)
        have KD : Hid (KeepsOut Bt (Bt + 1) w WD) := Lib.hid (HK.out.trans (by rw [← ed]; exact keepsOut_drewN _ _ _ _))
        rw [ed]
        clear ed y1 l1 l3 w1 w2 w3 w4
        have l1 : WD.cell? ⟨w.heap.size, 1, none⟩ = some (.int .i8 (t : Int)) := BL.out.at 1
        have z0 : WD.cell? ⟨Bt, t * 301 + (hour + d), none⟩ = some (.bool (alK A t hour a d t (hour + d))) := (BT.out.at _).trans (HT.out.at' t (hour + d) ht8 (by omega))
        have fz := BT.out.frozen (t * 301 + (hour + d))
        have h300 : (hour : Int) + (d : Int) < 301 := by omega
        have ht8' : (t : Int) < 8 := by omega
        have w4 : IntKind.i64.wrap ((hour : Int) + (d : Int)) = (hour : Int) + (d : Int) := IntWalk.i64_in _ (by omega)
        go_wp2_with fail
        go_region
        obtain ⟨WE, ed⟩ : ∃ W, (WD.setCell ⟨Bt, t * 301 + (hour + d), none⟩ (.bool true)).drew = W := ⟨_, rfl⟩
        have BT2 : Hid (BlkA WE Bt 81 (cs'.setIfInBounds (t * 301 + (hour + d)) (.bool true))) := Lib.hid (by rw [← ed]; exact (BT.out.set _ _).drew)
        have BL2 : Hid (BlkA WE w.heap.size 105 #[.int .i8 (f : Int), .int .i8 (t : Int), .int .i16 (a : Int), .int .i16 (b : Int)]) := Lib.hid (by rw [← ed]; exact (BL.out.other _ _ (by show w.heap.size ≠ Bt; omega)).drew)
        have BN2 : Hid (BlkA WE B 35 (netB (st : Int) (sy : Int) v)) := Lib.hid (by rw [← ed]; exact (BN.out.other _ _ HNE.out).drew)
        have K2 : Hid (KeepsOut Bt (Bt + 1) w WE) := Lib.hid (by rw [← ed]; exact (KD.out.trans (keepsOut_set _ _ _ _)).trans (keepsOut_drew _ _ _))
        have HT2 : Hid (TmIs (cs'.setIfInBounds (t * 301 + (hour + d)) (.bool true)) (alK A t hour a (d + 1))) := Lib.hid ((HT.out.set ht8 (show hour + d ≤ 300 by omega)).congr (fun s h _ _ => alK_succ A t hour a d s h had))
        rw [ed]
        clear ed z0 fz l1 w4
        go_wp2_with fail
        go_roundw
        case rel => exact ⟨d + 1, _, by omega, by omega, by omega, by go_num, BT2.out, HT2.out, BL2.out, BN2.out, K2.out⟩
        case measure => simp [intOf]; omega
      · have t2 : decide ((hour : Int) + (d : Int) ≤ 300) = false := decide_eq_false c2
        go_quiet (fail)
        obtain ⟨WD, ed⟩ : ∃ W, wr.drewN nq = W := ⟨_, rfl⟩
        have BT := Lib.hid (show BlkA WD Bt 81 cs' by rw [← ed]; exact HBT.out.drewN nq)
        have BL := Lib.hid (show BlkA WD w.heap.size 105 #[.int .i8 (f : Int), .int .i8 (t : Int), .int .i16 (a : Int), .int .i16 (b : Int)] by rw [← ed]; exact HBL.out.drewN nq)
        have BN := Lib.hid (show BlkA WD B 35 (netB (st : Int) (sy : Int) v) by rw [← ed]; exact HBN.out.drewN nq)
        have KD : Hid (KeepsOut Bt (Bt + 1) w WD) := Lib.hid (HK.out.trans (by rw [← ed]; exact keepsOut_drewN _ _ _ _))
        rw [ed]
        clear ed y1 l1 l3 w1 w2 w3 w4
        have HRES : Hid (TmIs cs' (alK A t hour a (b + sy + 1))) := Lib.hid (HT.out.congr (fun s h hs hh => by unfold alK; congr 1; exact decide_eq_decide.2 (by omega)))
        go_wp2_with fail
        go_end0
        exact ⟨⟨_, rfl⟩, cs', BT.out, HRES.out, KD.out⟩
    · have t1 : decide ((d : Int) ≤ (b : Int) + (sy : Int)) = false := decide_eq_false c1
      have hdm2 : d = a ∨ d = b + sy + 1 := by omega
      go_quiet (fail)
      obtain ⟨WD, ed⟩ : ∃ W, wr.drewN nq = W := ⟨_, rfl⟩
      have BT := Lib.hid (show BlkA WD Bt 81 cs' by rw [← ed]; exact HBT.out.drewN nq)
      have BL := Lib.hid (show BlkA WD w.heap.size 105 #[.int .i8 (f : Int), .int .i8 (t : Int), .int .i16 (a : Int), .int .i16 (b : Int)] by rw [← ed]; exact HBL.out.drewN nq)
      have BN := Lib.hid (show BlkA WD B 35 (netB (st : Int) (sy : Int) v) by rw [← ed]; exact HBN.out.drewN nq)
      have KD : Hid (KeepsOut Bt (Bt + 1) w WD) := Lib.hid (HK.out.trans (by rw [← ed]; exact keepsOut_drewN _ _ _ _))
      rw [ed]
      clear ed y1 l1 l3 w1 w2 w3 w4
      have HRES : Hid (TmIs cs' (alK A t hour a (b + sy + 1))) := Lib.hid (HT.out.congr (fun s h hs hh => by unfold alK; congr 1; exact decide_eq_decide.2 (by omega)))
      go_wp2_with fail
      go_end0
      exact ⟨⟨_, rfl⟩, cs', BT.out, HRES.out, KD.out⟩
end Go.Proofs.Ytamnojhkfknnoaa
