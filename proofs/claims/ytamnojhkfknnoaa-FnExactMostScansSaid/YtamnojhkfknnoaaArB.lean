/-
  The model's times behind one or more lanes.
-/
import Derived.Test.YtamnojhkfknnoaaArS
import Derived.Test.YtamnojhkfknnoaaArO
import Derived.BigQuiet
namespace Go.Proofs.Ytamnojhkfknnoaa
open Go Go.RowKit
set_option linter.unusedVariables false

def isNo : Value → Bool
  | .bool false => true
  | _ => false
theorem isNo_eq {v : Value} (h : isNo v = true) : v = .bool false := by
  unfold isNo at h
  split at h
  · rfl
  · cases h
theorem zero_size : Try.zeroCells81.size = 2408 := by kernel_rfl
theorem zero_all : Try.zeroCells81.toList.all isNo = true := by kernel_rfl
theorem zero_marks : TmIs Try.zeroCells81 (fun _ _ => false) := by
  refine ⟨zero_size, fun s h hs hh => ?_⟩
  have hi : s * 301 + h < Try.zeroCells81.size := by rw [zero_size]; omega
  have h1 := List.all_eq_true.1 zero_all _ (Array.getElem_mem_toList hi)
  rw [Array.getElem?_eq_getElem hi, isNo_eq h1]
/-- The lanes of a net as natural numbers. -/
theorem net_nats {st sy : Int} {L : List Lan} (h : okNet st sy L) {k : Nat} (hk : k < L.length) : ∃ f t a b : Nat, L.getD k (0, 0, 0, 0) = ((f : Int), (t : Int), (a : Int), (b : Int)) ∧ f < 8 ∧ t < 8 ∧ (1 ≤ a ∧ a ≤ 40) ∧ b ≤ 40 := by
  have h2 := h.2.2.2 k hk
  have hs := h.1
  obtain ⟨q, hq⟩ : ∃ q, L.getD k (0, 0, 0, 0) = q := ⟨_, rfl⟩
  rw [hq] at h2
  obtain ⟨x0, x1, x2, x3⟩ := q
  unfold okLa at h2
  simp only at h2
  exact ⟨x0.toNat, x1.toNat, x2.toNat, x3.toNat, by rw [hq]; simp only [Prod.mk.injEq]; omega, by omega, by omega, by omega, by omega⟩
theorem KeepsOut.cellsLa {lo hi b : Nat} {w w' : World} {ps : List Lan} (h : CellsLa w b ps) (K : KeepsOut lo hi w w') (hd : b < lo ∨ hi ≤ b) : CellsLa w' b ps := fun i hi' => by
  have e : ∀ (o : Nat) (v : Value), w.cell? ⟨b, o, none⟩ = some v → w'.cell? ⟨b, o, none⟩ = some v := fun o v hc => by
    have h1 := K.block b (World.block_lt_of_cell? w _ hc) hd
    unfold World.cell? at hc ⊢
    rw [h1]; exact hc
  obtain ⟨h0, h1, h2, h3⟩ := h i hi'
  exact ⟨e _ _ h0, e _ _ h1, e _ _ h2, e _ _ h3⟩
/-- The marks behind a scan. -/
def MarksAt (w : World) (Bt : Nat) (L : List Lan) (wo : Int) (sy s0 h0 : Nat) : Prop :=
  ∃ cs A, BlkA w Bt 81 cs ∧ TmIs cs A ∧ ∀ s h, s < 8 → h ≤ 300 → (A s h = true ↔ Arr L wo sy s0 h0 s h)

set_option maxHeartbeats 8000000 in
set_option maxRecDepth 100000 in
theorem sbehind_any (B st sy : Nat) (v : Value) (L : List Lan) (s0 h0 : Nat) (wo : Int) (hok : okNet (st : Int) (sy : Int) L) (hs0 : s0 < 8) (hh0 : h0 ≤ 300) (hwo : -1 ≤ wo ∧ wo ≤ 7) (w : World)
    (hv : ReadsLa w v L) (hb : BlkA w B 35 (netB (st : Int) (sy : Int) v)) :
    Calls Try.prog 23 #[.pointer (some ⟨B, 0, none⟩), .agg #[.int .i8 (s0 : Int), .int .i16 (h0 : Int)], .int .i64 wo] w fun e w' => ∃ Bt, e = .returned (.pointer (some ⟨Bt, 0, none⟩)) ∧ w.heap.size ≤ Bt ∧ MarksAt w' Bt L wo sy s0 h0 ∧ Below w.heap.size w w' := by
  obtain ⟨av, cap, rfl, hav⟩ := hv
  have HA := Lib.hid hav
  have HOK := Lib.hid hok
  have h20 := hok.2.2.1
  have hsy := hok.2.1
  have HSL := Lib.hid (slow_of hok)
  obtain ⟨len, hlen⟩ : ∃ m, L.length = m := ⟨_, rfl⟩
  have HM := Lib.hid hlen
  rw [hlen] at hb h20
  have hBw : B < w.heap.size := hb.lt
  have hb1 : Below w.heap.size w ((w.alloc (.cells #[.int .i8 (s0 : Int), .int .i16 (h0 : Int)] 49)).alloc (.cells Try.zeroCells81 81)) := (((Below.refl _ _).alloc (Nat.le_refl _) _).alloc (by simp) _)
  have BN := hb.below hb1
  have BS : BlkA ((w.alloc (.cells #[.int .i8 (s0 : Int), .int .i16 (h0 : Int)] 49)).alloc (.cells Try.zeroCells81 81)) w.heap.size 49 #[.int .i8 (s0 : Int), .int .i16 (h0 : Int)] := (BlkA.new rfl _ _).alloc _
  have BT : BlkA ((w.alloc (.cells #[.int .i8 (s0 : Int), .int .i16 (h0 : Int)] 49)).alloc (.cells Try.zeroCells81 81)) (w.heap.size + 1) 81 Try.zeroCells81 := BlkA.new (by simp) _ _
  have HB1 := Lib.hid hb1
  have HBN := Lib.hid BN
  have HBS := Lib.hid BS
  have HBT := Lib.hid BT
  clear hav hok hlen hb hb1 BN BS BT
  go_enter Try.func23, Try.ntmps23
  go_wp2_with fail
  have HZM := Lib.hid zero_marks
  generalize Try.zeroCells81 = ZC at HB1 HBN HBS HBT HZM ⊢
  obtain ⟨W2, hW⟩ : ∃ W, ((w.alloc (.cells #[.int .i8 (s0 : Int), .int .i16 (h0 : Int)] 49)).alloc (.cells ZC 81)) = W := ⟨_, rfl⟩
  rw [hW] at HB1 HBN HBS HBT ⊢
  clear hW
  go_loopw [8] (fun x wr => ∃ (H : Nat) (cs : Array Value) (A : Nat → Nat → Bool), h0 ≤ H ∧ H ≤ 301 ∧ x = .int .i64 H ∧ BlkA wr (w.heap.size + 1) 81 cs ∧ TmIs cs A ∧ (∀ s h, s < 8 → h ≤ 300 → (A s h = true ↔ Qm L wo sy s0 h0 H 0 s h)) ∧ KeepsOut (w.heap.size + 1) (w.heap.size + 1 + 1) W2 wr) (fun x _ => 400 - (intOf x).toNat)
  case atStart => exact ⟨h0, _, _, Nat.le_refl _, by omega, rfl, HBT.out, HZM.out, fun s h _ _ => ⟨fun h => (by cases h), fun h => absurd h Qm_start⟩, KeepsOut.refl _ _ _⟩
  case round =>
    obtain ⟨H, cs, A, hH0, hH, rfl, bt, hT, hQ, hk⟩ := hrel
    obtain ⟨wq, rfl⟩ : ∃ V, V = wr := ⟨wr, rfl⟩
    have HBTq := Lib.hid bt
    have HTq := Lib.hid hT
    have HQq := Lib.hid hQ
    have HKq := Lib.hid hk
    clear bt hT hQ hk
    by_cases hlt : (H : Int) ≤ 300
    · have tH : decide ((H : Int) ≤ 300) = true := decide_eq_true hlt
      go_wp2_with fail
      go_loopw [9] (fun x wr => ∃ (i : Nat) (cs : Array Value) (A : Nat → Nat → Bool), i ≤ len ∧ x = .int .i64 i ∧ BlkA wr (w.heap.size + 1) 81 cs ∧ TmIs cs A ∧ (∀ s h, s < 8 → h ≤ 300 → (A s h = true ↔ Qm L wo sy s0 h0 H i s h)) ∧ KeepsOut (w.heap.size + 1) (w.heap.size + 1 + 1) W2 wr) (fun x _ => len - (intOf x).toNat)
      case atStart => exact ⟨0, cs, A, Nat.zero_le _, rfl, HBTq.out, HTq.out, HQq.out, HKq.out⟩
      case round =>
        obtain ⟨i, cs, A, hi, rfl, bt, hT, hQ, hk⟩ := hrel
        have HBT2 := Lib.hid bt
        have HT := Lib.hid hT
        have HQ := Lib.hid hQ
        have HK := Lib.hid hk
        have bn := HBN.out.out hk (.inl (by omega))
        have n2 : wr.cell? ⟨B, 2, none⟩ = some (.slice av len cap) := bn.at 2
        have HBN2 := Lib.hid bn
        have bs := HBS.out.out hk (.inl (by omega))
        have g0 : wr.cell? ⟨w.heap.size, 0, none⟩ = some (.int .i8 (s0 : Int)) := bs.at 0
        have g1 : wr.cell? ⟨w.heap.size, 1, none⟩ = some (.int .i16 (h0 : Int)) := bs.at 1
        have hBt : w.heap.size + 1 < wr.heap.size := bt.lt
        have hBw2 : B < wr.heap.size := bn.lt
        have hsw : w.heap.size < wr.heap.size := bs.lt
        clear bt hT hQ hk bn bs
        by_cases hlt2 : i < len
        · obtain ⟨bb, rfl, hc⟩ := HA.out (by intro e; have := HM.out; rw [e] at this; simp at this; omega)
          have hbb : bb < w.heap.size := World.block_lt_of_cell? w _ (hc 0 (by rw [HM.out]; omega)).1
          obtain ⟨q0, q1, q2, q3⟩ := (KeepsOut.cellsLa (hc.below HB1.out) HK.out (.inl (by omega))) i (by rw [HM.out]; exact hlt2)
          obtain ⟨f, t, a, b, hq, hf8, ht8, ha40, hb40⟩ := net_nats HOK.out (k := i) (by rw [HM.out]; exact hlt2)
          have hiL : i < L.length := by rw [HM.out]; exact hlt2
          have HSRC : Hid (Src L wo sy s0 h0 f H ↔ (f = s0 ∧ H = h0) ∨ A f H = true) := Lib.hid (by
            rw [src_iff, HQ.out f H hf8 (by omega), Qm_now HSL.out])
          have HYES : Hid (((f : Int) ≠ wo ∧ (t : Int) ≠ wo) → Src L wo sy s0 h0 f H → ∀ s h, Qm L wo sy s0 h0 H (i + 1) s h ↔ Qm L wo sy s0 h0 H i s h ∨ (s = t ∧ H + a ≤ h ∧ h ≤ H + (b + sy))) := Lib.hid (fun hp hsr s h => by
            have h1 := Qm_yes (L := L) (wo := wo) (sy := sy) (s0 := s0) (h0 := h0) (H := H) (s := s) (h := h) hiL (by unfold pas; rw [show L.getD i zl = _ from hq]; exact hp) (by rw [show L.getD i zl = _ from hq]; exact hsr)
            rw [show L.getD i zl = _ from hq] at h1
            exact h1)
          have HNO : Hid (¬ (((f : Int) ≠ wo ∧ (t : Int) ≠ wo) ∧ Src L wo sy s0 h0 f H) → ∀ s h, Qm L wo sy s0 h0 H (i + 1) s h ↔ Qm L wo sy s0 h0 H i s h) := Lib.hid (fun hn s h =>
            Qm_no (by unfold pas; rw [show L.getD i zl = _ from hq]; exact hn))
          rw [hq] at q0 q1 q2 q3
          simp only at q0 q1 q2 q3
          have hil : (i : Int) < (len : Int) := by omega
          have hf8' : (f : Int) < 8 := by omega
          have hH301 : (H : Int) < 301 := by omega
          have HCELL : Hid (wr.cell? ⟨w.heap.size + 1, f * 301 + H, none⟩ = some (.bool (A f H))) := Lib.hid ((HBT2.out.at _).trans (HT.out.at' f H hf8 (by omega)))
          clear hq hc hiL
          by_cases e1 : H = h0
          · have u1 : ((H : Int) == (h0 : Int)) = true := by simp [e1]
            by_cases e2 : f = s0
            · have u2 : ((f : Int) == (s0 : Int)) = true := by simp [e2]
              have HSR0 : Hid (Src L wo sy s0 h0 f H) := Lib.hid (HSRC.out.2 (.inl ⟨e2, e1⟩))
              clear e1 e2
              go_wp2_with fail
              obtain ⟨W3, e3⟩ : ∃ W, wr.alloc (.cells #[.int .i8 (f : Int), .int .i8 (t : Int), .int .i16 (a : Int), .int .i16 (b : Int)] 105) = W := ⟨_, rfl⟩
              have HBT3 : Hid (BlkA W3 (w.heap.size + 1) 81 cs) := Lib.hid (by rw [← e3]; exact HBT2.out.alloc _)
              have HBN3 : Hid (BlkA W3 B 35 (netB (st : Int) (sy : Int) (.slice (some ⟨bb, 0, none⟩) len cap))) := Lib.hid (by rw [← e3]; exact HBN2.out.alloc _)
              have HK3 : Hid (KeepsOut (w.heap.size + 1) (w.heap.size + 1 + 1) W2 W3) := Lib.hid (by rw [← e3]; exact HK.out.trans (keepsOut_alloc _ _ _ _))
              have HL3 : Hid (BlkA W3 wr.heap.size 105 #[.int .i8 (f : Int), .int .i8 (t : Int), .int .i16 (a : Int), .int .i16 (b : Int)]) := Lib.hid (by rw [← e3]; exact BlkA.new rfl _ _)
              have z0 : W3.cell? ⟨w.heap.size + 1, f * 301 + H, none⟩ = some (.bool (A f H)) := ((HBT3.out.at _).trans (HT.out.at' f H hf8 (by omega))).trans rfl
              have c0 : W3.cell? ⟨wr.heap.size, 0, none⟩ = some (.int .i8 (f : Int)) := HL3.out.at 0
              have c1 : W3.cell? ⟨wr.heap.size, 1, none⟩ = some (.int .i8 (t : Int)) := HL3.out.at 1
              rw [e3]
              clear e3 n2 g0 g1 q0 q1 q2 q3
              by_cases p1 : (f : Int) = wo
              · have d1 : ((f : Int) != wo) = false := by simp [p1]
                have HNOT : Hid (¬ (((f : Int) ≠ wo ∧ (t : Int) ≠ wo) ∧ Src L wo sy s0 h0 f H)) := Lib.hid (fun h => h.1.1 p1)
                clear p1
                go_big_quiet (fail)
                obtain ⟨W4, e4⟩ : ∃ W, W3.drewN nq = W := ⟨_, rfl⟩
                have HBT4 : Hid (BlkA W4 (w.heap.size + 1) 81 cs) := Lib.hid (by rw [← e4]; exact HBT3.out.drewN nq)
                have HBN4 : Hid (BlkA W4 B 35 (netB (st : Int) (sy : Int) (.slice (some ⟨bb, 0, none⟩) len cap))) := Lib.hid (by rw [← e4]; exact HBN3.out.drewN nq)
                have HK4 : Hid (KeepsOut (w.heap.size + 1) (w.heap.size + 1 + 1) W2 W4) := Lib.hid (by rw [← e4]; exact HK3.out.trans (keepsOut_drewN _ _ _ _))
                have HL4 : Hid (BlkA W4 wr.heap.size 105 #[.int .i8 (f : Int), .int .i8 (t : Int), .int .i16 (a : Int), .int .i16 (b : Int)]) := Lib.hid (by rw [← e4]; exact HL3.out.drewN nq)
                rw [e4]
                clear e4 z0 c0 c1
                have HQN : Hid (∀ s h, s < 8 → h ≤ 300 → (A s h = true ↔ Qm L wo sy s0 h0 H (i + 1) s h)) := Lib.hid (fun s h hs hh => by rw [HNO.out HNOT.out s h]; exact HQ.out s h hs hh)
                go_wp2_with fail
                go_roundw
                case rel => exact ⟨i + 1, cs, A, by omega, by go_num, HBT4.out, HT.out, HQN.out, HK4.out⟩
                case measure => simp [intOf]; omega
              · have d1 : ((f : Int) != wo) = true := by simp [p1]
                by_cases p2 : (t : Int) = wo
                · have d2 : ((t : Int) != wo) = false := by simp [p2]
                  have HNOT : Hid (¬ (((f : Int) ≠ wo ∧ (t : Int) ≠ wo) ∧ Src L wo sy s0 h0 f H)) := Lib.hid (fun h => h.1.2 p2)
                  clear p1 p2
                  go_big_quiet (fail)
                  obtain ⟨W4, e4⟩ : ∃ W, W3.drewN nq = W := ⟨_, rfl⟩
                  have HBT4 : Hid (BlkA W4 (w.heap.size + 1) 81 cs) := Lib.hid (by rw [← e4]; exact HBT3.out.drewN nq)
                  have HBN4 : Hid (BlkA W4 B 35 (netB (st : Int) (sy : Int) (.slice (some ⟨bb, 0, none⟩) len cap))) := Lib.hid (by rw [← e4]; exact HBN3.out.drewN nq)
                  have HK4 : Hid (KeepsOut (w.heap.size + 1) (w.heap.size + 1 + 1) W2 W4) := Lib.hid (by rw [← e4]; exact HK3.out.trans (keepsOut_drewN _ _ _ _))
                  have HL4 : Hid (BlkA W4 wr.heap.size 105 #[.int .i8 (f : Int), .int .i8 (t : Int), .int .i16 (a : Int), .int .i16 (b : Int)]) := Lib.hid (by rw [← e4]; exact HL3.out.drewN nq)
                  rw [e4]
                  clear e4 z0 c0 c1
                  have HQN : Hid (∀ s h, s < 8 → h ≤ 300 → (A s h = true ↔ Qm L wo sy s0 h0 H (i + 1) s h)) := Lib.hid (fun s h hs hh => by rw [HNO.out HNOT.out s h]; exact HQ.out s h hs hh)
                  go_wp2_with fail
                  go_roundw
                  case rel => exact ⟨i + 1, cs, A, by omega, by go_num, HBT4.out, HT.out, HQN.out, HK4.out⟩
                  case measure => simp [intOf]; omega
                · have d2 : ((t : Int) != wo) = true := by simp [p2]
                  have HPAS : Hid ((f : Int) ≠ wo ∧ (t : Int) ≠ wo) := Lib.hid ⟨p1, p2⟩
                  have HSR : Hid (Src L wo sy s0 h0 f H) := Lib.hid (HSR0.out)
                  clear p1 p2
                  go_big_quiet (fail)
                  obtain ⟨W4, e4⟩ : ∃ W, W3.drewN nq = W := ⟨_, rfl⟩
                  have HBT4 : Hid (BlkA W4 (w.heap.size + 1) 81 cs) := Lib.hid (by rw [← e4]; exact HBT3.out.drewN nq)
                  have HBN4 : Hid (BlkA W4 B 35 (netB (st : Int) (sy : Int) (.slice (some ⟨bb, 0, none⟩) len cap))) := Lib.hid (by rw [← e4]; exact HBN3.out.drewN nq)
                  have HK4 : Hid (KeepsOut (w.heap.size + 1) (w.heap.size + 1 + 1) W2 W4) := Lib.hid (by rw [← e4]; exact HK3.out.trans (keepsOut_drewN _ _ _ _))
                  have HL4 : Hid (BlkA W4 wr.heap.size 105 #[.int .i8 (f : Int), .int .i8 (t : Int), .int .i16 (a : Int), .int .i16 (b : Int)]) := Lib.hid (by rw [← e4]; exact HL3.out.drewN nq)
                  rw [e4]
                  clear e4 z0 c0 c1
                  have x0 : W4.cell? ⟨wr.heap.size, 0, none⟩ = some (.int .i8 (f : Int)) := HL4.out.at 0
                  have x1 : W4.cell? ⟨wr.heap.size, 1, none⟩ = some (.int .i8 (t : Int)) := HL4.out.at 1
                  have x2 : W4.cell? ⟨wr.heap.size, 2, none⟩ = some (.int .i16 (a : Int)) := HL4.out.at 2
                  have x3 : W4.cell? ⟨wr.heap.size, 3, none⟩ = some (.int .i16 (b : Int)) := HL4.out.at 3
                  go_wp2_with fail
                  have WFQ := Lib.hid (show -1 ≤ wo ∧ wo ≤ 7 from hwo)
                  refine (salong_any B (w.heap.size + 1) st sy (.slice (some ⟨bb, 0, none⟩) len cap) f t a b H cs A (by omega) ht8 (by omega) hb40 (by omega) (by omega) _ HBN4.out HBT4.out HT.out).mono ?_
                  rintro e w6 ⟨⟨u, rfl⟩, cs2, bt2, hT2, hk2⟩
                  have BT6 := Lib.hid bt2
                  have T6 := Lib.hid hT2
                  have K6 := Lib.hid (HK4.out.trans hk2)
                  have Q6 : Hid (∀ s h, s < 8 → h ≤ 300 → (alK A t H a (b + sy + 1) s h = true ↔ Qm L wo sy s0 h0 H (i + 1) s h)) := Lib.hid (fun s h hs hh => by
                    rw [HYES.out HPAS.out HSR.out s h, ← HQ.out s h hs hh]
                    unfold alK
                    rw [Bool.or_eq_true, decide_eq_true_eq]
                    constructor
                    · rintro (h1 | h1)
                      · exact .inl h1
                      · exact .inr ⟨h1.1, h1.2.1, by omega⟩
                    · rintro (h1 | h1)
                      · exact .inl h1
                      · exact .inr ⟨h1.1, h1.2.1, by omega⟩)
                  clear bt2 hT2 hk2
                  go_wp2_with fail
                  go_roundw
                  case rel => exact ⟨i + 1, cs2, _, by omega, by go_num, BT6.out, T6.out, Q6.out, K6.out⟩
                  case measure => simp [intOf]; omega
            · have u2 : ((f : Int) == (s0 : Int)) = false := by simp; omega
              have HE2 := Lib.hid e2
              clear e1 e2
              obtain ⟨bv, hbv⟩ : ∃ bv, A f H = bv := ⟨_, rfl⟩
              cases bv with
              | false =>
                go_wp2_with fail
                obtain ⟨W3, e3⟩ : ∃ W, wr.alloc (.cells #[.int .i8 (f : Int), .int .i8 (t : Int), .int .i16 (a : Int), .int .i16 (b : Int)] 105) = W := ⟨_, rfl⟩
                have HBT3 : Hid (BlkA W3 (w.heap.size + 1) 81 cs) := Lib.hid (by rw [← e3]; exact HBT2.out.alloc _)
                have HBN3 : Hid (BlkA W3 B 35 (netB (st : Int) (sy : Int) (.slice (some ⟨bb, 0, none⟩) len cap))) := Lib.hid (by rw [← e3]; exact HBN2.out.alloc _)
                have HK3 : Hid (KeepsOut (w.heap.size + 1) (w.heap.size + 1 + 1) W2 W3) := Lib.hid (by rw [← e3]; exact HK.out.trans (keepsOut_alloc _ _ _ _))
                have HL3 : Hid (BlkA W3 wr.heap.size 105 #[.int .i8 (f : Int), .int .i8 (t : Int), .int .i16 (a : Int), .int .i16 (b : Int)]) := Lib.hid (by rw [← e3]; exact BlkA.new rfl _ _)
                have z0 : W3.cell? ⟨w.heap.size + 1, f * 301 + H, none⟩ = some (.bool false) := ((HBT3.out.at _).trans (HT.out.at' f H hf8 (by omega))).trans (by rw [hbv])
                have c0 : W3.cell? ⟨wr.heap.size, 0, none⟩ = some (.int .i8 (f : Int)) := HL3.out.at 0
                have c1 : W3.cell? ⟨wr.heap.size, 1, none⟩ = some (.int .i8 (t : Int)) := HL3.out.at 1
                rw [e3]
                clear e3 n2 g0 g1 q0 q1 q2 q3
                have HNOT : Hid (¬ (((f : Int) ≠ wo ∧ (t : Int) ≠ wo) ∧ Src L wo sy s0 h0 f H)) := Lib.hid (fun h => by
                  rcases HSRC.out.1 h.2 with h1 | h1
                  · exact HE2.out h1.1
                  · rw [hbv] at h1; cases h1)
                clear hbv
                go_big_quiet (fail)
                obtain ⟨W4, e4⟩ : ∃ W, W3.drewN nq = W := ⟨_, rfl⟩
                have HBT4 : Hid (BlkA W4 (w.heap.size + 1) 81 cs) := Lib.hid (by rw [← e4]; exact HBT3.out.drewN nq)
                have HBN4 : Hid (BlkA W4 B 35 (netB (st : Int) (sy : Int) (.slice (some ⟨bb, 0, none⟩) len cap))) := Lib.hid (by rw [← e4]; exact HBN3.out.drewN nq)
                have HK4 : Hid (KeepsOut (w.heap.size + 1) (w.heap.size + 1 + 1) W2 W4) := Lib.hid (by rw [← e4]; exact HK3.out.trans (keepsOut_drewN _ _ _ _))
                have HL4 : Hid (BlkA W4 wr.heap.size 105 #[.int .i8 (f : Int), .int .i8 (t : Int), .int .i16 (a : Int), .int .i16 (b : Int)]) := Lib.hid (by rw [← e4]; exact HL3.out.drewN nq)
                rw [e4]
                clear e4 z0 c0 c1
                have HQN : Hid (∀ s h, s < 8 → h ≤ 300 → (A s h = true ↔ Qm L wo sy s0 h0 H (i + 1) s h)) := Lib.hid (fun s h hs hh => by rw [HNO.out HNOT.out s h]; exact HQ.out s h hs hh)
                go_wp2_with fail
                go_roundw
                case rel => exact ⟨i + 1, cs, A, by omega, by go_num, HBT4.out, HT.out, HQN.out, HK4.out⟩
                case measure => simp [intOf]; omega
              | true =>
                go_wp2_with fail
                obtain ⟨W3, e3⟩ : ∃ W, wr.alloc (.cells #[.int .i8 (f : Int), .int .i8 (t : Int), .int .i16 (a : Int), .int .i16 (b : Int)] 105) = W := ⟨_, rfl⟩
                have HBT3 : Hid (BlkA W3 (w.heap.size + 1) 81 cs) := Lib.hid (by rw [← e3]; exact HBT2.out.alloc _)
                have HBN3 : Hid (BlkA W3 B 35 (netB (st : Int) (sy : Int) (.slice (some ⟨bb, 0, none⟩) len cap))) := Lib.hid (by rw [← e3]; exact HBN2.out.alloc _)
                have HK3 : Hid (KeepsOut (w.heap.size + 1) (w.heap.size + 1 + 1) W2 W3) := Lib.hid (by rw [← e3]; exact HK.out.trans (keepsOut_alloc _ _ _ _))
                have HL3 : Hid (BlkA W3 wr.heap.size 105 #[.int .i8 (f : Int), .int .i8 (t : Int), .int .i16 (a : Int), .int .i16 (b : Int)]) := Lib.hid (by rw [← e3]; exact BlkA.new rfl _ _)
                have z0 : W3.cell? ⟨w.heap.size + 1, f * 301 + H, none⟩ = some (.bool true) := ((HBT3.out.at _).trans (HT.out.at' f H hf8 (by omega))).trans (by rw [hbv])
                have c0 : W3.cell? ⟨wr.heap.size, 0, none⟩ = some (.int .i8 (f : Int)) := HL3.out.at 0
                have c1 : W3.cell? ⟨wr.heap.size, 1, none⟩ = some (.int .i8 (t : Int)) := HL3.out.at 1
                rw [e3]
                clear e3 n2 g0 g1 q0 q1 q2 q3
                have HSR0 : Hid (Src L wo sy s0 h0 f H) := Lib.hid (HSRC.out.2 (.inr hbv))
                clear hbv
                by_cases p1 : (f : Int) = wo
                · have d1 : ((f : Int) != wo) = false := by simp [p1]
                  have HNOT : Hid (¬ (((f : Int) ≠ wo ∧ (t : Int) ≠ wo) ∧ Src L wo sy s0 h0 f H)) := Lib.hid (fun h => h.1.1 p1)
                  clear p1
                  go_big_quiet (fail)
                  obtain ⟨W4, e4⟩ : ∃ W, W3.drewN nq = W := ⟨_, rfl⟩
                  have HBT4 : Hid (BlkA W4 (w.heap.size + 1) 81 cs) := Lib.hid (by rw [← e4]; exact HBT3.out.drewN nq)
                  have HBN4 : Hid (BlkA W4 B 35 (netB (st : Int) (sy : Int) (.slice (some ⟨bb, 0, none⟩) len cap))) := Lib.hid (by rw [← e4]; exact HBN3.out.drewN nq)
                  have HK4 : Hid (KeepsOut (w.heap.size + 1) (w.heap.size + 1 + 1) W2 W4) := Lib.hid (by rw [← e4]; exact HK3.out.trans (keepsOut_drewN _ _ _ _))
                  have HL4 : Hid (BlkA W4 wr.heap.size 105 #[.int .i8 (f : Int), .int .i8 (t : Int), .int .i16 (a : Int), .int .i16 (b : Int)]) := Lib.hid (by rw [← e4]; exact HL3.out.drewN nq)
                  rw [e4]
                  clear e4 z0 c0 c1
                  have HQN : Hid (∀ s h, s < 8 → h ≤ 300 → (A s h = true ↔ Qm L wo sy s0 h0 H (i + 1) s h)) := Lib.hid (fun s h hs hh => by rw [HNO.out HNOT.out s h]; exact HQ.out s h hs hh)
                  go_wp2_with fail
                  go_roundw
                  case rel => exact ⟨i + 1, cs, A, by omega, by go_num, HBT4.out, HT.out, HQN.out, HK4.out⟩
                  case measure => simp [intOf]; omega
                · have d1 : ((f : Int) != wo) = true := by simp [p1]
                  by_cases p2 : (t : Int) = wo
                  · have d2 : ((t : Int) != wo) = false := by simp [p2]
                    have HNOT : Hid (¬ (((f : Int) ≠ wo ∧ (t : Int) ≠ wo) ∧ Src L wo sy s0 h0 f H)) := Lib.hid (fun h => h.1.2 p2)
                    clear p1 p2
                    go_big_quiet (fail)
                    obtain ⟨W4, e4⟩ : ∃ W, W3.drewN nq = W := ⟨_, rfl⟩
                    have HBT4 : Hid (BlkA W4 (w.heap.size + 1) 81 cs) := Lib.hid (by rw [← e4]; exact HBT3.out.drewN nq)
                    have HBN4 : Hid (BlkA W4 B 35 (netB (st : Int) (sy : Int) (.slice (some ⟨bb, 0, none⟩) len cap))) := Lib.hid (by rw [← e4]; exact HBN3.out.drewN nq)
                    have HK4 : Hid (KeepsOut (w.heap.size + 1) (w.heap.size + 1 + 1) W2 W4) := Lib.hid (by rw [← e4]; exact HK3.out.trans (keepsOut_drewN _ _ _ _))
                    have HL4 : Hid (BlkA W4 wr.heap.size 105 #[.int .i8 (f : Int), .int .i8 (t : Int), .int .i16 (a : Int), .int .i16 (b : Int)]) := Lib.hid (by rw [← e4]; exact HL3.out.drewN nq)
                    rw [e4]
                    clear e4 z0 c0 c1
                    have HQN : Hid (∀ s h, s < 8 → h ≤ 300 → (A s h = true ↔ Qm L wo sy s0 h0 H (i + 1) s h)) := Lib.hid (fun s h hs hh => by rw [HNO.out HNOT.out s h]; exact HQ.out s h hs hh)
                    go_wp2_with fail
                    go_roundw
                    case rel => exact ⟨i + 1, cs, A, by omega, by go_num, HBT4.out, HT.out, HQN.out, HK4.out⟩
                    case measure => simp [intOf]; omega
                  · have d2 : ((t : Int) != wo) = true := by simp [p2]
                    have HPAS : Hid ((f : Int) ≠ wo ∧ (t : Int) ≠ wo) := Lib.hid ⟨p1, p2⟩
                    have HSR : Hid (Src L wo sy s0 h0 f H) := Lib.hid (HSR0.out)
                    clear p1 p2
                    go_big_quiet (fail)
                    obtain ⟨W4, e4⟩ : ∃ W, W3.drewN nq = W := ⟨_, rfl⟩
                    have HBT4 : Hid (BlkA W4 (w.heap.size + 1) 81 cs) := Lib.hid (by rw [← e4]; exact HBT3.out.drewN nq)
                    have HBN4 : Hid (BlkA W4 B 35 (netB (st : Int) (sy : Int) (.slice (some ⟨bb, 0, none⟩) len cap))) := Lib.hid (by rw [← e4]; exact HBN3.out.drewN nq)
                    have HK4 : Hid (KeepsOut (w.heap.size + 1) (w.heap.size + 1 + 1) W2 W4) := Lib.hid (by rw [← e4]; exact HK3.out.trans (keepsOut_drewN _ _ _ _))
                    have HL4 : Hid (BlkA W4 wr.heap.size 105 #[.int .i8 (f : Int), .int .i8 (t : Int), .int .i16 (a : Int), .int .i16 (b : Int)]) := Lib.hid (by rw [← e4]; exact HL3.out.drewN nq)
                    rw [e4]
                    clear e4 z0 c0 c1
                    have x0 : W4.cell? ⟨wr.heap.size, 0, none⟩ = some (.int .i8 (f : Int)) := HL4.out.at 0
                    have x1 : W4.cell? ⟨wr.heap.size, 1, none⟩ = some (.int .i8 (t : Int)) := HL4.out.at 1
                    have x2 : W4.cell? ⟨wr.heap.size, 2, none⟩ = some (.int .i16 (a : Int)) := HL4.out.at 2
                    have x3 : W4.cell? ⟨wr.heap.size, 3, none⟩ = some (.int .i16 (b : Int)) := HL4.out.at 3
                    go_wp2_with fail
                    have WFQ := Lib.hid (show -1 ≤ wo ∧ wo ≤ 7 from hwo)
                    refine (salong_any B (w.heap.size + 1) st sy (.slice (some ⟨bb, 0, none⟩) len cap) f t a b H cs A (by omega) ht8 (by omega) hb40 (by omega) (by omega) _ HBN4.out HBT4.out HT.out).mono ?_
                    rintro e w6 ⟨⟨u, rfl⟩, cs2, bt2, hT2, hk2⟩
                    have BT6 := Lib.hid bt2
                    have T6 := Lib.hid hT2
                    have K6 := Lib.hid (HK4.out.trans hk2)
                    have Q6 : Hid (∀ s h, s < 8 → h ≤ 300 → (alK A t H a (b + sy + 1) s h = true ↔ Qm L wo sy s0 h0 H (i + 1) s h)) := Lib.hid (fun s h hs hh => by
                      rw [HYES.out HPAS.out HSR.out s h, ← HQ.out s h hs hh]
                      unfold alK
                      rw [Bool.or_eq_true, decide_eq_true_eq]
                      constructor
                      · rintro (h1 | h1)
                        · exact .inl h1
                        · exact .inr ⟨h1.1, h1.2.1, by omega⟩
                      · rintro (h1 | h1)
                        · exact .inl h1
                        · exact .inr ⟨h1.1, h1.2.1, by omega⟩)
                    clear bt2 hT2 hk2
                    go_wp2_with fail
                    go_roundw
                    case rel => exact ⟨i + 1, cs2, _, by omega, by go_num, BT6.out, T6.out, Q6.out, K6.out⟩
                    case measure => simp [intOf]; omega
          · have u1 : ((H : Int) == (h0 : Int)) = false := by simp; omega
            have HE1 := Lib.hid e1
            clear e1
            obtain ⟨bv, hbv⟩ : ∃ bv, A f H = bv := ⟨_, rfl⟩
            cases bv with
            | false =>
              go_wp2_with fail
              obtain ⟨W3, e3⟩ : ∃ W, wr.alloc (.cells #[.int .i8 (f : Int), .int .i8 (t : Int), .int .i16 (a : Int), .int .i16 (b : Int)] 105) = W := ⟨_, rfl⟩
              have HBT3 : Hid (BlkA W3 (w.heap.size + 1) 81 cs) := Lib.hid (by rw [← e3]; exact HBT2.out.alloc _)
              have HBN3 : Hid (BlkA W3 B 35 (netB (st : Int) (sy : Int) (.slice (some ⟨bb, 0, none⟩) len cap))) := Lib.hid (by rw [← e3]; exact HBN2.out.alloc _)
              have HK3 : Hid (KeepsOut (w.heap.size + 1) (w.heap.size + 1 + 1) W2 W3) := Lib.hid (by rw [← e3]; exact HK.out.trans (keepsOut_alloc _ _ _ _))
              have HL3 : Hid (BlkA W3 wr.heap.size 105 #[.int .i8 (f : Int), .int .i8 (t : Int), .int .i16 (a : Int), .int .i16 (b : Int)]) := Lib.hid (by rw [← e3]; exact BlkA.new rfl _ _)
              have z0 : W3.cell? ⟨w.heap.size + 1, f * 301 + H, none⟩ = some (.bool false) := ((HBT3.out.at _).trans (HT.out.at' f H hf8 (by omega))).trans (by rw [hbv])
              have c0 : W3.cell? ⟨wr.heap.size, 0, none⟩ = some (.int .i8 (f : Int)) := HL3.out.at 0
              have c1 : W3.cell? ⟨wr.heap.size, 1, none⟩ = some (.int .i8 (t : Int)) := HL3.out.at 1
              rw [e3]
              clear e3 n2 g0 g1 q0 q1 q2 q3
              have HNOT : Hid (¬ (((f : Int) ≠ wo ∧ (t : Int) ≠ wo) ∧ Src L wo sy s0 h0 f H)) := Lib.hid (fun h => by
                rcases HSRC.out.1 h.2 with h1 | h1
                · exact HE1.out h1.2
                · rw [hbv] at h1; cases h1)
              clear hbv
              go_big_quiet (fail)
              obtain ⟨W4, e4⟩ : ∃ W, W3.drewN nq = W := ⟨_, rfl⟩
              have HBT4 : Hid (BlkA W4 (w.heap.size + 1) 81 cs) := Lib.hid (by rw [← e4]; exact HBT3.out.drewN nq)
              have HBN4 : Hid (BlkA W4 B 35 (netB (st : Int) (sy : Int) (.slice (some ⟨bb, 0, none⟩) len cap))) := Lib.hid (by rw [← e4]; exact HBN3.out.drewN nq)
              have HK4 : Hid (KeepsOut (w.heap.size + 1) (w.heap.size + 1 + 1) W2 W4) := Lib.hid (by rw [← e4]; exact HK3.out.trans (keepsOut_drewN _ _ _ _))
              have HL4 : Hid (BlkA W4 wr.heap.size 105 #[.int .i8 (f : Int), .int .i8 (t : Int), .int .i16 (a : Int), .int .i16 (b : Int)]) := Lib.hid (by rw [← e4]; exact HL3.out.drewN nq)
              rw [e4]
              clear e4 z0 c0 c1
              have HQN : Hid (∀ s h, s < 8 → h ≤ 300 → (A s h = true ↔ Qm L wo sy s0 h0 H (i + 1) s h)) := Lib.hid (fun s h hs hh => by rw [HNO.out HNOT.out s h]; exact HQ.out s h hs hh)
              go_wp2_with fail
              go_roundw
              case rel => exact ⟨i + 1, cs, A, by omega, by go_num, HBT4.out, HT.out, HQN.out, HK4.out⟩
              case measure => simp [intOf]; omega
            | true =>
              go_wp2_with fail
              obtain ⟨W3, e3⟩ : ∃ W, wr.alloc (.cells #[.int .i8 (f : Int), .int .i8 (t : Int), .int .i16 (a : Int), .int .i16 (b : Int)] 105) = W := ⟨_, rfl⟩
              have HBT3 : Hid (BlkA W3 (w.heap.size + 1) 81 cs) := Lib.hid (by rw [← e3]; exact HBT2.out.alloc _)
              have HBN3 : Hid (BlkA W3 B 35 (netB (st : Int) (sy : Int) (.slice (some ⟨bb, 0, none⟩) len cap))) := Lib.hid (by rw [← e3]; exact HBN2.out.alloc _)
              have HK3 : Hid (KeepsOut (w.heap.size + 1) (w.heap.size + 1 + 1) W2 W3) := Lib.hid (by rw [← e3]; exact HK.out.trans (keepsOut_alloc _ _ _ _))
              have HL3 : Hid (BlkA W3 wr.heap.size 105 #[.int .i8 (f : Int), .int .i8 (t : Int), .int .i16 (a : Int), .int .i16 (b : Int)]) := Lib.hid (by rw [← e3]; exact BlkA.new rfl _ _)
              have z0 : W3.cell? ⟨w.heap.size + 1, f * 301 + H, none⟩ = some (.bool true) := ((HBT3.out.at _).trans (HT.out.at' f H hf8 (by omega))).trans (by rw [hbv])
              have c0 : W3.cell? ⟨wr.heap.size, 0, none⟩ = some (.int .i8 (f : Int)) := HL3.out.at 0
              have c1 : W3.cell? ⟨wr.heap.size, 1, none⟩ = some (.int .i8 (t : Int)) := HL3.out.at 1
              rw [e3]
              clear e3 n2 g0 g1 q0 q1 q2 q3
              have HSR0 : Hid (Src L wo sy s0 h0 f H) := Lib.hid (HSRC.out.2 (.inr hbv))
              clear hbv
              by_cases p1 : (f : Int) = wo
              · have d1 : ((f : Int) != wo) = false := by simp [p1]
                have HNOT : Hid (¬ (((f : Int) ≠ wo ∧ (t : Int) ≠ wo) ∧ Src L wo sy s0 h0 f H)) := Lib.hid (fun h => h.1.1 p1)
                clear p1
                go_big_quiet (fail)
                obtain ⟨W4, e4⟩ : ∃ W, W3.drewN nq = W := ⟨_, rfl⟩
                have HBT4 : Hid (BlkA W4 (w.heap.size + 1) 81 cs) := Lib.hid (by rw [← e4]; exact HBT3.out.drewN nq)
                have HBN4 : Hid (BlkA W4 B 35 (netB (st : Int) (sy : Int) (.slice (some ⟨bb, 0, none⟩) len cap))) := Lib.hid (by rw [← e4]; exact HBN3.out.drewN nq)
                have HK4 : Hid (KeepsOut (w.heap.size + 1) (w.heap.size + 1 + 1) W2 W4) := Lib.hid (by rw [← e4]; exact HK3.out.trans (keepsOut_drewN _ _ _ _))
                have HL4 : Hid (BlkA W4 wr.heap.size 105 #[.int .i8 (f : Int), .int .i8 (t : Int), .int .i16 (a : Int), .int .i16 (b : Int)]) := Lib.hid (by rw [← e4]; exact HL3.out.drewN nq)
                rw [e4]
                clear e4 z0 c0 c1
                have HQN : Hid (∀ s h, s < 8 → h ≤ 300 → (A s h = true ↔ Qm L wo sy s0 h0 H (i + 1) s h)) := Lib.hid (fun s h hs hh => by rw [HNO.out HNOT.out s h]; exact HQ.out s h hs hh)
                go_wp2_with fail
                go_roundw
                case rel => exact ⟨i + 1, cs, A, by omega, by go_num, HBT4.out, HT.out, HQN.out, HK4.out⟩
                case measure => simp [intOf]; omega
              · have d1 : ((f : Int) != wo) = true := by simp [p1]
                by_cases p2 : (t : Int) = wo
                · have d2 : ((t : Int) != wo) = false := by simp [p2]
                  have HNOT : Hid (¬ (((f : Int) ≠ wo ∧ (t : Int) ≠ wo) ∧ Src L wo sy s0 h0 f H)) := Lib.hid (fun h => h.1.2 p2)
                  clear p1 p2
                  go_big_quiet (fail)
                  obtain ⟨W4, e4⟩ : ∃ W, W3.drewN nq = W := ⟨_, rfl⟩
                  have HBT4 : Hid (BlkA W4 (w.heap.size + 1) 81 cs) := Lib.hid (by rw [← e4]; exact HBT3.out.drewN nq)
                  have HBN4 : Hid (BlkA W4 B 35 (netB (st : Int) (sy : Int) (.slice (some ⟨bb, 0, none⟩) len cap))) := Lib.hid (by rw [← e4]; exact HBN3.out.drewN nq)
                  have HK4 : Hid (KeepsOut (w.heap.size + 1) (w.heap.size + 1 + 1) W2 W4) := Lib.hid (by rw [← e4]; exact HK3.out.trans (keepsOut_drewN _ _ _ _))
                  have HL4 : Hid (BlkA W4 wr.heap.size 105 #[.int .i8 (f : Int), .int .i8 (t : Int), .int .i16 (a : Int), .int .i16 (b : Int)]) := Lib.hid (by rw [← e4]; exact HL3.out.drewN nq)
                  rw [e4]
                  clear e4 z0 c0 c1
                  have HQN : Hid (∀ s h, s < 8 → h ≤ 300 → (A s h = true ↔ Qm L wo sy s0 h0 H (i + 1) s h)) := Lib.hid (fun s h hs hh => by rw [HNO.out HNOT.out s h]; exact HQ.out s h hs hh)
                  go_wp2_with fail
                  go_roundw
                  case rel => exact ⟨i + 1, cs, A, by omega, by go_num, HBT4.out, HT.out, HQN.out, HK4.out⟩
                  case measure => simp [intOf]; omega
                · have d2 : ((t : Int) != wo) = true := by simp [p2]
                  have HPAS : Hid ((f : Int) ≠ wo ∧ (t : Int) ≠ wo) := Lib.hid ⟨p1, p2⟩
                  have HSR : Hid (Src L wo sy s0 h0 f H) := Lib.hid (HSR0.out)
                  clear p1 p2
                  go_big_quiet (fail)
                  obtain ⟨W4, e4⟩ : ∃ W, W3.drewN nq = W := ⟨_, rfl⟩
                  have HBT4 : Hid (BlkA W4 (w.heap.size + 1) 81 cs) := Lib.hid (by rw [← e4]; exact HBT3.out.drewN nq)
                  have HBN4 : Hid (BlkA W4 B 35 (netB (st : Int) (sy : Int) (.slice (some ⟨bb, 0, none⟩) len cap))) := Lib.hid (by rw [← e4]; exact HBN3.out.drewN nq)
                  have HK4 : Hid (KeepsOut (w.heap.size + 1) (w.heap.size + 1 + 1) W2 W4) := Lib.hid (by rw [← e4]; exact HK3.out.trans (keepsOut_drewN _ _ _ _))
                  have HL4 : Hid (BlkA W4 wr.heap.size 105 #[.int .i8 (f : Int), .int .i8 (t : Int), .int .i16 (a : Int), .int .i16 (b : Int)]) := Lib.hid (by rw [← e4]; exact HL3.out.drewN nq)
                  rw [e4]
                  clear e4 z0 c0 c1
                  have x0 : W4.cell? ⟨wr.heap.size, 0, none⟩ = some (.int .i8 (f : Int)) := HL4.out.at 0
                  have x1 : W4.cell? ⟨wr.heap.size, 1, none⟩ = some (.int .i8 (t : Int)) := HL4.out.at 1
                  have x2 : W4.cell? ⟨wr.heap.size, 2, none⟩ = some (.int .i16 (a : Int)) := HL4.out.at 2
                  have x3 : W4.cell? ⟨wr.heap.size, 3, none⟩ = some (.int .i16 (b : Int)) := HL4.out.at 3
                  go_wp2_with fail
                  have WFQ := Lib.hid (show -1 ≤ wo ∧ wo ≤ 7 from hwo)
                  refine (salong_any B (w.heap.size + 1) st sy (.slice (some ⟨bb, 0, none⟩) len cap) f t a b H cs A (by omega) ht8 (by omega) hb40 (by omega) (by omega) _ HBN4.out HBT4.out HT.out).mono ?_
                  rintro e w6 ⟨⟨u, rfl⟩, cs2, bt2, hT2, hk2⟩
                  have BT6 := Lib.hid bt2
                  have T6 := Lib.hid hT2
                  have K6 := Lib.hid (HK4.out.trans hk2)
                  have Q6 : Hid (∀ s h, s < 8 → h ≤ 300 → (alK A t H a (b + sy + 1) s h = true ↔ Qm L wo sy s0 h0 H (i + 1) s h)) := Lib.hid (fun s h hs hh => by
                    rw [HYES.out HPAS.out HSR.out s h, ← HQ.out s h hs hh]
                    unfold alK
                    rw [Bool.or_eq_true, decide_eq_true_eq]
                    constructor
                    · rintro (h1 | h1)
                      · exact .inl h1
                      · exact .inr ⟨h1.1, h1.2.1, by omega⟩
                    · rintro (h1 | h1)
                      · exact .inl h1
                      · exact .inr ⟨h1.1, h1.2.1, by omega⟩)
                  clear bt2 hT2 hk2
                  go_wp2_with fail
                  go_roundw
                  case rel => exact ⟨i + 1, cs2, _, by omega, by go_num, BT6.out, T6.out, Q6.out, K6.out⟩
                  case measure => simp [intOf]; omega
        · have hi' : i = len := by omega
          have HQ2 : Hid (∀ s h, s < 8 → h ≤ 300 → (A s h = true ↔ Qm L wo sy s0 h0 (H + 1) 0 s h)) := Lib.hid (fun s h hs hh => by
            rw [HQ.out s h hs hh, hi', ← HM.out]; exact Qm_next)
          clear hi' g0 g1
          go_wp2_with fail
          go_roundw
          case rel => exact ⟨H + 1, cs, A, by omega, by omega, by go_num, HBT2.out, HT.out, HQ2.out, HK.out⟩
          case measure => simp [intOf]; omega
    · have tH : decide ((H : Int) ≤ 300) = false := decide_eq_false hlt
      have hH' : H = 301 := by omega
      have HRES : Hid (∀ s h, s < 8 → h ≤ 300 → (A s h = true ↔ Arr L wo sy s0 h0 s h)) := Lib.hid (fun s h hs hh => by
        rw [HQq.out s h hs hh, hH']; exact Qm_end hh)
      clear hH'
      go_wp2_with fail
      go_ret
      exact ⟨w.heap.size + 1, rfl, by omega, ⟨cs, A, HBTq.out, HTq.out, HRES.out⟩, kout_below HB1.out HKq.out (by omega) (by have := HB1.out.size; exact this)⟩
end Go.Proofs.Ytamnojhkfknnoaa
