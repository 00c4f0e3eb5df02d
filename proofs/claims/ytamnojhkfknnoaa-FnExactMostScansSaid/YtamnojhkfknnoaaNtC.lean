/-
  What is asked of a net: the code of it, on both sides.
-/
import Derived.Test.YtamnojhkfknnoaaNtW
import Derived.Test.YtamnojhkfknnoaaRScan
namespace Go.Proofs.Ytamnojhkfknnoaa
open Go Go.RowKit
set_option linter.unusedVariables false

/-- There can be such a scan. -/
def okSc (st : Int) (s : Int × Int) : Prop := (0 ≤ s.1 ∧ s.1 ≤ st - 1) ∧ (0 ≤ s.2 ∧ s.2 ≤ 300)
instance (st : Int) (s : Int × Int) : Decidable (okSc st s) := inferInstanceAs (Decidable (_ ∧ _))
def scB (st x0 x1 : Int) : Bool := decide (okSc st (x0, x1))
theorem scB_true {st x0 x1 : Int} (h : (0 ≤ x0 ∧ x0 ≤ st - 1) ∧ (0 ≤ x1 ∧ x1 ≤ 300)) : scB st x0 x1 = true := decide_eq_true h
theorem scB_false {st x0 x1 : Int} (h : ¬ ((0 ≤ x0 ∧ x0 ≤ st - 1) ∧ (0 ≤ x1 ∧ x1 ≤ 300))) : scB st x0 x1 = false := decide_eq_false h
def OkScTo (st : Int) (cs : List (Int × Int)) (k : Nat) : Prop := ∀ i, i < k → okSc st (cs.getD i (0, 0))
instance (st : Int) (cs : List (Int × Int)) (k : Nat) : Decidable (OkScTo st cs k) := inferInstanceAs (Decidable (∀ i, i < k → _))
theorem OkScTo.zero (st : Int) (cs : List (Int × Int)) : OkScTo st cs 0 := fun i hi => absurd hi (by omega)
theorem OkScTo.succ {st : Int} {cs : List (Int × Int)} {k : Nat} (h : OkScTo st cs k) (h1 : okSc st (cs.getD k (0, 0))) : OkScTo st cs (k + 1) := fun i hi => by
  by_cases e : i = k
  · subst e; exact h1
  · exact h i (by omega)
def scsB (st : Int) (cs : List (Int × Int)) : Bool := decide (OkScTo st cs cs.length)
theorem scsB_true {st : Int} {cs : List (Int × Int)} (h : OkScTo st cs cs.length) : scsB st cs = true := decide_eq_true h
theorem scsB_bad {st : Int} {cs : List (Int × Int)} {k : Nat} (hk : k < cs.length) (h : ¬ okSc st (cs.getD k (0, 0))) : scsB st cs = false := decide_eq_false fun q => h (q k hk)
theorem scsB_spec {st : Int} {cs : List (Int × Int)} (h : scsB st cs = true) : OkScTo st cs cs.length := of_decide_eq_true h
/-- The code of a net and of what is asked of it. -/
def chkC (st sy : Int) (ps : List Lan) (cs : List (Int × Int)) (xs hs : List Int) : Int :=
  if vldN st sy ps = true then (if betwB xs 0 (st - 1) = true ∧ betwB hs 0 300 = true ∧ scsB st cs = true then (if cs.length ≤ 12 ∧ xs.length ≤ 12 then 0 else 3) else 2) else 1
/-- The model's code. -/
def askC (st sy : Int) (ps : List Lan) (fine : Bool) : Int := if vldN st sy ps = true then (if fine = true then 0 else 2) else 1

theorem shour_any (x : Int) (w : World) : Calls Try.prog 58 #[.int .i64 x] w fun e w' => e = .returned (.bool (inB x 0 300)) ∧ w = w' := by
  go_enter Try.func58, Try.ntmps58
  go_wp2_with (go_at_call 71; refine (in_same _ _ _ _).mono ?_; rintro e w2 ⟨rfl, rfl⟩)
  go_ret
  exact ⟨rfl, rfl⟩
set_option maxHeartbeats 1000000 in
theorem sscan_any (B : Nat) (st sy : Int) (v : Value) (x0 x1 : Int) (w : World) (h8 : -128 ≤ st ∧ st ≤ 127) (hx : FitSc (x0, x1)) (hb : BlkA w B 35 (netB st sy v)) :
    Calls Try.prog 34 #[.pointer (some ⟨B, 0, none⟩), .agg #[.int .i8 x0, .int .i16 x1]] w fun e w' => e = .returned (.bool (scB st x0 x1)) ∧ Below w.heap.size w w' := by
  have HBX := Lib.hid hb
  have HST := Lib.hid h8
  unfold FitSc at hx
  simp only at hx
  obtain ⟨⟨l0, u0⟩, l1, u1⟩ := hx
  clear hb h8
  by_cases t0 : 0 ≤ x0 ∧ x0 ≤ st - 1
  · have d0 := inB_true t0
    by_cases t1 : 0 ≤ x1 ∧ x1 ≤ 300
    · have d1 := inB_true t1
      rw [scB_true ⟨t0, t1⟩]
      go_enter Try.func34, Try.ntmps34
      go_wp2_with (first | (go_at_call 57; refine (sstat_any B 35 st sy v _ _ HST.out (HBX.out.alloc _)).mono ?_; rintro e w2 ⟨rfl, rfl⟩) | (go_at_call 58; refine (shour_any _ _).mono ?_; rintro e w2 ⟨rfl, rfl⟩))
      go_ret
      exact ⟨rfl, (Below.refl _ _).alloc (Nat.le_refl _) _⟩
    · have d1 := inB_false t1
      rw [scB_false (fun h => t1 h.2)]
      clear t1
      go_enter Try.func34, Try.ntmps34
      go_wp2_with (first | (go_at_call 57; refine (sstat_any B 35 st sy v _ _ HST.out (HBX.out.alloc _)).mono ?_; rintro e w2 ⟨rfl, rfl⟩) | (go_at_call 58; refine (shour_any _ _).mono ?_; rintro e w2 ⟨rfl, rfl⟩))
      go_ret
      exact ⟨rfl, (Below.refl _ _).alloc (Nat.le_refl _) _⟩
  · have d0 := inB_false t0
    rw [scB_false (fun h => t0 h.1)]
    clear t0
    go_enter Try.func34, Try.ntmps34
    go_wp2_with (first | (go_at_call 57; refine (sstat_any B 35 st sy v _ _ HST.out (HBX.out.alloc _)).mono ?_; rintro e w2 ⟨rfl, rfl⟩) | (go_at_call 58; refine (shour_any _ _).mono ?_; rintro e w2 ⟨rfl, rfl⟩))
    go_ret
    exact ⟨rfl, (Below.refl _ _).alloc (Nat.le_refl _) _⟩
set_option maxHeartbeats 1000000 in
theorem sasked_any (B : Nat) (st sy : Int) (v : Value) (ps : List Lan) (fine : Bool) (w : World) (hn : FitN st sy ps) (hv : ReadsLa w v ps) (hb : BlkA w B 35 (netB st sy v)) :
    Calls Try.prog 33 #[.pointer (some ⟨B, 0, none⟩), .bool fine] w fun e w' => e = .returned (.int .i64 (askC st sy ps fine)) ∧ Below w.heap.size w w' := by
  have HBX := Lib.hid hb
  have HV := Lib.hid hv
  clear hb hv
  cases hq : vldN st sy ps with
  | false =>
    rw [show askC st sy ps fine = 1 by simp [askC, hq]]
    go_enter Try.func33, Try.ntmps33
    go_wp2_with fail
    refine (sok_any B st sy v ps _ hn HV.out HBX.out).mono ?_
    rintro e w2 ⟨rfl, b2⟩
    go_wp2_with fail
    go_ret
    exact ⟨rfl, b2⟩
  | true =>
    cases fine with
    | true =>
      rw [show askC st sy ps true = 0 by simp [askC, hq]]
      go_enter Try.func33, Try.ntmps33
      go_wp2_with fail
      refine (sok_any B st sy v ps _ hn HV.out HBX.out).mono ?_
      rintro e w2 ⟨rfl, b2⟩
      go_wp2_with fail
      go_ret
      exact ⟨rfl, b2⟩
    | false =>
      rw [show askC st sy ps false = 2 by simp [askC, hq]]
      go_enter Try.func33, Try.ntmps33
      go_wp2_with fail
      refine (sok_any B st sy v ps _ hn HV.out HBX.out).mono ?_
      rintro e w2 ⟨rfl, b2⟩
      go_wp2_with fail
      go_ret
      exact ⟨rfl, b2⟩

theorem ihours_any (v : Value) (xs : List Int) (w : World) (hv : ReadsI w v xs) (hx : xs.length ≤ 1048576) :
    Calls Try.prog 50 #[v] w fun e w' => e = .returned (.bool (betwB xs 0 300)) ∧ w = w' := by
  have HV := Lib.hid hv
  clear hv
  go_enter Try.func50, Try.ntmps50
  go_wp2_with fail
  refine (within64_any v xs 0 300 _ HV.out hx).mono ?_
  rintro e w2 ⟨rfl, rfl⟩
  go_wp2_with fail
  go_ret
  exact ⟨rfl, rfl⟩
theorem reads_one {w : World} {b : Nat} {x : Int} (h0 : w.cell? ⟨b, 0, none⟩ = some (.int .i64 x)) : ReadsI w (.slice (some ⟨b, 0, none⟩) 1 1) [x] :=
  ⟨_, 1, rfl, fun _ => ⟨b, rfl, fun i hi => by
    rcases i with _ | i
    · exact h0
    · simp at hi⟩⟩
theorem reads_nil (w : World) : ReadsI w (.slice none 0 0) [] := ⟨none, 0, rfl, fun h => absurd rfl h⟩
theorem readsSc_nil (w : World) : ReadsSc w (.slice none 0 0) [] := ⟨none, 0, rfl, fun h => absurd rfl h⟩
set_option maxHeartbeats 8000000 in
set_option maxRecDepth 100000 in
theorem ichk_any (st sy : Int) (v : Value) (ps : List Lan) (u0 u1 u2 : Value) (cs : List (Int × Int)) (xs hs : List Int) (w : World) (hn : FitN st sy ps) (hv : ReadsLa w v ps)
    (h0 : ReadsSc w u0 cs) (hf0 : FitsSc cs) (h1 : ReadsI w u1 xs) (h2 : ReadsI w u2 hs) (l0 : cs.length ≤ 1048576) (l1 : xs.length ≤ 1048576) (l2 : hs.length ≤ 1048576) :
    Calls Try.prog 25 #[netV st sy v, .agg #[u0, u1, u2]] w fun e w' => e = .returned (.int .i64 (chkC st sy ps cs xs hs)) ∧ Below w.heap.size w w' := by
  have HV := Lib.hid hv
  have H0 := Lib.hid h0
  have H1 := Lib.hid h1
  have H2 := Lib.hid h2
  have HN := Lib.hid hn
  have HF := Lib.hid hf0
  have HST := Lib.hid hn.s
  obtain ⟨a0, c0, rfl, h0'⟩ := h0
  obtain ⟨a1, c1, rfl, h1'⟩ := h1
  have HA := Lib.hid h0'
  clear hv h0' h1' h2 hn hf0
  have hb1 : Below w.heap.size w ((w.alloc (.cells #[.int .i8 st, .int .i16 sy, v] 35)).alloc (.cells #[.slice a0 cs.length c0, .slice a1 xs.length c1, u2] 64)) := (((Below.refl _ _).alloc (Nat.le_refl _) _).alloc (by simp) _)
  have BX : BlkA ((w.alloc (.cells #[.int .i8 st, .int .i16 sy, v] 35)).alloc (.cells #[.slice a0 cs.length c0, .slice a1 xs.length c1, u2] 64)) w.heap.size 35 #[.int .i8 st, .int .i16 sy, v] := (BlkA.new rfl _ _).alloc _
  have BY : BlkA ((w.alloc (.cells #[.int .i8 st, .int .i16 sy, v] 35)).alloc (.cells #[.slice a0 cs.length c0, .slice a1 xs.length c1, u2] 64)) (w.heap.size + 1) 64 #[.slice a0 cs.length c0, .slice a1 xs.length c1, u2] := BlkA.new (by simp) _ _
  obtain ⟨m, hm⟩ : ∃ m, cs.length = m := ⟨_, rfl⟩
  obtain ⟨n, hn'⟩ : ∃ m, xs.length = m := ⟨_, rfl⟩
  have HM := Lib.hid hm
  have HNN := Lib.hid hn'
  have HL1 := Lib.hid l1
  rw [hm] at BX BY hb1 l0 ⊢
  rw [hn'] at BX BY hb1 l1 ⊢
  clear hm hn'
  cases hq : vldN st sy ps with
  | false =>
    rw [show chkC st sy ps cs xs hs = 1 by simp [chkC, hq]]
    have HB1 := Lib.hid hb1
    clear BX BY hb1
    go_enter Try.func25, Try.ntmps25
    go_wp2_with fail
    refine (ivldN_any st sy v ps _ HN.out (HV.out.below HB1.out)).mono ?_
    rintro e w2 ⟨rfl, b2⟩
    go_wp2_with fail
    go_ret
    exact ⟨rfl, blink HB1.out b2⟩
  | true =>
  go_enter Try.func25, Try.ntmps25
  go_wp2_with fail
  obtain ⟨W1, hW⟩ : ∃ W, ((w.alloc (.cells #[.int .i8 st, .int .i16 sy, v] 35)).alloc (.cells #[.slice a0 m c0, .slice a1 n c1, u2] 64)) = W := ⟨_, rfl⟩
  rw [hW] at BX BY hb1 ⊢
  clear hW
  refine (ivldN_any st sy v ps _ HN.out (HV.out.below hb1)).mono ?_
  rintro e w2 ⟨rfl, b2⟩
  have B2 := BX.below b2
  have Y2 := BY.below b2
  have c2 := blink hb1 b2
  have n0 : w2.cell? ⟨w.heap.size, 0, none⟩ = some (.int .i8 st) := B2.at 0
  have n1 : w2.cell? ⟨w.heap.size, 1, none⟩ = some (.int .i16 sy) := B2.at 1
  have n2 : w2.cell? ⟨w.heap.size, 2, none⟩ = some v := B2.at 2
  have y0 : w2.cell? ⟨w.heap.size + 1, 0, none⟩ = some (.slice a0 m c0) := Y2.at 0
  have y1 : w2.cell? ⟨w.heap.size + 1, 1, none⟩ = some (.slice a1 n c1) := Y2.at 1
  have y2 : w2.cell? ⟨w.heap.size + 1, 2, none⟩ = some u2 := Y2.at 2
  have HB2 := Lib.hid B2
  have HY2 := Lib.hid Y2
  have HC2 := Lib.hid c2
  have HH1 : Hid (ReadsI w2 (.slice a1 n c1) xs) := Lib.hid (by have := H1.out.below c2; rw [HNN.out] at this; exact this)
  clear BX BY hb1 B2 Y2 c2 b2
  go_wp2_with fail
  refine (ihas_any st sy v _ xs _ HST.out HH1.out HL1.out).mono ?_
  rintro e w3 ⟨rfl, b3⟩
  have B3 := HB2.out.below b3
  have Y3 := HY2.out.below b3
  have n0 : w3.cell? ⟨w.heap.size, 0, none⟩ = some (.int .i8 st) := B3.at 0
  have n1 : w3.cell? ⟨w.heap.size, 1, none⟩ = some (.int .i16 sy) := B3.at 1
  have n2 : w3.cell? ⟨w.heap.size, 2, none⟩ = some v := B3.at 2
  have y0 : w3.cell? ⟨w.heap.size + 1, 0, none⟩ = some (.slice a0 m c0) := Y3.at 0
  have y1 : w3.cell? ⟨w.heap.size + 1, 1, none⟩ = some (.slice a1 n c1) := Y3.at 1
  have y2 : w3.cell? ⟨w.heap.size + 1, 2, none⟩ = some u2 := Y3.at 2
  have HB3 := Lib.hid B3
  have HY3 := Lib.hid Y3
  have HC3 := Lib.hid (blink HC2.out b3)
  clear B3 Y3 b3 HB2 HY2 HC2
  by_cases g1 : betwB xs 0 (st - 1) = true
  rotate_left
  · have HCD : Hid (chkC st sy ps cs xs hs = 2) := Lib.hid (by simp [chkC, hq, g1])
    have g1' : betwB xs 0 (st - 1) = false := by simpa using g1
    clear g1
    go_wp2_with fail
    go_ret
    exact ⟨ret_int HCD.out.symm, HC3.out⟩
  by_cases g2 : betwB hs 0 300 = true
  rotate_left
  · have HCD : Hid (chkC st sy ps cs xs hs = 2) := Lib.hid (by simp [chkC, hq, g2])
    have g2' : betwB hs 0 300 = false := by simpa using g2
    clear g2
    go_wp2_with fail
    refine (ihours_any u2 hs _ (H2.out.below HC3.out) l2).mono ?_
    rintro e w4 ⟨rfl, rfl⟩
    go_wp2_with fail
    go_ret
    exact ⟨ret_int HCD.out.symm, HC3.out⟩
  have HSZ : Hid (w.heap.size + 1 < w3.heap.size) := Lib.hid HY3.out.lt
  go_wp2_with fail
  refine (ihours_any u2 hs _ (H2.out.below HC3.out) l2).mono ?_
  rintro e w4 ⟨rfl, rfl⟩
  go_wp2_with fail
  clear n0 n1 n2 y0 y1 y2
  have HBAD : Hid (∀ k, k < m → ¬ okSc st (cs.getD k (0, 0)) → chkC st sy ps cs xs hs = 2) := Lib.hid (fun k hk h => by
    have := scsB_bad (by rw [HM.out]; exact hk) h
    simp [chkC, this, hq])
  have HOKK : Hid (OkScTo st cs m → chkC st sy ps cs xs hs = if m ≤ 12 ∧ n ≤ 12 then 0 else 3) := Lib.hid (fun h => by
    have := scsB_true (by rw [HM.out]; exact h)
    simp [chkC, this, hq, g1, g2, HM.out, HNN.out])
  go_loopw [24] (fun i wr => ∃ k : Nat, k ≤ m ∧ i = .int .i64 k ∧ OkScTo st cs k ∧ Below w3.heap.size w3 wr) (fun i _ => m - (intOf i).toNat)
  case atStart => exact ⟨0, Nat.zero_le _, rfl, OkScTo.zero st cs, Below.refl _ _⟩
  case round =>
    obtain ⟨k, hk, rfl, hr, hnx⟩ := hrel
    have HR := Lib.hid hr
    have HB0 := Lib.hid hnx
    have HB := Lib.hid (blink HC3.out hnx)
    have bx := HB3.out.below hnx
    have by' := HY3.out.below hnx
    have n0 : wr.cell? ⟨w.heap.size, 0, none⟩ = some (.int .i8 st) := bx.at 0
    have n1 : wr.cell? ⟨w.heap.size, 1, none⟩ = some (.int .i16 sy) := bx.at 1
    have n2 : wr.cell? ⟨w.heap.size, 2, none⟩ = some v := bx.at 2
    have y0 : wr.cell? ⟨w.heap.size + 1, 0, none⟩ = some (.slice a0 m c0) := by'.at 0
    have y1 : wr.cell? ⟨w.heap.size + 1, 1, none⟩ = some (.slice a1 n c1) := by'.at 1
    have hsw : w.heap.size < wr.heap.size := bx.lt
    have hsw1 : w.heap.size + 1 < wr.heap.size := by'.lt
    by_cases hlt : k < m
    · obtain ⟨b, rfl, hc⟩ := HA.out (by intro e; have := HM.out; rw [e] at this; simp at this; omega)
      obtain ⟨e0, e1⟩ := (hc.below HB.out) k (by rw [HM.out]; exact hlt)
      have hf := HF.out.get k (by rw [HM.out]; exact hlt)
      have HBK : Hid (¬ okSc st (cs.getD k (0, 0)) → chkC st sy ps cs xs hs = 2) := Lib.hid (HBAD.out k hlt)
      have HOK : Hid (okSc st (cs.getD k (0, 0)) → OkScTo st cs (k + 1)) := Lib.hid HR.out.succ
      obtain ⟨q, hq'⟩ : ∃ q, cs.getD k (0, 0) = q := ⟨_, rfl⟩
      rw [hq'] at e0 e1 hf HBK HOK
      obtain ⟨x0, x1⟩ := q
      unfold FitSc at hf
      simp only at hf
      obtain ⟨⟨p0, p1⟩, p2, p3⟩ := hf
      have hwr : w3.heap.size ≤ wr.heap.size := hnx.size
      have hkl : (k : Int) < (m : Int) := by omega
      clear hq' hr hnx bx by' hc
      by_cases t0 : 0 ≤ x0 ∧ x0 ≤ st - 1
      · have d0 := betw1_true t0
        by_cases t1 : 0 ≤ x1 ∧ x1 ≤ 300
        · have d1 := betw1_true t1
          go_wp2_with (first | (go_at_call 49; refine (ihas_any st sy _ _ [x0] _ HST.out (reads_one (by simp; done)) (by simp)).mono ?_; rintro e w5 ⟨rfl, b5⟩; have hs5 := b5.size; simp at hs5; have z0 := b5.cell (p := ⟨wr.heap.size, 0, none⟩) (by simp; omega); have z1 := b5.cell (p := ⟨wr.heap.size, 1, none⟩) (by simp; omega); have hz5 : wr.heap.size < w5.heap.size := by omega) | (go_at_call 50; refine (ihours_any _ [x1] _ (reads_one (by simp; done)) (by simp)).mono ?_; rintro e w6 ⟨rfl, rfl⟩))
          go_roundw
          case rel => exact ⟨k + 1, by omega, by go_num, HOK.out ⟨t0, t1⟩, by repeat (first | exact HB.out | exact HB0.out | refine Below.trans ?_ (b5.mono (by first | omega | (simp; omega))) | refine Below.drew ?_ | refine Below.setCell ?_ (by first | (simp; done) | (simp; omega) | omega) _ | refine Below.alloc ?_ (by first | (simp; done) | (simp; omega) | omega) _)⟩
          case measure => simp [intOf]; omega
        · have d1 := betw1_false t1
          have HT := Lib.hid t1
          clear t1
          go_wp2_with (first | (go_at_call 49; refine (ihas_any st sy _ _ [x0] _ HST.out (reads_one (by simp; done)) (by simp)).mono ?_; rintro e w5 ⟨rfl, b5⟩; have hs5 := b5.size; simp at hs5; have z0 := b5.cell (p := ⟨wr.heap.size, 0, none⟩) (by simp; omega); have z1 := b5.cell (p := ⟨wr.heap.size, 1, none⟩) (by simp; omega); have hz5 : wr.heap.size < w5.heap.size := by omega) | (go_at_call 50; refine (ihours_any _ [x1] _ (reads_one (by simp; done)) (by simp)).mono ?_; rintro e w6 ⟨rfl, rfl⟩))
          go_ret
          exact ⟨ret_int (HBK.out (fun h => HT.out h.2)).symm, by repeat (first | exact HB.out | exact HB0.out | refine Below.trans ?_ (b5.mono (by first | omega | (simp; omega))) | refine Below.drew ?_ | refine Below.setCell ?_ (by first | (simp; done) | (simp; omega) | omega) _ | refine Below.alloc ?_ (by first | (simp; done) | (simp; omega) | omega) _)⟩
      · have d0 := betw1_false t0
        have HT := Lib.hid t0
        clear t0
        go_wp2_with (first | (go_at_call 49; refine (ihas_any st sy _ _ [x0] _ HST.out (reads_one (by simp; done)) (by simp)).mono ?_; rintro e w5 ⟨rfl, b5⟩; have hs5 := b5.size; simp at hs5; have z0 := b5.cell (p := ⟨wr.heap.size, 0, none⟩) (by simp; omega); have z1 := b5.cell (p := ⟨wr.heap.size, 1, none⟩) (by simp; omega); have hz5 : wr.heap.size < w5.heap.size := by omega) | (go_at_call 50; refine (ihours_any _ [x1] _ (reads_one (by simp; done)) (by simp)).mono ?_; rintro e w6 ⟨rfl, rfl⟩))
        go_ret
        exact ⟨ret_int (HBK.out (fun h => HT.out h.1)).symm, by repeat (first | exact HB.out | exact HB0.out | refine Below.trans ?_ (b5.mono (by first | omega | (simp; omega))) | refine Below.drew ?_ | refine Below.setCell ?_ (by first | (simp; done) | (simp; omega) | omega) _ | refine Below.alloc ?_ (by first | (simp; done) | (simp; omega) | omega) _)⟩
    · have hk' : k = m := by omega
      have HE := Lib.hid hk'
      have HCC : Hid (chkC st sy ps cs xs hs = if m ≤ 12 ∧ n ≤ 12 then 0 else 3) := Lib.hid (HOKK.out (by rw [← hk']; exact hr))
      clear hk' hr hnx bx by'
      by_cases hmn : m < n
      · have r1 : decide (m < n) = true := decide_eq_true hmn
        have r2 : decide (n < m) = false := decide_eq_false (by omega)
        have r1' : decide ((m : Int) < (n : Int)) = true := decide_eq_true (by omega)
        have r2' : decide ((n : Int) < (m : Int)) = false := decide_eq_false (by omega)
        by_cases h12 : n ≤ 12
        · have r3 : decide ((12 : Int) < (n : Int)) = false := decide_eq_false (by omega)
          have HCD : Hid (chkC st sy ps cs xs hs = 0) := Lib.hid (by rw [HCC.out, if_pos ⟨by omega, h12⟩])
          go_wp2_with fail
          go_ret
          exact ⟨ret_int HCD.out.symm, HB.out⟩
        · have r3 : decide ((12 : Int) < (n : Int)) = true := decide_eq_true (by omega)
          have HCD : Hid (chkC st sy ps cs xs hs = 3) := Lib.hid (by rw [HCC.out, if_neg (fun h => h12 h.2)])
          go_wp2_with fail
          go_ret
          exact ⟨ret_int HCD.out.symm, HB.out⟩
      · have r1 : decide (m < n) = false := decide_eq_false hmn
        have r1' : decide ((m : Int) < (n : Int)) = false := decide_eq_false (by omega)
        by_cases h12 : m ≤ 12
        · have r3 : decide ((12 : Int) < (m : Int)) = false := decide_eq_false (by omega)
          have HCD : Hid (chkC st sy ps cs xs hs = 0) := Lib.hid (by rw [HCC.out, if_pos ⟨h12, by omega⟩])
          go_wp2_with fail
          go_ret
          exact ⟨ret_int HCD.out.symm, HB.out⟩
        · have r3 : decide ((12 : Int) < (m : Int)) = true := decide_eq_true (by omega)
          have HCD : Hid (chkC st sy ps cs xs hs = 3) := Lib.hid (by rw [HCC.out, if_neg (fun h => h12 h.1)])
          go_wp2_with fail
          go_ret
          exact ⟨ret_int HCD.out.symm, HB.out⟩
end Go.Proofs.Ytamnojhkfknnoaa
