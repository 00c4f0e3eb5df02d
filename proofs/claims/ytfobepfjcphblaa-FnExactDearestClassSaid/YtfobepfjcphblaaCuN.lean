/-
  DearestClass on both sides.
-/
import Derived.Test.YtfobepfjcphblaaCuG
import Derived.OwnWalk
namespace Go.Proofs.Ytfobepfjcphblaa
open Go Go.RowKit
set_option linter.unusedVariables false

/-- The dearest one of the first k classes, and its duty. -/
def dearK (cs : List (Int × Int × Int × Int)) (v g how : Int) : Nat → Int × Int
  | 0 => (0, -1)
  | k + 1 => if (dearK cs v g how k).2 < chargeR (cs.getD k (0, 0, 0, 0)) v g how then ((k : Int), chargeR (cs.getD k (0, 0, 0, 0)) v g how) else dearK cs v g how k
theorem dear_yes {cs : List (Int × Int × Int × Int)} {v g how : Int} {k : Nat} (h : (dearK cs v g how k).2 < chargeR (cs.getD k (0, 0, 0, 0)) v g how) : dearK cs v g how (k + 1) = ((k : Int), chargeR (cs.getD k (0, 0, 0, 0)) v g how) := if_pos h
theorem dear_no {cs : List (Int × Int × Int × Int)} {v g how : Int} {k : Nat} (h : ¬ (dearK cs v g how k).2 < chargeR (cs.getD k (0, 0, 0, 0)) v g how) : dearK cs v g how (k + 1) = dearK cs v g how k := if_neg h
theorem dear_in {cs : List (Int × Int × Int × Int)} {v g how : Int} {k : Nat} (hc : OkCTo cs k) (hv : 0 ≤ v ∧ v ≤ 1000000) (hg : 0 ≤ g ∧ g ≤ 1000000) : (0 ≤ (dearK cs v g how k).1 ∧ (dearK cs v g how k).1 ≤ k) ∧ (-1 ≤ (dearK cs v g how k).2 ∧ (dearK cs v g how k).2 ≤ 20000000000) := by
  induction k with
  | zero => simp [dearK]
  | succ k ih =>
    have h1 := ih (fun i hi => hc i (by omega))
    have h2 := chargeR_in (how := how) (hc k (by omega)) hv.1 (show v ≤ 10000000 by omega) hg.1 (show g ≤ 10000000 by omega)
    rw [dearK]
    split <;> omega
theorem dear_one {cs : List (Int × Int × Int × Int)} {v g how : Int} (hc : okC (cs.getD 0 (0, 0, 0, 0))) (hv : 0 ≤ v ∧ v ≤ 1000000) (hg : 0 ≤ g ∧ g ≤ 1000000) : dearK cs v g how 1 = (0, chargeR (cs.getD 0 (0, 0, 0, 0)) v g how) := by
  have h2 := chargeR_in (how := how) hc hv.1 (show v ≤ 10000000 by omega) hg.1 (show g ≤ 10000000 by omega)
  exact dear_yes (k := 0) (by simp only [dearK]; omega)
def dOk (cs : List (Int × Int × Int × Int)) (v g how : Int) : Prop := (0 ≤ v ∧ v ≤ 1000000) ∧ (0 ≤ g ∧ g ≤ 1000000) ∧ (0 ≤ how ∧ how ≤ 3)
instance (cs : List (Int × Int × Int × Int)) (v g how : Int) : Decidable (dOk cs v g how) := inferInstanceAs (Decidable (_ ∧ _))
def dCode (cs : List (Int × Int × Int × Int)) (v g how : Int) : Int := if vldC cs = false then 1 else if ¬ dOk cs v g how then 2 else 0
def dIx (cs : List (Int × Int × Int × Int)) (v g how : Int) : Int := if dCode cs v g how = 0 then (dearK cs v g how cs.length).1 else 0
def dMost (cs : List (Int × Int × Int × Int)) (v g how : Int) : Int := if dCode cs v g how = 0 then (dearK cs v g how cs.length).2 else 0
theorem d_1 {cs : List (Int × Int × Int × Int)} {v g how : Int} (h : vldC cs = false) : dIx cs v g how = 0 ∧ dMost cs v g how = 0 ∧ dCode cs v g how = 1 := by
  have hc : dCode cs v g how = 1 := if_pos h
  unfold dIx dMost; rw [hc]; exact ⟨rfl, rfl, rfl⟩
theorem d_2 {cs : List (Int × Int × Int × Int)} {v g how : Int} (h : vldC cs = true) (h2 : ¬ dOk cs v g how) : dIx cs v g how = 0 ∧ dMost cs v g how = 0 ∧ dCode cs v g how = 2 := by
  have hc : dCode cs v g how = 2 := by unfold dCode; rw [if_neg (by rw [h]; simp), if_pos h2]
  unfold dIx dMost; rw [hc]; exact ⟨rfl, rfl, rfl⟩
theorem d_0 {cs : List (Int × Int × Int × Int)} {v g how : Int} (h : vldC cs = true) (h2 : dOk cs v g how) : dIx cs v g how = (dearK cs v g how cs.length).1 ∧ dMost cs v g how = (dearK cs v g how cs.length).2 ∧ dCode cs v g how = 0 := by
  have hc : dCode cs v g how = 0 := by unfold dCode; rw [if_neg (by rw [h]; simp), if_neg (by simpa using h2)]
  unfold dIx dMost; rw [hc]; exact ⟨rfl, rfl, rfl⟩
theorem ret_three {a b c a' b' c' : Int} (h : a' = a ∧ b' = b ∧ c' = c) : Ending.returned (.tuple #[.int .i64 a, .int .i64 b, .int .i64 c]) = .returned (.tuple #[.int .i64 a', .int .i64 b', .int .i64 c']) := by rw [h.1, h.2.1, h.2.2]
theorem vldF_nil (cs : List (Int × Int × Int × Int)) : vldF cs [] = vldC cs := by
  unfold vldF
  rw [decide_eq_true ⟨by simp, OkLTo.zero _ _⟩]
  cases vldC cs <;> rfl

set_option maxHeartbeats 1000000 in
set_option maxRecDepth 100000 in
theorem sdear_ok (b len cap : Nat) (cs : List (Int × Int × Int × Int)) (v g how : Int) (hl : cs.length = len) (hvc : vldC cs = true) (hd : dOk cs v g how) (hfc : FitsC cs) (w : World) (hc : CellsC w b cs) :
    Calls Try.prog 40 #[.slice (some ⟨b, 0, none⟩) len cap, .int .i64 v, .int .i64 g, .int .i64 how] w fun e w' => e = .returned (.tuple #[.int .i64 (dearK cs v g how len).1, .int .i64 (dearK cs v g how len).2, .int .i64 0]) ∧ Below w.heap.size w w' := by
  obtain ⟨⟨h1, h8⟩, hoc⟩ := vldC_spec hvc
  obtain ⟨hv, hg, hh⟩ := hd
  have g1 := inB_true hv
  have g2 := inB_true hg
  have g3 := isHow_true hh
  have HH := Lib.hid g3
  have HVV := Lib.hid hv
  have HGG := Lib.hid hg
  have HL := Lib.hid hl
  have HU : Hid (ReadsC w (.slice (some ⟨b, 0, none⟩) len cap) cs) := Lib.hid ⟨_, cap, by rw [hl], fun _ => ⟨b, rfl, hc⟩⟩
  have HV := Lib.hid hvc
  have HOC := Lib.hid hoc
  have HC := Lib.hid hc
  have HFC := Lib.hid hfc
  rw [hl] at h1 h8
  have hl1 : (0 : Int) < (len : Int) := by omega
  clear hl hvc hoc hc hh hv hg hfc
  go_enter Try.func40, Try.ntmps40
  go_wp2_with fail
  refine (sclasses_any _ cs _ HU.out HFC.out (by rw [HL.out]; omega)).mono ?_
  rintro e w1 ⟨rfl, b1⟩
  rw [HV.out]
  have HB1 := Lib.hid b1
  have hs1 : w.heap.size ≤ w1.heap.size := b1.size
  obtain ⟨c0, c1, c2, c3⟩ := HC.out.below b1 0 (by have := HL.out; omega)
  have hok0 := HOC.out 0 (by have := HL.out; omega)
  have HD1 : Hid (dearK cs v g how 1 = (0, chargeR (cs.getD 0 (0, 0, 0, 0)) v g how)) := Lib.hid (dear_one hok0 HVV.out HGG.out)
  obtain ⟨q, hq⟩ : ∃ q, cs.getD 0 (0, 0, 0, 0) = q := ⟨_, rfl⟩
  rw [hq] at c0 c1 c2 c3 hok0 HD1
  obtain ⟨n0, n1, n2, n3⟩ := q
  rw [Nat.zero_mul] at c0
  rw [Nat.zero_mul] at c1 c2 c3
  rw [Nat.zero_add] at c1 c2 c3
  clear b1 hq
  go_wp2_with (first | (go_at_call 66; refine (sdecl_any _ _).mono ?_; rintro e w2 ⟨rfl, hw2⟩; subst hw2) | (go_at_call 54; refine (show_any _ _).mono ?_; rintro e w2 ⟨rfl, hw2⟩; subst hw2))
  refine (scharge_any n0 n1 n2 n3 v g how hok0 ⟨HVV.out.1, by have := HVV.out.2; omega⟩ ⟨HGG.out.1, by have := HGG.out.2; omega⟩ HH.out _).mono ?_
  rintro e w2 ⟨rfl, b2⟩
  have HB2 : Hid (Below w.heap.size w w2) := Lib.hid (blink HB1.out b2)
  clear b2 c0 c1 c2 c3
  go_wp2_with fail
  go_loopw [11, 12, 13] (fun d m i wr => ∃ k : Nat, 1 ≤ k ∧ k ≤ len ∧ i = .int .i64 k ∧ d = .int .i64 (dearK cs v g how k).1 ∧ m = .int .i64 (dearK cs v g how k).2 ∧ Below w.heap.size w wr) (fun _ _ i _ => len - (intOf i).toNat)
  case atStart => exact ⟨1, Nat.le_refl _, h1, rfl, by rw [HD1.out], by rw [HD1.out], HB2.out⟩
  case round =>
    obtain ⟨k, hk1, hk, rfl, rfl, rfl, hnx⟩ := hrel
    have HB := Lib.hid hnx
    have hwr : w.heap.size ≤ wr.heap.size := hnx.size
    obtain ⟨⟨i0, i1⟩, m0, m1⟩ := dear_in (how := how) (k := k) (fun i hi => HOC.out i (by have := HL.out; omega)) HVV.out HGG.out
    have HY : Hid ((dearK cs v g how k).2 < chargeR (cs.getD k (0, 0, 0, 0)) v g how → dearK cs v g how (k + 1) = ((k : Int), chargeR (cs.getD k (0, 0, 0, 0)) v g how)) := Lib.hid dear_yes
    have HN : Hid (¬ (dearK cs v g how k).2 < chargeR (cs.getD k (0, 0, 0, 0)) v g how → dearK cs v g how (k + 1) = dearK cs v g how k) := Lib.hid dear_no
    obtain ⟨dk, hdk⟩ : ∃ d, dearK cs v g how k = d := ⟨_, rfl⟩
    have HDK := Lib.hid hdk
    rw [hdk] at HY HN i0 i1 m0 m1 ⊢
    obtain ⟨di, dm⟩ := dk
    simp only at i0 i1 m0 m1 ⊢
    by_cases hlt : k < len
    · obtain ⟨c0, c1, c2, c3⟩ := HC.out.below hnx k (by have := HL.out; omega)
      have hok1 := HOC.out k (by have := HL.out; omega)
      obtain ⟨q, hq⟩ : ∃ q, cs.getD k (0, 0, 0, 0) = q := ⟨_, rfl⟩
      rw [hq] at c0 c1 c2 c3 hok1 HY HN
      obtain ⟨y0, y1, y2, y3⟩ := q
      have hkl : (k : Int) < (len : Int) := by omega
      have HDU : Hid (∀ W, Calls Try.prog 70 #[.agg #[.int .i16 y0, .int .i16 y1, .int .i16 y2, .int .i32 y3], .int .i64 v, .int .i64 g, .int .i64 how] W fun e w' => e = .returned (.int .i64 (chargeR (y0, y1, y2, y3) v g how)) ∧ Below W.heap.size W w') := Lib.hid (fun W => scharge_any y0 y1 y2 y3 v g how hok1 ⟨HVV.out.1, by have := HVV.out.2; omega⟩ ⟨HGG.out.1, by have := HGG.out.2; omega⟩ HH.out W)
      obtain ⟨ch, hch⟩ : ∃ c, chargeR (y0, y1, y2, y3) v g how = c := ⟨_, rfl⟩
      rw [hch] at HY HN HDU
      clear hq hnx hok1 hch hdk
      by_cases hcm : dm < ch
      · have e1 : decide (dm < ch) = true := decide_eq_true hcm
        have HS := Lib.hid (HY.out hcm)
        go_wp2_with fail
        refine (HDU.out _).mono ?_
        rintro e w3 ⟨rfl, b3⟩
        have HB3 : Hid (Below w.heap.size w w3) := Lib.hid (blink HB.out b3)
        clear b3
        go_wp2_with fail
        go_roundw
        case rel => exact ⟨k + 1, by omega, by omega, by go_num, by rw [HS.out], by rw [HS.out], HB3.out⟩
        case measure => simp [intOf]; omega
      · have e1 : decide (dm < ch) = false := decide_eq_false hcm
        have HS := Lib.hid (HN.out hcm)
        clear hcm
        go_wp2_with fail
        refine (HDU.out _).mono ?_
        rintro e w3 ⟨rfl, b3⟩
        have HB3 : Hid (Below w.heap.size w w3) := Lib.hid (blink HB.out b3)
        clear b3
        go_wp2_with fail
        go_roundw
        case rel => exact ⟨k + 1, by omega, by omega, by go_num, by rw [HS.out], by rw [HS.out], HB3.out⟩
        case measure => simp [intOf]; omega
    · have hk' : k = len := by omega
      have HE : Hid (dearK cs v g how len = (di, dm)) := Lib.hid (by rw [← hk', HDK.out])
      clear hk' hnx hdk
      go_wp2_with fail
      go_ret3
      exact ⟨ret_three ⟨by rw [HE.out], by rw [HE.out], rfl⟩, HB.out⟩

set_option maxHeartbeats 1000000 in
theorem sdear_any (u : Value) (cs : List (Int × Int × Int × Int)) (v g how : Int) (w : World) (hu : ReadsC w u cs) (hfc : FitsC cs) (hx : cs.length ≤ 1048576) :
    Calls Try.prog 40 #[u, .int .i64 v, .int .i64 g, .int .i64 how] w fun e w' => e = .returned (.tuple #[.int .i64 (dIx cs v g how), .int .i64 (dMost cs v g how), .int .i64 (dCode cs v g how)]) ∧ Below w.heap.size w w' := by
  cases hvc : vldC cs
  · have HR := Lib.hid (d_1 (v := v) (g := g) (how := how) hvc)
    have HV := Lib.hid hvc
    clear hvc
    go_enter Try.func40, Try.ntmps40
    go_wp2_with fail
    refine (sclasses_any _ cs _ hu hfc hx).mono ?_
    rintro e w1 ⟨rfl, b1⟩
    rw [HV.out]
    go_wp2_with fail
    go_ret3
    exact ⟨ret_three HR.out, b1⟩
  · by_cases hd : dOk cs v g how
    · obtain ⟨r1, r2, r3⟩ := d_0 hvc hd
      rw [r1, r2, r3]
      obtain ⟨a, cap, rfl, h⟩ := hu
      obtain ⟨b, rfl, hc⟩ := h (fun e => by have := (vldC_spec hvc).1.1; rw [e] at this; simp at this)
      exact sdear_ok b cs.length cap cs v g how rfl hvc hd hfc w hc
    · have HR := Lib.hid (d_2 hvc hd)
      have HV := Lib.hid hvc
      clear hvc
      by_cases t1 : 0 ≤ v ∧ v ≤ 1000000
      · have g1 := inB_true t1
        by_cases t2 : 0 ≤ g ∧ g ≤ 1000000
        · have g2 := inB_true t2
          have g3 : isHow how = false := isHow_false (fun h => hd ⟨t1, t2, h⟩)
          clear hd t1 t2
          go_enter Try.func40, Try.ntmps40
          go_wp2_with fail
          refine (sclasses_any _ cs _ hu hfc hx).mono ?_
          rintro e w1 ⟨rfl, b1⟩
          rw [HV.out]
          go_wp2_with (first | (go_at_call 66; refine (sdecl_any _ _).mono ?_; rintro e w2 ⟨rfl, hw2⟩; subst hw2) | (go_at_call 54; refine (show_any _ _).mono ?_; rintro e w2 ⟨rfl, hw2⟩; subst hw2))
          go_ret3
          exact ⟨ret_three HR.out, b1⟩
        · have g2 := inB_false t2
          clear hd t1 t2
          go_enter Try.func40, Try.ntmps40
          go_wp2_with fail
          refine (sclasses_any _ cs _ hu hfc hx).mono ?_
          rintro e w1 ⟨rfl, b1⟩
          rw [HV.out]
          go_wp2_with (go_at_call 66; refine (sdecl_any _ _).mono ?_; rintro e w2 ⟨rfl, hw2⟩; subst hw2)
          go_ret3
          exact ⟨ret_three HR.out, b1⟩
      · have g1 := inB_false t1
        clear hd t1
        go_enter Try.func40, Try.ntmps40
        go_wp2_with fail
        refine (sclasses_any _ cs _ hu hfc hx).mono ?_
        rintro e w1 ⟨rfl, b1⟩
        rw [HV.out]
        go_wp2_with (go_at_call 66; refine (sdecl_any _ _).mono ?_; rintro e w2 ⟨rfl, hw2⟩; subst hw2)
        go_ret3
        exact ⟨ret_three HR.out, b1⟩

/-! ### the program -/
theorem readsNil (w : World) : ReadsL w (.slice none 0 0) [] := ⟨none, 0, rfl, fun h => absurd rfl h⟩
theorem fitsNil : FitsL [] := fun p hp => by cases hp
set_option maxHeartbeats 1000000 in
set_option maxRecDepth 100000 in
theorem idear_ok (b len cap : Nat) (cs : List (Int × Int × Int × Int)) (v g how : Int) (hl : cs.length = len) (hvc : vldC cs = true) (hd : dOk cs v g how) (hfc : FitsC cs) (w : World) (hc : CellsC w b cs) :
    Calls Try.prog 41 #[.slice (some ⟨b, 0, none⟩) len cap, .int .i64 v, .int .i64 g, .int .i64 how] w fun e w' => e = .returned (.tuple #[.int .i64 (dearK cs v g how len).1, .int .i64 (dearK cs v g how len).2, .int .i64 0]) ∧ Below w.heap.size w w' := by
  obtain ⟨⟨h1, h8⟩, hoc⟩ := vldC_spec hvc
  obtain ⟨hv, hg, hh⟩ := hd
  have d5 := betw2_true ⟨hv, hg⟩
  have g3 := isHow_true hh
  have hask : askF cs [] (isHow how) = 0 := by rw [g3, askF_0 (by rw [vldF_nil]; exact hvc)]
  obtain ⟨V, hV⟩ : ∃ V, wayV how = V := ⟨_, rfl⟩
  have HW : Hid (wayA 0 how = V) := Lib.hid (by rw [wayA_0, hV])
  have HWV := Lib.hid hV
  have HA := Lib.hid hask
  have HH := Lib.hid g3
  have HVV := Lib.hid hv
  have HGG := Lib.hid hg
  have HL := Lib.hid hl
  have HU : Hid (ReadsC w (.slice (some ⟨b, 0, none⟩) len cap) cs) := Lib.hid ⟨_, cap, by rw [hl], fun _ => ⟨b, rfl, hc⟩⟩
  have HOC := Lib.hid hoc
  have HC := Lib.hid hc
  have HFC := Lib.hid hfc
  rw [hl] at h1 h8
  clear hl hvc hoc hc hh hv hg hfc hask g3 hV
  go_enter Try.func41, Try.ntmps41
  go_wp2_with fail
  refine (icheck_any _ _ cs [] how _ HU.out (readsNil _) HFC.out fitsNil (by rw [HL.out]; omega) (by simp)).mono ?_
  rintro e w1 ⟨rfl, b1⟩
  rw [HA.out, HW.out]
  have HB1 := Lib.hid b1
  have hs1 : w.heap.size ≤ w1.heap.size := b1.size
  clear b1
  go_wp2_with (go_at_call 50; refine (idecl_any _ [v, g] _ (reads2 (by simp)) (by simp)).mono ?_; rintro e w3 ⟨rfl, rfl⟩)
  go_loopw [13, 14, 35] (fun d m i wr => ∃ k : Nat, k ≤ len ∧ i = .int .i64 k ∧ d = .int .i64 (dearK cs v g how k).1 ∧ m = .int .i64 (dearK cs v g how k).2 ∧ Below w.heap.size w wr) (fun _ _ i _ => len - (intOf i).toNat)
  case atStart => exact ⟨0, Nat.zero_le _, rfl, rfl, rfl, HB1.out.alloc hs1 _⟩
  case round =>
    obtain ⟨k, hk, rfl, rfl, rfl, hnx⟩ := hrel
    have HB := Lib.hid hnx
    have hwr : w.heap.size ≤ wr.heap.size := hnx.size
    obtain ⟨⟨i0, i1⟩, m0, m1⟩ := dear_in (how := how) (k := k) (fun i hi => HOC.out i (by have := HL.out; omega)) HVV.out HGG.out
    have HY : Hid ((dearK cs v g how k).2 < chargeR (cs.getD k (0, 0, 0, 0)) v g how → dearK cs v g how (k + 1) = ((k : Int), chargeR (cs.getD k (0, 0, 0, 0)) v g how)) := Lib.hid dear_yes
    have HN : Hid (¬ (dearK cs v g how k).2 < chargeR (cs.getD k (0, 0, 0, 0)) v g how → dearK cs v g how (k + 1) = dearK cs v g how k) := Lib.hid dear_no
    obtain ⟨dk, hdk⟩ : ∃ d, dearK cs v g how k = d := ⟨_, rfl⟩
    have HDK := Lib.hid hdk
    rw [hdk] at HY HN i0 i1 m0 m1 ⊢
    obtain ⟨di, dm⟩ := dk
    simp only at i0 i1 m0 m1 ⊢
    by_cases hlt : k < len
    · obtain ⟨c0, c1, c2, c3⟩ := HC.out.below hnx k (by have := HL.out; omega)
      have hok1 := HOC.out k (by have := HL.out; omega)
      obtain ⟨q, hq⟩ : ∃ q, cs.getD k (0, 0, 0, 0) = q := ⟨_, rfl⟩
      rw [hq] at c0 c1 c2 c3 hok1 HY HN
      obtain ⟨y0, y1, y2, y3⟩ := q
      have hkl : (k : Int) < (len : Int) := by omega
      have HDU : Hid (∀ W ix, Calls Try.prog 71 #[.agg #[.int .i16 y0, .int .i16 y1, .int .i16 y2, .int .i32 y3, .int .i8 ix, .int .i64 0, .int .i64 v, .int .i64 g], V] W fun e w' => e = .returned (.int .i64 (chargeR (y0, y1, y2, y3) v g how)) ∧ Below W.heap.size W w') := Lib.hid (fun W ix => by rw [← HWV.out]; exact iduty_any y0 y1 y2 y3 ix 0 v g how hok1 ⟨HVV.out.1, by have := HVV.out.2; omega⟩ ⟨HGG.out.1, by have := HGG.out.2; omega⟩ HH.out W)
      obtain ⟨ch, hch⟩ : ∃ c, chargeR (y0, y1, y2, y3) v g how = c := ⟨_, rfl⟩
      rw [hch] at HY HN HDU
      clear hq hnx hok1 hch hdk
      by_cases hcm : dm < ch
      · have e1 : decide (dm < ch) = true := decide_eq_true hcm
        have HS := Lib.hid (HY.out hcm)
        go_wp2_with fail
        refine (HDU.out _ _).mono ?_
        rintro e w3 ⟨rfl, b3⟩
        have HB3 : Hid (Below w.heap.size w w3) := Lib.hid (((HB.out.alloc hwr _).alloc (by simp; omega) _).trans (b3.mono (by simp; omega)))
        clear b3
        go_wp2_with fail
        go_roundw
        case rel => exact ⟨k + 1, by omega, by go_num, by rw [HS.out], by rw [HS.out], HB3.out⟩
        case measure => simp [intOf]; omega
      · have e1 : decide (dm < ch) = false := decide_eq_false hcm
        have HS := Lib.hid (HN.out hcm)
        clear hcm
        go_wp2_with fail
        refine (HDU.out _ _).mono ?_
        rintro e w3 ⟨rfl, b3⟩
        have HB3 : Hid (Below w.heap.size w w3) := Lib.hid (((HB.out.alloc hwr _).alloc (by simp; omega) _).trans (b3.mono (by simp; omega)))
        clear b3
        go_wp2_with fail
        go_roundw
        case rel => exact ⟨k + 1, by omega, by go_num, by rw [HS.out], by rw [HS.out], HB3.out⟩
        case measure => simp [intOf]; omega
    · have hk' : k = len := by omega
      have HE : Hid (dearK cs v g how len = (di, dm)) := Lib.hid (by rw [← hk', HDK.out])
      clear hk' hnx hdk
      go_wp2_with fail
      go_ret3
      exact ⟨ret_three ⟨by rw [HE.out], by rw [HE.out], rfl⟩, HB.out⟩

set_option maxHeartbeats 1000000 in
theorem idear_any (u : Value) (cs : List (Int × Int × Int × Int)) (v g how : Int) (w : World) (hu : ReadsC w u cs) (hfc : FitsC cs) (hx : cs.length ≤ 1048576) :
    Calls Try.prog 41 #[u, .int .i64 v, .int .i64 g, .int .i64 how] w fun e w' => e = .returned (.tuple #[.int .i64 (dIx cs v g how), .int .i64 (dMost cs v g how), .int .i64 (dCode cs v g how)]) ∧ Below w.heap.size w w' := by
  cases hvc : vldC cs
  · have HR := Lib.hid (d_1 (v := v) (g := g) (how := how) hvc)
    have HA : Hid (askF cs [] (isHow how) = 1) := Lib.hid (askF_1 (by rw [vldF_nil]; exact hvc))
    have HW := Lib.hid (wayA_1 how)
    clear hvc
    go_enter Try.func41, Try.ntmps41
    go_wp2_with fail
    refine (icheck_any _ _ cs [] how _ hu (readsNil _) hfc fitsNil hx (by simp)).mono ?_
    rintro e w1 ⟨rfl, b1⟩
    rw [HA.out, HW.out]
    go_wp2_with fail
    go_ret3
    exact ⟨ret_three HR.out, b1⟩
  · by_cases hd : dOk cs v g how
    · obtain ⟨r1, r2, r3⟩ := d_0 hvc hd
      rw [r1, r2, r3]
      obtain ⟨a, cap, rfl, h⟩ := hu
      obtain ⟨b, rfl, hc⟩ := h (fun e => by have := (vldC_spec hvc).1.1; rw [e] at this; simp at this)
      exact idear_ok b cs.length cap cs v g how rfl hvc hd hfc w hc
    · have HR := Lib.hid (d_2 hvc hd)
      have hvf : vldF cs [] = true := by rw [vldF_nil]; exact hvc
      by_cases t3 : 0 ≤ how ∧ how ≤ 3
      · have HA : Hid (askF cs [] (isHow how) = 0) := Lib.hid (by rw [isHow_true t3]; exact askF_0 hvf)
        have d5 := betw2_false (fun h => hd ⟨h.1, h.2, t3⟩)
        obtain ⟨V, hV⟩ : ∃ V, wayA 0 how = V := ⟨_, rfl⟩
        have HW := Lib.hid hV
        clear hvc hvf hd t3 hV
        go_enter Try.func41, Try.ntmps41
        go_wp2_with fail
        refine (icheck_any _ _ cs [] how _ hu (readsNil _) hfc fitsNil hx (by simp)).mono ?_
        rintro e w1 ⟨rfl, b1⟩
        rw [HA.out, HW.out]
        go_wp2_with (go_at_call 50; refine (idecl_any _ [v, g] _ (reads2 (by simp)) (by simp)).mono ?_; rintro e w3 ⟨rfl, rfl⟩)
        go_ret3
        exact ⟨ret_three HR.out, b1.alloc b1.size _⟩
      · have HA : Hid (askF cs [] (isHow how) = 2) := Lib.hid (by rw [isHow_false t3]; exact askF_2 hvf)
        have HW := Lib.hid (wayA_2 how)
        clear hvc hvf hd t3
        go_enter Try.func41, Try.ntmps41
        go_wp2_with fail
        refine (icheck_any _ _ cs [] how _ hu (readsNil _) hfc fitsNil hx (by simp)).mono ?_
        rintro e w1 ⟨rfl, b1⟩
        rw [HA.out, HW.out]
        go_wp2_with fail
        go_ret3
        exact ⟨ret_three HR.out, b1⟩
end Go.Proofs.Ytfobepfjcphblaa
