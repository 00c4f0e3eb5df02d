/-
  FirstOdd on both sides.
-/
import Derived.Test.YtfobepfjcphblaaCuG
namespace Go.Proofs.Ytfobepfjcphblaa
open Go Go.RowKit
set_option linter.unusedVariables false

/-- The value of one thing of the line k. -/
def unitK (ls : List (Int × Int × Int × Int)) (k : Nat) : Int := (ls.getD k (0, 0, 0, 0)).2.2.1 / (ls.getD k (0, 0, 0, 0)).2.1
/-- The first odd one among the first k lines. -/
def oddTo (ls : List (Int × Int × Int × Int)) (lo hi : Int) : Nat → Option Nat
  | 0 => none
  | k + 1 => match oddTo ls lo hi k with
    | some i => some i
    | none => if lo ≤ unitK ls k ∧ unitK ls k ≤ hi then none else some k
theorem odd_good {ls : List (Int × Int × Int × Int)} {lo hi : Int} {k : Nat} (h : oddTo ls lo hi k = none) (h1 : lo ≤ unitK ls k ∧ unitK ls k ≤ hi) : oddTo ls lo hi (k + 1) = none := by
  rw [oddTo, h]; exact if_pos h1
theorem odd_bad {ls : List (Int × Int × Int × Int)} {lo hi : Int} {k : Nat} (h : oddTo ls lo hi k = none) (h1 : ¬ (lo ≤ unitK ls k ∧ unitK ls k ≤ hi)) : oddTo ls lo hi (k + 1) = some k := by
  rw [oddTo, h]; exact if_neg h1
theorem odd_stay {ls : List (Int × Int × Int × Int)} {lo hi : Int} {k i : Nat} (h : oddTo ls lo hi k = some i) (m : Nat) : oddTo ls lo hi (k + m) = some i := by
  induction m with
  | zero => exact h
  | succ m ih => rw [← Nat.add_assoc, oddTo, ih]
def oddIx (ls : List (Int × Int × Int × Int)) (lo hi : Int) : Int := match oddTo ls lo hi ls.length with
  | some i => (i : Int)
  | none => 0
def oddEnd (ls : List (Int × Int × Int × Int)) (lo hi : Int) : Int := match oddTo ls lo hi ls.length with
  | some _ => 0
  | none => 6
theorem odd_at {ls : List (Int × Int × Int × Int)} {lo hi : Int} {k : Nat} (hk : k < ls.length) (h : oddTo ls lo hi k = none) (h1 : ¬ (lo ≤ unitK ls k ∧ unitK ls k ≤ hi)) : oddIx ls lo hi = k ∧ oddEnd ls lo hi = 0 := by
  have h2 := odd_stay (odd_bad h h1) (ls.length - (k + 1))
  rw [show k + 1 + (ls.length - (k + 1)) = ls.length by omega] at h2
  unfold oddIx oddEnd
  rw [h2]
  exact ⟨rfl, rfl⟩
theorem odd_none {ls : List (Int × Int × Int × Int)} {lo hi : Int} (h : oddTo ls lo hi ls.length = none) : oddIx ls lo hi = 0 ∧ oddEnd ls lo hi = 6 := by
  unfold oddIx oddEnd
  rw [h]
  exact ⟨rfl, rfl⟩
def fineO (lo hi : Int) : Bool := decide ((0 ≤ lo ∧ lo ≤ 1000000) ∧ (0 ≤ hi ∧ hi ≤ 1000000) ∧ lo ≤ hi)
theorem fineO_true {lo hi : Int} (h : (0 ≤ lo ∧ lo ≤ 1000000) ∧ (0 ≤ hi ∧ hi ≤ 1000000) ∧ lo ≤ hi) : fineO lo hi = true := decide_eq_true h
theorem fineO_false {lo hi : Int} (h : ¬ ((0 ≤ lo ∧ lo ≤ 1000000) ∧ (0 ≤ hi ∧ hi ≤ 1000000) ∧ lo ≤ hi)) : fineO lo hi = false := decide_eq_false h
theorem fineO_spec {lo hi : Int} (h : fineO lo hi = true) : (0 ≤ lo ∧ lo ≤ 1000000) ∧ (0 ≤ hi ∧ hi ≤ 1000000) ∧ lo ≤ hi := of_decide_eq_true h
def foRes (cs ls : List (Int × Int × Int × Int)) (lo hi : Int) : Int := if askF cs ls (fineO lo hi) = 0 then oddIx ls lo hi else 0
def foCode (cs ls : List (Int × Int × Int × Int)) (lo hi : Int) : Int := if askF cs ls (fineO lo hi) = 0 then oddEnd ls lo hi else askF cs ls (fineO lo hi)
theorem fo_0 {cs ls : List (Int × Int × Int × Int)} {lo hi : Int} (h : askF cs ls (fineO lo hi) = 0) : foRes cs ls lo hi = oddIx ls lo hi ∧ foCode cs ls lo hi = oddEnd ls lo hi := by
  unfold foRes foCode; rw [if_pos h, if_pos h]; exact ⟨rfl, rfl⟩
theorem fo_c {cs ls : List (Int × Int × Int × Int)} {lo hi : Int} (h : askF cs ls (fineO lo hi) ≠ 0) : foRes cs ls lo hi = 0 ∧ foCode cs ls lo hi = askF cs ls (fineO lo hi) := by
  unfold foRes foCode; rw [if_neg h, if_neg h]; exact ⟨rfl, rfl⟩

set_option maxHeartbeats 1000000 in
set_option maxRecDepth 100000 in
theorem sodd_row (b len cap : Nat) (v : Value) (cs ls : List (Int × Int × Int × Int)) (lo hi : Int) (hl : ls.length = len) (hvf : vldF cs ls = true) (hd : (0 ≤ lo ∧ lo ≤ 1000000) ∧ (0 ≤ hi ∧ hi ≤ 1000000) ∧ lo ≤ hi) (hfc : FitsC cs) (hfl : FitsL ls) (hx : cs.length ≤ 1048576) (w : World) (hv : ReadsC w v cs) (hc : CellsL w b ls) :
    Calls Try.prog 44 #[v, .slice (some ⟨b, 0, none⟩) len cap, .int .i64 lo, .int .i64 hi] w fun e w' => e = .returned (.tuple #[.int .i64 (oddIx ls lo hi), .int .i64 (oddEnd ls lo hi)]) ∧ Below w.heap.size w w' := by
  obtain ⟨hvc, h10, hok⟩ := vldF_spec hvf
  have HA : Hid (askF cs ls true = 0) := Lib.hid (askF_0 hvf)
  have g1 := inB_true hd.1
  have g2 := inB_true hd.2.1
  have g3 : decide (lo ≤ hi) = true := decide_eq_true hd.2.2
  have HU : Hid (ReadsL w (.slice (some ⟨b, 0, none⟩) len cap) ls) := Lib.hid ⟨_, cap, by rw [hl], fun _ => ⟨b, rfl, hc⟩⟩
  have HL := Lib.hid hl
  have HI := Lib.hid hfl
  have HO := Lib.hid hok
  rw [hl] at h10
  clear hl hvf hd hvc hok hfl
  go_enter Try.func44, Try.ntmps44
  go_wp2_with (go_at_call 66; refine (sdecl_any _ _).mono ?_; rintro e w2 ⟨rfl, hw2⟩; have hw3 := hw2.symm; subst hw3)
  refine (sask_any _ _ cs ls true _ hv HU.out hfc HI.out hx (by rw [HL.out]; omega)).mono ?_
  rintro e w1 ⟨rfl, b1⟩
  rw [HA.out]
  have HC : Hid (CellsL w1 b ls) := Lib.hid (hc.below b1)
  have HB1 := Lib.hid b1
  have hs1 : w.heap.size ≤ w1.heap.size := b1.size
  clear b1 hc
  go_wp2_with fail
  go_loopw [11] (fun i wr => ∃ k : Nat, k ≤ len ∧ i = .int .i64 k ∧ oddTo ls lo hi k = none ∧ Below w1.heap.size w1 wr) (fun i _ => len - (intOf i).toNat)
  case atStart => exact ⟨0, Nat.zero_le _, rfl, rfl, Below.refl _ _⟩
  case round =>
    obtain ⟨k, hk, rfl, hno, hnx⟩ := hrel
    have HN := Lib.hid hnx
    have HB : Hid (Below w.heap.size w wr) := Lib.hid (HB1.out.trans (hnx.mono hs1))
    by_cases hlt : k < len
    · obtain ⟨c0, c1, c2, c3⟩ := HC.out.below hnx k (by have := HL.out; omega)
      have hok1 := HO.out k (by have := HL.out; omega)
      have HG : Hid (lo ≤ unitK ls k ∧ unitK ls k ≤ hi → oddTo ls lo hi (k + 1) = none) := Lib.hid (odd_good hno)
      have HY : Hid (¬ (lo ≤ unitK ls k ∧ unitK ls k ≤ hi) → oddIx ls lo hi = k ∧ oddEnd ls lo hi = 0) := Lib.hid (odd_at (by have := HL.out; omega) hno)
      have huk : unitK ls k = (ls.getD k (0, 0, 0, 0)).2.2.1 / (ls.getD k (0, 0, 0, 0)).2.1 := rfl
      obtain ⟨q, hq⟩ : ∃ q, ls.getD k (0, 0, 0, 0) = q := ⟨_, rfl⟩
      rw [hq] at c0 c1 c2 c3 hok1 huk
      obtain ⟨x0, x1, x2, x3⟩ := q
      simp only at huk
      rw [huk] at HG HY
      unfold okL at hok1
      simp only at hok1
      obtain ⟨_, ⟨l1, u1⟩, ⟨l2, u2⟩, _⟩ := hok1
      obtain ⟨q0, q1⟩ := div_in l2 l1
      have hnz : x1 ≠ 0 := by omega
      have hkl : (k : Int) < (len : Int) := by omega
      clear hq hno huk hnx
      by_cases hg : lo ≤ x2 / x1 ∧ x2 / x1 ≤ hi
      · have g5 := inB_true hg
        have HS := Lib.hid (HG.out hg)
        go_wp2_with fail
        go_quiet ((go_at_call 53; exact Calls.quiet_of_same (in_any _ _ _ _)))
        go_wp2_with fail
        go_roundw
        case rel => exact ⟨k + 1, by omega, by go_num, HS.out, below_drewN HN.out _⟩
        case measure => simp [intOf]; omega
      · have g5 := inB_false hg
        have HS := Lib.hid (HY.out hg)
        clear hg
        go_wp2_with fail
        go_quiet ((go_at_call 53; exact Calls.quiet_of_same (in_any _ _ _ _)))
        go_wp2_with fail
        go_ret2
        exact ⟨ret_two HS.out, below_drewN HB.out _⟩
    · have hk' : k = len := by omega
      have HE := Lib.hid (odd_none (ls := ls) (lo := lo) (hi := hi) (by rw [HL.out, ← hk']; exact hno))
      clear hk' hno hnx
      go_wp2_with fail
      go_ret2
      exact ⟨ret_two HE.out, HB.out⟩

theorem odd_nil (lo hi : Int) : oddIx [] lo hi = 0 ∧ oddEnd [] lo hi = 6 := ⟨rfl, rfl⟩
set_option maxHeartbeats 1000000 in
theorem sodd_zero (a : Option Addr) (cap : Nat) (v : Value) (cs : List (Int × Int × Int × Int)) (lo hi : Int) (hvf : vldF cs [] = true) (hd : (0 ≤ lo ∧ lo ≤ 1000000) ∧ (0 ≤ hi ∧ hi ≤ 1000000) ∧ lo ≤ hi) (hfc : FitsC cs) (hx : cs.length ≤ 1048576) (w : World) (hv : ReadsC w v cs) :
    Calls Try.prog 44 #[v, .slice a 0 cap, .int .i64 lo, .int .i64 hi] w fun e w' => e = .returned (.tuple #[.int .i64 0, .int .i64 6]) ∧ Below w.heap.size w w' := by
  have HA : Hid (askF cs [] true = 0) := Lib.hid (askF_0 hvf)
  have g1 := inB_true hd.1
  have g2 := inB_true hd.2.1
  have g3 : decide (lo ≤ hi) = true := decide_eq_true hd.2.2
  have hu : ReadsL w (.slice a 0 cap) [] := ⟨a, cap, rfl, fun h => absurd rfl h⟩
  clear hvf hd
  go_enter Try.func44, Try.ntmps44
  go_wp2_with (go_at_call 66; refine (sdecl_any _ _).mono ?_; rintro e w2 ⟨rfl, hw2⟩; have hw3 := hw2.symm; subst hw3)
  refine (sask_any _ _ cs [] true _ hv hu hfc (fun p hp => by cases hp) hx (by simp)).mono ?_
  rintro e w1 ⟨rfl, b1⟩
  rw [HA.out]
  go_wp2_with fail
  refine wp_loop_rounds 1 ?_
  rw [rounds_succ]
  go_wp2_with fail
  go_ret2
  exact ⟨rfl, b1⟩

set_option maxHeartbeats 1000000 in
theorem sodd_any (v u : Value) (cs ls : List (Int × Int × Int × Int)) (lo hi : Int) (w : World) (hv : ReadsC w v cs) (hu : ReadsL w u ls) (hfc : FitsC cs) (hfl : FitsL ls) (hx : cs.length ≤ 1048576) (hy : ls.length ≤ 1048576) :
    Calls Try.prog 44 #[v, u, .int .i64 lo, .int .i64 hi] w fun e w' => e = .returned (.tuple #[.int .i64 (foRes cs ls lo hi), .int .i64 (foCode cs ls lo hi)]) ∧ Below w.heap.size w w' := by
  by_cases hc0 : askF cs ls (fineO lo hi) = 0
  · obtain ⟨hvf, hfi⟩ := askF_ok hc0
    have hd := fineO_spec hfi
    obtain ⟨r1, r2⟩ := fo_0 hc0
    rw [r1, r2]
    obtain ⟨a, cap, rfl, h⟩ := hu
    by_cases h0 : ls = []
    · subst h0
      exact sodd_zero a cap v cs lo hi hvf hd hfc hx w hv
    · obtain ⟨b, rfl, hcl⟩ := h h0
      exact sodd_row b ls.length cap v cs ls lo hi rfl hvf hd hfc hfl hx w hv hcl
  · obtain ⟨c, hc⟩ : ∃ c, askF cs ls (fineO lo hi) = c := ⟨_, rfl⟩
    have HR := Lib.hid (fo_c hc0)
    rw [hc] at HR hc0
    have hn : (c != 0) = true := by simpa using hc0
    have HC := Lib.hid hc
    clear hc hc0
    by_cases t1 : 0 ≤ lo ∧ lo ≤ 1000000
    · have g1 := inB_true t1
      by_cases t2 : 0 ≤ hi ∧ hi ≤ 1000000
      · have g2 := inB_true t2
        obtain ⟨f, hf⟩ : ∃ f, decide (lo ≤ hi) = f := ⟨_, rfl⟩
        have HF : Hid (f = fineO lo hi) := Lib.hid (by rw [← hf]; exact decide_eq_decide.2 ⟨fun h => ⟨t1, t2, h⟩, fun h => h.2.2⟩)
        clear t1 t2
        go_enter Try.func44, Try.ntmps44
        go_wp2_with (go_at_call 66; refine (sdecl_any _ _).mono ?_; rintro e w2 ⟨rfl, hw2⟩; have hw3 := hw2.symm; subst hw3)
        refine (sask_any _ _ cs ls f _ hv hu hfc hfl hx hy).mono ?_
        rintro e w1 ⟨rfl, b1⟩
        rw [HF.out, HC.out]
        go_wp2_with fail
        go_ret2
        exact ⟨ret_two HR.out, b1⟩
      · have g2 := inB_false t2
        have HF : Hid (false = fineO lo hi) := Lib.hid (fineO_false (fun h => t2 h.2.1)).symm
        clear t1 t2
        go_enter Try.func44, Try.ntmps44
        go_wp2_with (go_at_call 66; refine (sdecl_any _ _).mono ?_; rintro e w2 ⟨rfl, hw2⟩; have hw3 := hw2.symm; subst hw3)
        refine (sask_any _ _ cs ls false _ hv hu hfc hfl hx hy).mono ?_
        rintro e w1 ⟨rfl, b1⟩
        rw [HF.out, HC.out]
        go_wp2_with fail
        go_ret2
        exact ⟨ret_two HR.out, b1⟩
    · have g1 := inB_false t1
      have HF : Hid (false = fineO lo hi) := Lib.hid (fineO_false (fun h => t1 h.1)).symm
      clear t1
      go_enter Try.func44, Try.ntmps44
      go_wp2_with (go_at_call 66; refine (sdecl_any _ _).mono ?_; rintro e w2 ⟨rfl, hw2⟩; have hw3 := hw2.symm; subst hw3)
      refine (sask_any _ _ cs ls false _ hv hu hfc hfl hx hy).mono ?_
      rintro e w1 ⟨rfl, b1⟩
      rw [HF.out, HC.out]
      go_wp2_with fail
      go_ret2
      exact ⟨ret_two HR.out, b1⟩

/-! ### the program -/
set_option maxHeartbeats 1000000 in
set_option maxRecDepth 100000 in
theorem iodd_row (b len cap : Nat) (v : Value) (cs ls : List (Int × Int × Int × Int)) (lo hi : Int) (hl : ls.length = len) (hvf : vldF cs ls = true) (hd : (0 ≤ lo ∧ lo ≤ 1000000) ∧ (0 ≤ hi ∧ hi ≤ 1000000) ∧ lo ≤ hi) (hfc : FitsC cs) (hfl : FitsL ls) (hx : cs.length ≤ 1048576) (w : World) (hv : ReadsC w v cs) (hc : CellsL w b ls) :
    Calls Try.prog 45 #[v, .slice (some ⟨b, 0, none⟩) len cap, .int .i64 lo, .int .i64 hi] w fun e w' => e = .returned (.tuple #[.int .i64 (oddIx ls lo hi), .int .i64 (oddEnd ls lo hi)]) ∧ Below w.heap.size w w' := by
  obtain ⟨hvc, h10, hok⟩ := vldF_spec hvf
  have HV := Lib.hid hvf
  have d5 := betw2_true ⟨hd.1, hd.2.1⟩
  have g3 : decide (hi < lo) = false := decide_eq_false (by omega)
  have HU : Hid (ReadsL w (.slice (some ⟨b, 0, none⟩) len cap) ls) := Lib.hid ⟨_, cap, by rw [hl], fun _ => ⟨b, rfl, hc⟩⟩
  have HL := Lib.hid hl
  have HI := Lib.hid hfl
  have HO := Lib.hid hok
  rw [hl] at h10
  clear hl hvf hd hvc hok hfl
  go_enter Try.func45, Try.ntmps45
  go_wp2_with fail
  refine (ivldF_any _ _ cs ls _ hv HU.out hfc HI.out hx (by rw [HL.out]; omega)).mono ?_
  rintro e w1 ⟨rfl, b1⟩
  rw [HV.out]
  have HC : Hid (CellsL w1 b ls) := Lib.hid (hc.below b1)
  have HB1 := Lib.hid b1
  have hs1 : w.heap.size ≤ w1.heap.size := b1.size
  clear b1 hc
  go_wp2_with (go_at_call 50; refine (idecl_any _ [lo, hi] _ (reads2 (by simp)) (by simp)).mono ?_; rintro e w3 ⟨rfl, rfl⟩)
  go_loopw [29] (fun i wr => ∃ k : Nat, k ≤ len ∧ i = .int .i64 k ∧ oddTo ls lo hi k = none ∧ Below w1.heap.size w1 wr) (fun i _ => len - (intOf i).toNat)
  case atStart => exact ⟨0, Nat.zero_le _, rfl, rfl, (Below.refl _ _).alloc (Nat.le_refl _) _⟩
  case round =>
    obtain ⟨k, hk, rfl, hno, hnx⟩ := hrel
    have HN := Lib.hid hnx
    have hwr1 : w1.heap.size ≤ wr.heap.size := hnx.size
    have HB : Hid (Below w.heap.size w wr) := Lib.hid (HB1.out.trans (hnx.mono hs1))
    by_cases hlt : k < len
    · obtain ⟨c0, c1, c2, c3⟩ := HC.out.below hnx k (by have := HL.out; omega)
      have hok1 := HO.out k (by have := HL.out; omega)
      have HG : Hid (lo ≤ unitK ls k ∧ unitK ls k ≤ hi → oddTo ls lo hi (k + 1) = none) := Lib.hid (odd_good hno)
      have HY : Hid (¬ (lo ≤ unitK ls k ∧ unitK ls k ≤ hi) → oddIx ls lo hi = k ∧ oddEnd ls lo hi = 0) := Lib.hid (odd_at (by have := HL.out; omega) hno)
      have huk : unitK ls k = (ls.getD k (0, 0, 0, 0)).2.2.1 / (ls.getD k (0, 0, 0, 0)).2.1 := rfl
      obtain ⟨q, hq⟩ : ∃ q, ls.getD k (0, 0, 0, 0) = q := ⟨_, rfl⟩
      rw [hq] at c0 c1 c2 c3 hok1 huk
      obtain ⟨x0, x1, x2, x3⟩ := q
      simp only at huk
      rw [huk] at HG HY
      unfold okL at hok1
      simp only at hok1
      obtain ⟨_, ⟨l1, u1⟩, ⟨l2, u2⟩, _⟩ := hok1
      have HUV : Hid (∀ W, Calls Try.prog 72 #[.agg #[.int .i8 x0, .int .i16 x1, .int .i32 x2, .int .i32 x3]] W fun e w' => e = .returned (.int .i64 (x2 / x1)) ∧ Below W.heap.size W w') := Lib.hid (fun W => iunit_any x0 x1 x2 x3 l1 u1 l2 u2 W)
      obtain ⟨uq, huq⟩ : ∃ x, x2 / x1 = x := ⟨_, rfl⟩
      rw [huq] at HG HY HUV
      have hkl : (k : Int) < (len : Int) := by omega
      clear hq hno huk hnx huq
      by_cases t1 : lo ≤ uq
      · have e1 : decide (uq < lo) = false := decide_eq_false (by omega)
        by_cases t2 : uq ≤ hi
        · have e2 : decide (hi < uq) = false := decide_eq_false (by omega)
          have HS := Lib.hid (HG.out ⟨t1, t2⟩)
          go_wp2_with fail
          refine (HUV.out _).mono ?_
          rintro e w3 ⟨rfl, b3⟩
          have HN3 : Hid (Below w1.heap.size w1 w3) := Lib.hid ((HN.out.alloc hwr1 _).trans (b3.mono (by simp; omega)))
          clear b3
          go_wp2_with fail
          go_roundw
          case rel => exact ⟨k + 1, by omega, by go_num, HS.out, HN3.out⟩
          case measure => simp [intOf]; omega
        · have e2 : decide (hi < uq) = true := decide_eq_true (by omega)
          have HS := Lib.hid (HY.out (fun h => t2 h.2))
          clear t2
          go_wp2_with fail
          refine (HUV.out _).mono ?_
          rintro e w3 ⟨rfl, b3⟩
          have HN3 : Hid (Below w1.heap.size w1 w3) := Lib.hid ((HN.out.alloc hwr1 _).trans (b3.mono (by simp; omega)))
          clear b3
          go_wp2_with fail
          go_ret2
          exact ⟨ret_two HS.out, HB1.out.trans (HN3.out.mono hs1)⟩
      · have e1 : decide (uq < lo) = true := decide_eq_true (by omega)
        have HS := Lib.hid (HY.out (fun h => t1 h.1))
        clear t1
        go_wp2_with fail
        refine (HUV.out _).mono ?_
        rintro e w3 ⟨rfl, b3⟩
        have HN3 : Hid (Below w1.heap.size w1 w3) := Lib.hid ((HN.out.alloc hwr1 _).trans (b3.mono (by simp; omega)))
        clear b3
        go_wp2_with fail
        go_ret2
        exact ⟨ret_two HS.out, HB1.out.trans (HN3.out.mono hs1)⟩
    · have hk' : k = len := by omega
      have HE := Lib.hid (odd_none (ls := ls) (lo := lo) (hi := hi) (by rw [HL.out, ← hk']; exact hno))
      clear hk' hno hnx
      go_wp2_with fail
      go_ret2
      exact ⟨ret_two HE.out, HB.out⟩
set_option maxHeartbeats 1000000 in
theorem iodd_zero (a : Option Addr) (cap : Nat) (v : Value) (cs : List (Int × Int × Int × Int)) (lo hi : Int) (hvf : vldF cs [] = true) (hd : (0 ≤ lo ∧ lo ≤ 1000000) ∧ (0 ≤ hi ∧ hi ≤ 1000000) ∧ lo ≤ hi) (hfc : FitsC cs) (hx : cs.length ≤ 1048576) (w : World) (hv : ReadsC w v cs) :
    Calls Try.prog 45 #[v, .slice a 0 cap, .int .i64 lo, .int .i64 hi] w fun e w' => e = .returned (.tuple #[.int .i64 0, .int .i64 6]) ∧ Below w.heap.size w w' := by
  have HV := Lib.hid hvf
  have d5 := betw2_true ⟨hd.1, hd.2.1⟩
  have g3 : decide (hi < lo) = false := decide_eq_false (by omega)
  have hu : ReadsL w (.slice a 0 cap) [] := ⟨a, cap, rfl, fun h => absurd rfl h⟩
  clear hvf hd
  go_enter Try.func45, Try.ntmps45
  go_wp2_with fail
  refine (ivldF_any _ _ cs [] _ hv hu hfc (fun p hp => by cases hp) hx (by simp)).mono ?_
  rintro e w1 ⟨rfl, b1⟩
  rw [HV.out]
  go_wp2_with (go_at_call 50; refine (idecl_any _ [lo, hi] _ (reads2 (by simp)) (by simp)).mono ?_; rintro e w3 ⟨rfl, rfl⟩)
  refine wp_loop_rounds 1 ?_
  rw [rounds_succ]
  go_wp2_with fail
  go_ret2
  exact ⟨rfl, b1.alloc b1.size _⟩
set_option maxHeartbeats 1000000 in
theorem iodd_any (v u : Value) (cs ls : List (Int × Int × Int × Int)) (lo hi : Int) (w : World) (hv : ReadsC w v cs) (hu : ReadsL w u ls) (hfc : FitsC cs) (hfl : FitsL ls) (hx : cs.length ≤ 1048576) (hy : ls.length ≤ 1048576) :
    Calls Try.prog 45 #[v, u, .int .i64 lo, .int .i64 hi] w fun e w' => e = .returned (.tuple #[.int .i64 (foRes cs ls lo hi), .int .i64 (foCode cs ls lo hi)]) ∧ Below w.heap.size w w' := by
  cases hvf : vldF cs ls
  · have hc : askF cs ls (fineO lo hi) = 1 := askF_1 hvf
    have hr := fo_c (lo := lo) (hi := hi) (by rw [hc]; omega)
    rw [hc] at hr
    have HR := Lib.hid hr
    have HV := Lib.hid hvf
    clear hvf hc hr
    go_enter Try.func45, Try.ntmps45
    go_wp2_with fail
    refine (ivldF_any _ _ cs ls _ hv hu hfc hfl hx hy).mono ?_
    rintro e w1 ⟨rfl, b1⟩
    rw [HV.out]
    go_wp2_with fail
    go_ret2
    exact ⟨ret_two HR.out, b1⟩
  · by_cases hd : (0 ≤ lo ∧ lo ≤ 1000000) ∧ (0 ≤ hi ∧ hi ≤ 1000000) ∧ lo ≤ hi
    · obtain ⟨r1, r2⟩ := fo_0 (lo := lo) (hi := hi) (by rw [fineO_true hd]; exact askF_0 hvf)
      rw [r1, r2]
      obtain ⟨a, cap, rfl, h⟩ := hu
      by_cases h0 : ls = []
      · subst h0
        exact iodd_zero a cap v cs lo hi hvf hd hfc hx w hv
      · obtain ⟨b, rfl, hcl⟩ := h h0
        exact iodd_row b ls.length cap v cs ls lo hi rfl hvf hd hfc hfl hx w hv hcl
    · have hc : askF cs ls (fineO lo hi) = 2 := by rw [fineO_false hd]; exact askF_2 hvf
      have hr := fo_c (lo := lo) (hi := hi) (by rw [hc]; omega)
      rw [hc] at hr
      have HR := Lib.hid hr
      have HV := Lib.hid hvf
      clear hvf hc hr
      by_cases t1 : (0 ≤ lo ∧ lo ≤ 1000000) ∧ (0 ≤ hi ∧ hi ≤ 1000000)
      · have d5 := betw2_true t1
        have g3 : decide (hi < lo) = true := decide_eq_true (by have : ¬ lo ≤ hi := fun h => hd ⟨t1.1, t1.2, h⟩; omega)
        clear hd t1
        go_enter Try.func45, Try.ntmps45
        go_wp2_with fail
        refine (ivldF_any _ _ cs ls _ hv hu hfc hfl hx hy).mono ?_
        rintro e w1 ⟨rfl, b1⟩
        rw [HV.out]
        go_wp2_with (go_at_call 50; refine (idecl_any _ [lo, hi] _ (reads2 (by simp)) (by simp)).mono ?_; rintro e w3 ⟨rfl, rfl⟩)
        go_ret2
        exact ⟨ret_two HR.out, b1.alloc b1.size _⟩
      · have d5 := betw2_false t1
        clear hd t1
        go_enter Try.func45, Try.ntmps45
        go_wp2_with fail
        refine (ivldF_any _ _ cs ls _ hv hu hfc hfl hx hy).mono ?_
        rintro e w1 ⟨rfl, b1⟩
        rw [HV.out]
        go_wp2_with (go_at_call 50; refine (idecl_any _ [lo, hi] _ (reads2 (by simp)) (by simp)).mono ?_; rintro e w3 ⟨rfl, rfl⟩)
        go_ret2
        exact ⟨ret_two HR.out, b1.alloc b1.size _⟩
end Go.Proofs.Ytfobepfjcphblaa
