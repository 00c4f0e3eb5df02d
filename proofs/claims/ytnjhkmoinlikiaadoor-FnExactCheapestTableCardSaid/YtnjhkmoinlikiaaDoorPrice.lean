/-
  The price of one weight, on both sides; sums.
-/
import Derived.Test.YtnjhkmoinlikiaaDoorStepI
namespace Go.Proofs.YtnjhkmoinlikiaaDoor
open Go Go.RowKit
set_option linter.unusedVariables false

def sumL : List Int → Int
  | [] => 0
  | x :: r => x + sumL r
theorem sumL_app (a b : List Int) : sumL (a ++ b) = sumL a + sumL b := by
  induction a with
  | nil => simp [sumL]
  | cons x r ih => simp only [List.cons_append, sumL, ih]; omega
theorem sumL_take_succ (xs : List Int) (k : Nat) (h : k < xs.length) : sumL (xs.take (k + 1)) = sumL (xs.take k) + xs.getD k 0 := by
  rw [List.take_succ_eq_append_getElem h, sumL_app]
  simp [sumL, List.getD, h]
theorem sumL_bound {xs : List Int} {hi : Int} {k : Nat} (hk : k ≤ xs.length) (h : betw xs 0 hi k) : 0 ≤ sumL (xs.take k) ∧ sumL (xs.take k) ≤ hi * k := by
  induction k with
  | zero => simp [sumL]
  | succ k ih =>
    have h1 := ih (by omega) (fun i hi => h i (by omega))
    have h2 := h k (by omega)
    rw [sumL_take_succ xs k (by omega)]
    constructor
    · omega
    · have e : hi * ((k + 1 : Nat) : Int) = hi * (k : Int) + hi := by
        rw [Int.natCast_add, Int.mul_add]; simp
      omega

/-- The price of a weight in a zone. -/
def prc (S : List Int) (R : List (List Int)) (z : Int) (n : Int) : Int := (R.getD z.toNat []).getD (stp S n) 0
theorem prc_bound {S : List Int} {R : List (List Int)} {z n : Int} (hv : vldT S R = true) (hz : inB z 0 (R.length - 1) = true) (hs : stp S n < S.length) : 0 ≤ prc S R z n ∧ prc S R z n ≤ 10000 := by
  obtain ⟨_, _, _, h⟩ := vldT_spec hv
  have h1 := inB_spec hz
  obtain ⟨h2, h3⟩ := h z.toNat (by omega)
  exact h3 (stp S n) (by omega)
/-- The same, -1 if there is no step. -/
def prcI (S : List Int) (R : List (List Int)) (z : Int) (n : Int) : Int := if stp S n < S.length then prc S R z n else -1
theorem prcI_yes {S : List Int} {R : List (List Int)} {z n : Int} (h : stp S n < S.length) : prcI S R z n = prc S R z n := if_pos h
theorem prcI_no {S : List Int} {R : List (List Int)} {z n : Int} (h : ¬ stp S n < S.length) : prcI S R z n = -1 := if_neg h
def prcV (S : List Int) (R : List (List Int)) (z : Int) (n : Int) (a3 : Addr) : Value := if stp S n < S.length then .tuple #[.int .i64 (prc S R z n), .nilIface] else .tuple #[.int .i64 0, .iface 61 (.pointer (some a3))]
theorem prcV_yes {S : List Int} {R : List (List Int)} {z n : Int} (a3 : Addr) (h : stp S n < S.length) : prcV S R z n a3 = .tuple #[.int .i64 (prc S R z n), .nilIface] := if_pos h
theorem prcV_no {S : List Int} {R : List (List Int)} {z n : Int} (a3 : Addr) (h : ¬ stp S n < S.length) : prcV S R z n a3 = .tuple #[.int .i64 0, .iface 61 (.pointer (some a3))] := if_neg h

/-- Where a price of a valid table lies. -/
theorem AtT.price {w : World} {B : Nat} {S : List Int} {R : List (List Int)} (h : AtT w B S R) (hv : vldT S R = true) {z : Nat} (hz : z < R.length) {q : Nat} (hq : q < S.length) :
    ∃ gb c2 gr cr, w.cell? ⟨B, 1, none⟩ = some (.slice (some ⟨gb, 0, none⟩) R.length c2) ∧ w.cell? ⟨gb, z, none⟩ = some (.slice (some ⟨gr, 0, none⟩) S.length cr) ∧ w.cell? ⟨gr, q, none⟩ = some (.int .i16 ((R.getD z []).getD q 0)) := by
  obtain ⟨a, cap, b, c2, c0, c1, _, hR⟩ := h.cells
  obtain ⟨_, _, _, hrs⟩ := vldT_spec hv
  obtain ⟨hl, _⟩ := hrs z hz
  obtain ⟨gb, rfl, hcr⟩ := hR (by intro e; rw [e] at hz; simp at hz)
  obtain ⟨u, d0, ⟨ar, cr, rfl, hra⟩⟩ := hcr z hz
  obtain ⟨gr, rfl, hc⟩ := hra (by intro e; rw [e] at hl; simp at hl; omega)
  rw [hl] at d0
  exact ⟨gb, c2, gr, cr, c1, d0, hc q (by omega)⟩

set_option maxHeartbeats 2000000 in
set_option maxRecDepth 100000 in
theorem sprice_any (B : Nat) (S : List Int) (R : List (List Int)) (z n : Int) (w : World) (h : AtT w B S R) (k : TabOk S R) (hv : vldT S R = true) (hz : inB z 0 (R.length - 1) = true) :
    Calls Tryd.prog 13 #[.pointer (some ⟨B, 0, none⟩), .int .i64 z, .int .i64 n] w fun e w' => e = .returned (.int .i64 (prcI S R z n)) ∧ w = w' := by
  have hzb := inB_spec hz
  obtain ⟨zn, rfl⟩ : ∃ zn : Nat, z = zn := ⟨z.toNat, by omega⟩
  have H := Lib.hid h
  have K := Lib.hid k
  by_cases hs : stp S n < S.length
  · obtain ⟨gb, c2, gr, cr, c1, d1, x1⟩ := h.price hv (z := zn) (by omega) hs
    have hb := prc_bound hv hz hs
    have HP : Hid (prcI S R zn n = prc S R zn n) := Lib.hid (prcI_yes hs)
    have HS := Lib.hid hs
    have hp : (R.getD zn []).getD (stp S n) 0 = prc S R zn n := by simp [prc]
    rw [hp] at x1
    obtain ⟨p, hpp⟩ : ∃ p, prc S R zn n = p := ⟨_, rfl⟩
    rw [hpp] at x1 hb HP
    obtain ⟨hb1, hb2⟩ := hb
    obtain ⟨s, hss⟩ : ∃ s, stp S n = s := ⟨_, rfl⟩
    have HST : Hid (stpI S n = s) := Lib.hid (by rw [stpI_yes hs, hss])
    rw [hss] at x1 hs
    obtain ⟨m, hm⟩ : ∃ m, S.length = m := ⟨_, rfl⟩
    obtain ⟨r, hr⟩ : ∃ r, R.length = r := ⟨_, rfl⟩
    have hmb : m ≤ 1048576 := by have := k.sl; omega
    have hrb : r ≤ 1048576 := by have := k.rl; omega
    have hzr : zn < r := by omega
    rw [hm] at d1 hs
    rw [hr] at c1
    have t1 : decide ((s : Int) < 0) = false := by first | (simp; done) | (simp; omega)
    clear h k hv hz hp hpp hss hm hr hzb
    go_enter Tryd.func13, Tryd.ntmps13
    go_wp2_with fail
    refine (sstep_any B S R n _ H.out K.out).mono ?_
    rintro e w2 ⟨rfl, rfl⟩
    rw [HST.out]
    go_wp2_with fail
    go_ret
    exact ⟨(ret_int HP.out).symm, rfl⟩
  · have HS : Hid (stpI S n = -1) := Lib.hid (stpI_no hs)
    have HP : Hid (prcI S R zn n = -1) := Lib.hid (prcI_no hs)
    clear h k hv hz hs hzb
    go_enter Tryd.func13, Tryd.ntmps13
    go_wp2_with fail
    refine (sstep_any B S R n _ H.out K.out).mono ?_
    rintro e w2 ⟨rfl, rfl⟩
    rw [HS.out]
    go_wp2_with fail
    go_ret
    exact ⟨(ret_int HP.out).symm, rfl⟩

set_option maxHeartbeats 2000000 in
set_option maxRecDepth 100000 in
theorem iprice_any (v : Value) (S : List Int) (R : List (List Int)) (z n : Int) (w : World) (h : ReadsT w v S R) (k : TabOk S R) (hv : vldT S R = true) (hz : inB z 0 (R.length - 1) = true) (a3 : Addr)
    (g3 : w.cell? ⟨0, 0, none⟩ = some (.iface 61 (.pointer (some a3)))) :
    Calls Tryd.prog 17 #[v, .int .i64 z, .int .i64 n] w fun e w' => e = .returned (prcV S R z n a3) ∧ Below w.heap.size w w' := by
  have hzb := inB_spec hz
  obtain ⟨zn, rfl⟩ : ∃ zn : Nat, z = zn := ⟨z.toNat, by omega⟩
  obtain ⟨v1, v2, rfl, ⟨a, cap, rfl, ha⟩, ⟨b, c2, rfl, hb⟩⟩ := h
  have H0 : Hid (ReadsT w (.agg #[.slice a S.length cap, .slice b R.length c2]) S R) := Lib.hid ⟨_, _, rfl, ⟨a, cap, rfl, ha⟩, ⟨b, c2, rfl, hb⟩⟩
  have HAT : Hid (AtT (w.alloc (.cells #[.slice a S.length cap, .slice b R.length c2] 37)) w.heap.size S R) := Lib.hid (AtT.box ⟨a, cap, rfl, ha⟩ ⟨b, c2, rfl, hb⟩)
  have K := Lib.hid k
  have HG := Lib.hid g3
  have HV := Lib.hid hv
  have HZ := Lib.hid hz
  have hzr0 : zn < R.length := by omega
  clear ha hb k g3 hv hz
  by_cases hs : stp S n < S.length
  · have HS := Lib.hid hs
    have hle : 0 ≤ (stp S n : Int) := by omega
    clear hs
    go_enter Tryd.func17, Tryd.ntmps17
    go_wp2_with fail
    refine (istep_any _ S R n _ (H0.out.below (allocB _ _)) K.out a3 (cbelow (allocB _ _) HG.out)).mono ?_
    rintro e w2 ⟨rfl, b2⟩
    rw [stepV_yes a3 HS.out]
    obtain ⟨gb, c2', gr, cr, c1, d1, x1⟩ := (HAT.out.below b2).price HV.out hzr0 HS.out
    have hb := prc_bound HV.out HZ.out HS.out
    have hp : (R.getD zn []).getD (stp S n) 0 = prc S R zn n := by simp [prc]
    rw [hp] at x1
    have HP : Hid (prcV S R zn n a3 = .tuple #[.int .i64 (prc S R zn n), .nilIface]) := Lib.hid (prcV_yes a3 HS.out)
    obtain ⟨p, hpp⟩ : ∃ p, prc S R zn n = p := ⟨_, rfl⟩
    rw [hpp] at x1 hb HP
    obtain ⟨hb1, hb2⟩ := hb
    have C := Lib.hid (blink (allocB w _) b2)
    have hss := HS.out
    have hsl := K.out.sl
    have hrl := K.out.rl
    have hss2 : (stp S n : Int) < (S.length : Int) := by omega
    have hzr2 : (zn : Int) < (R.length : Int) := by omega
    clear hp hpp b2
    go_wp2_with fail
    go_ret2
    exact ⟨ret_eq (by rw [HP.out]; rfl), C.out⟩
  · have HS := Lib.hid hs
    clear hs
    go_enter Tryd.func17, Tryd.ntmps17
    go_wp2_with fail
    refine (istep_any _ S R n _ (H0.out.below (allocB _ _)) K.out a3 (cbelow (allocB _ _) HG.out)).mono ?_
    rintro e w2 ⟨rfl, b2⟩
    rw [stepV_no a3 HS.out]
    have C := Lib.hid (blink (allocB w _) b2)
    clear b2
    go_wp2_with fail
    go_ret2
    exact ⟨ret_eq (by rw [prcV_no a3 HS.out]; rfl), C.out⟩
end Go.Proofs.YtnjhkmoinlikiaaDoor
