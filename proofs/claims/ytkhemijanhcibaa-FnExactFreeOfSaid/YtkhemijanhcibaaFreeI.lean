/-
  The implementation's FreeOf: chunks, their least ones, their sum.
-/
import Derived.Test.YtkhemijanhcibaaFreeP
import Derived.Test.YtkhemijanhcibaaTabK
import Derived.Test.YtkhemijanhcibaaKeep2
import Derived.Test.YtkhemijanhcibaaRound
import Derived.Test.YtkhemijanhcibaaBlock
import Derived.IntWalk
import Derived.Stop.RegionWithIn
namespace Go.Proofs.Ytkhemijanhcibaa
open Go Go.RowKit Go.Shelf
set_option linter.unusedVariables false
attribute [local go_sem] Oper.semAt_some

/-- How many numbers the x-th chunk has. -/
def cnt (e n x : Nat) : Nat := min e (n - x * e)
/-- A chunk that there is. -/
abbrev Chk (e n : Nat) : Type := {x : Nat // x * e < n}
theorem cnt_bd {e n : Nat} (x : Chk e n) (he : 1 ≤ e) : 1 ≤ cnt e n x.1 ∧ cnt e n x.1 ≤ e ∧ x.1 * e + cnt e n x.1 ≤ n := by
  have := x.2
  unfold cnt
  omega
/-- All chunks have come. -/
def AllChk (e n : Nat) (ys : List (Chk e n)) : Prop := ∃ k, ys.map (·.1) = List.range k ∧ n ≤ k * e ∧ (k = 0 ∨ (k - 1) * e < n)

set_option maxHeartbeats 1000000 in
theorem chunk_in (F : Fence) (n : Nat) (hF : F.fn 36) (hro : F.round = none) (a : Option Addr) (len cap : Nat) (e : Int) (he : 1 ≤ e) (w : World) :
    CallsIn F n Try.prog 36 #[.slice a len cap, .int .i64 e] w fun r w' => r = .returned (.func (.func 39) #[] #[.pointer (some ⟨w.heap.size, 0, none⟩), .pointer (some ⟨w.heap.size + 1, 0, none⟩)]) ∧ w' = (w.alloc (.cells #[.slice a len cap] 35)).alloc (.cells #[.int .i64 e] 3) := by
  have t0 : decide (e < 1) = false := by simp; omega
  refine callsIn_of_wp Try.func36 rfl hF ?_ hro
  simp only [Try.ntmps36, List.size_toArray, List.length_cons, List.length_nil, Nat.reduceAdd, Nat.reduceSub, Array.replicate_succ, Array.replicate_zero, List.push_toArray, List.append_toArray, List.nil_append, List.cons_append]
  gi_wp2
  go_ret
  exact ⟨rfl, rfl⟩

theorem grown_drewN (w : World) (n : Nat) (row : Option Nat) : w.grownBy (w.drewN n) row := by
  have h := bdrewN (w := w) n
  exact ⟨h.os, h.tape, h.output, h.size, fun k hk _ => h.block k hk⟩
set_option maxRecDepth 100000 in
set_option maxHeartbeats 2000000 in
theorem chunk1_in (n : Nat) (hn : 1 ≤ n) (l Bs Bn b e len cap : Nat) (a : Option Addr) (he1 : 1 ≤ e) (he8 : e ≤ 8) (hlen : len ≤ 100) (ha : len ≠ 0 → a = some ⟨b, 0, none⟩ ∧ len ≤ cap) (J Jx : List (Chk e len) → World → Prop) (W : World) (hJ : AbidesFrom W.heap.size J)
    (hY : ∀ pre x W1, J pre W1 → pre.length < len → YieldAt Fence.wide (n - 1) Try.prog l #[.slice (some ⟨b, x.1 * e, none⟩) (cnt e len x.1) (cnt e len x.1)] W1 fun e' W' =>
      (e' = .returned (.bool true) ∧ J (pre ++ [x]) W' ∧ Keeps2 Bs Bn W1 W') ∨ (e' = .returned (.bool false) ∧ Jx (pre ++ [x]) W'))
    (hBs : W.cell? ⟨Bs, 0, none⟩ = some (.slice a len cap)) (hBn : W.cell? ⟨Bn, 0, none⟩ = some (.int .i64 e)) (h0 : J [] W) :
    CallsIn Fence.wide n Try.prog 39 #[.func (.yield l) #[] #[], .pointer (some ⟨Bs, 0, none⟩), .pointer (some ⟨Bn, 0, none⟩)] W fun e' W' => (∃ v, e' = .returned v) ∧
      ((∃ ys, AllChk e len ys ∧ J ys W') ∨ (∃ pre, True ∧ Jx pre W')) := by
  have hro : Fence.wide.round = none := rfl
  have hFF : ∀ f, Fence.wide.fn f := fun _ => trivial
  refine callsIn_of_wp Try.func39 rfl (hFF _) ?_ hro
  simp only [Try.ntmps39, List.size_toArray, List.length_cons, List.length_nil, Nat.reduceAdd, Nat.reduceSub, Array.replicate_succ, Array.replicate_zero, List.push_toArray, List.append_toArray, List.nil_append, List.cons_append]
  have HJ := Lib.hid hJ
  have HBN := Lib.hid hBn
  clear hJ
  gi_wp2
  gi_loopw [4] (fun i wr => ∃ (k : Nat) (pre : List (Chk e len)), pre.map (·.1) = List.range k ∧ (k = 0 ∨ (k - 1) * e < len) ∧ i = .int .i64 ((k * e : Nat) : Int) ∧ J pre wr ∧ Keeps2 Bs Bn W wr)
    (fun i _ => len - (intOf i).toNat)
  case atStart => exact ⟨0, [], rfl, .inl rfl, by simp, h0, Keeps2.refl _ _ _⟩
  case round =>
    obtain ⟨k, pre, hpre, hk, rfl, hJs, hnx⟩ := hrel
    have cs : wr.cell? ⟨Bs, 0, none⟩ = some (.slice a len cap) := hnx.box hBs
    have cn : wr.cell? ⟨Bn, 0, none⟩ = some (.int .i64 e) := hnx.row hBn
    have hpl : pre.length = k := by have h := congrArg List.length hpre; simpa using h
    by_cases hlt : k * e < len
    · obtain ⟨rfl, hcap⟩ := ha (by omega)
      have hkk : k * 1 ≤ k * e := Nat.mul_le_mul_left k he1
      have hcb := cnt_bd (⟨k, hlt⟩ : Chk e len) he1
      have hcd : cnt e len k = min e (len - k * e) := rfl
      have hnext : (k + 1) * e = k * e + e := Nat.succ_mul k e
      have hmap : (pre ++ [(⟨k, hlt⟩ : Chk e len)]).map (·.1) = List.range (k + 1) := by rw [List.map_append, hpre, List.range_succ]; rfl
      have HYK : Hid (∀ W1, J pre W1 → YieldAt Fence.wide (n - 1) Try.prog l #[.slice (some ⟨b, k * e, none⟩) (cnt e len k) (cnt e len k)] W1 fun e' W' => (e' = .returned (.bool true) ∧ J (pre ++ [(⟨k, hlt⟩ : Chk e len)]) W' ∧ Keeps2 Bs Bn W1 W') ∨ (e' = .returned (.bool false) ∧ Jx (pre ++ [(⟨k, hlt⟩ : Chk e len)]) W')) := Lib.hid (fun W1 h => hY pre ⟨k, hlt⟩ W1 h (by omega))
      obtain ⟨ys, hys⟩ : ∃ ys, pre ++ [(⟨k, hlt⟩ : Chk e len)] = ys := ⟨_, rfl⟩
      rw [hys] at HYK hmap
      simp only at hcb
      have HJP := Lib.hid hJs
      have HNXT := Lib.hid hnx
      obtain ⟨kk, hkk'⟩ : ∃ kk, k * e = kk := ⟨_, rfl⟩
      obtain ⟨c, hc⟩ : ∃ c, cnt e len k = c := ⟨_, rfl⟩
      rw [hc] at hcb hcd HYK
      rw [hkk'] at hcb hcd hnext HYK hkk ⊢
      have hlt' : kk < len := by omega
      obtain ⟨hc1, hc2, hc3⟩ := hcb
      have HCD := Lib.hid hcd
      have HNX := Lib.hid hnext
      have HM := Lib.hid hmap
      have HKK := Lib.hid hkk'
      have hkl : (kk : Int) < (len : Int) := by omega
      have hkl1 : (kk : Int) ≤ (len : Int) := by omega
      have hkl2 : kk ≤ len := by omega
      have hi1 : (kk : Int) + (c : Int) ≤ (cap : Int) := by omega
      have hi2 : kk + c ≤ cap := by omega
      clear hcd hnext hmap hkk' hc hys hpre hpl hkk hk hJs hnx hlt
      gi_wp2
      have hk9 : (kk : Int) < (cap : Int) := by omega
      have hk9n : kk < cap := by omega
      have HMIN : Hid ((if len - kk < e then ((len - kk : Nat) : Int) else (e : Int)) = (c : Int)) := Lib.hid (by
        have := HCD.out
        split <;> omega)
      gi_quiet_th (fail)
      rw [HMIN.out]
      obtain ⟨wd, hwd⟩ : ∃ v, wr.drewN nq = v := ⟨_, rfl⟩
      have hJd : J pre wd := by rw [← hwd]; exact HJ.out pre wr (wr.drewN nq) none HJP.out (grown_drewN wr nq none) (fun r e => by cases e)
      have HN2 : Hid (Keeps2 Bs Bn W wd) := Lib.hid (by rw [← hwd]; exact HNXT.out)
      rw [hwd]
      clear hwd
      obtain ⟨fn, tmps, assign, body, hy, hR⟩ := HYK.out wd hJd
      have cn : wd.cell? ⟨Bn, 0, none⟩ = some (.int .i64 e) := HN2.out.row HBN.out
      have cs : wd.cell? ⟨Bs, 0, none⟩ = some (.slice (some ⟨b, 0, none⟩) len cap) := HN2.out.box hBs
      gi_wp2
      refine hR.mono ?_
      rintro e' W3 (⟨rfl, hJ3, hk3⟩ | ⟨rfl, hJx3⟩)
      · have HN3 := Lib.hid (HN2.out.trans hk3)
        have HJ3 := Lib.hid hJ3
        have cn3 : W3.cell? ⟨Bn, 0, none⟩ = some (.int .i64 e) := HN3.out.row HBN.out
        clear hJ3 hk3 hy hR
        gi_wp2
        go_roundw
        case rel => exact ⟨k + 1, ys, HM.out, .inr (by rw [Nat.add_sub_cancel, HKK.out]; exact hlt'), by rw [HNX.out]; go_num, HJ3.out, HN3.out⟩
        case measure => simp [intOf]; omega
      · have HJX := Lib.hid hJx3
        clear hJx3 hy hR
        gi_wp2
        refine bodyPost_ret (results_none rfl _ _ _) rfl ?_
        exact ⟨⟨_, rfl⟩, .inr ⟨_, trivial, HJX.out⟩⟩
    · have HJS := Lib.hid hJs
      have HP := Lib.hid (show AllChk e len pre from ⟨k, hpre, by omega, hk⟩)
      obtain ⟨kk, hkk'⟩ : ∃ kk, k * e = kk := ⟨_, rfl⟩
      rw [hkk'] at hlt ⊢
      have hlt' : ¬ (kk : Int) < (len : Int) := by omega
      clear hpre hk hJs hkk'
      gi_wp2
      go_end0
      exact ⟨⟨_, rfl⟩, .inl ⟨_, HP.out, HJS.out⟩⟩
set_option maxHeartbeats 2000000 in
set_option maxRecDepth 100000 in
theorem minI_any (g f n cap : Nat) (L : List Int) (w : World) (h1 : 1 ≤ n) (hn : n ≤ 10) (hc : ∀ i, i < n → w.cell? ⟨g, f + i, none⟩ = some (.int .i64 (L.getD (f + i) 0))) :
    Calls Try.prog 37 #[.slice (some ⟨g, f, none⟩) n cap] w fun e w' => e = .returned (.int .i64 (mn L f n)) ∧ w = w' := by
  have HC := Lib.hid hc
  have c0 := hc 0 (by omega)
  rw [Nat.add_zero] at c0
  have HM0 := Lib.hid (mn_one L f)
  obtain ⟨x0, hx0⟩ : ∃ x, L.getD f 0 = x := ⟨_, rfl⟩
  rw [hx0] at c0 HM0
  have t0 : decide ((n : Int) < 1) = false := by simp; omega
  have hn0 : (0 : Int) < (n : Int) := by omega
  have hn0' : 0 < n := by omega
  clear hc hx0
  go_enter Try.func37, Try.ntmps37
  go_wp2_with fail
  clear c0
  go_loop [3, 4] (fun s i => ∃ k : Nat, 1 ≤ k ∧ k ≤ n ∧ i = .int .i64 k ∧ s = .int .i64 (mn L f k)) (fun _ i => n - (intOf i).toNat)
  case atStart => exact ⟨1, by omega, by omega, rfl, by rw [HM0.out]⟩
  case round =>
    obtain ⟨k, hk1, hk, rfl, rfl⟩ := hrel
    by_cases hlt : k < n
    · have cx := HC.out k hlt
      have HSN := Lib.hid (mn_succ L f k)
      obtain ⟨x, hx⟩ : ∃ x, L.getD (f + k) 0 = x := ⟨_, rfl⟩
      obtain ⟨mm, hmm⟩ : ∃ mm, mn L f k = mm := ⟨_, rfl⟩
      rw [hx] at cx HSN
      rw [hmm] at HSN ⊢
      clear hx hmm
      by_cases hc1 : x < mm
      · have hc2 : ¬ mm < x := by omega
        have HT : Hid (mn L f (k + 1) = x) := Lib.hid (by have := HSN.out; omega)
        go_wp2_with fail
        go_round
        case rel => exact ⟨k + 1, by omega, by omega, by go_num, by rw [HT.out]⟩
        case measure => simp [intOf]; omega
      · have HT : Hid (mn L f (k + 1) = mm) := Lib.hid (by have := HSN.out; omega)
        by_cases hc2 : mm < x
        · go_wp2_with fail
          go_round
          case rel => exact ⟨k + 1, by omega, by omega, by go_num, by rw [HT.out]⟩
          case measure => simp [intOf]; omega
        · obtain rfl : x = mm := by omega
          go_wp2_with fail
          go_round
          case rel => exact ⟨k + 1, by omega, by omega, by go_num, by rw [HT.out]⟩
          case measure => simp [intOf]; omega
    · have hk' : k = n := by omega
      rw [hk']
      have HK := Lib.hid hk'
      clear hk'
      go_wp2_with fail
      go_ret
      exact ⟨rfl, rfl⟩


set_option maxHeartbeats 2000000 in
set_option maxRecDepth 100000 in
theorem withinI2_any (v : Value) (r : List Int) (lo hi : Int) (w : World) (hv : ReadsI w v r) (hn : r.length ≤ 1048576) :
    Calls Try.prog 35 #[v, .int .i64 lo, .int .i64 hi] w fun e w' => e = .returned (.bool (betwB r lo hi)) ∧ w = w' := by
  obtain ⟨a, cap, rfl, ha⟩ := hv
  have HA := Lib.hid ha
  obtain ⟨n, hn'⟩ : ∃ n, r.length = n := ⟨_, rfl⟩
  rw [hn'] at hn ⊢
  have HN := Lib.hid hn'
  clear ha hn'
  go_enter Try.func35, Try.ntmps35
  go_wp2_with fail
  go_loop [11] (fun i => ∃ k : Nat, k ≤ n ∧ i = .int .i64 k ∧ betw r lo hi k) (fun i => n - (intOf i).toNat)
  case atStart => exact ⟨0, Nat.zero_le _, rfl, betw.zero _ _ _⟩
  case round =>
    obtain ⟨k, hk, rfl, hb⟩ := hrel
    have HB := Lib.hid hb
    by_cases hlt : k < n
    · obtain ⟨g, rfl, hc⟩ := HA.out (by intro e; have := HN.out; rw [e] at this; simp at this; omega)
      have cx := hc k (by have := HN.out; omega)
      have HS : Hid (lo ≤ r.getD k 0 ∧ r.getD k 0 ≤ hi → betw r lo hi (k + 1)) := Lib.hid HB.out.succ
      have HBAD : Hid (¬ (lo ≤ r.getD k 0 ∧ r.getD k 0 ≤ hi) → betwB r lo hi = false) := Lib.hid (betwB_bad (by have := HN.out; omega))
      obtain ⟨x, hx⟩ : ∃ x, r.getD k 0 = x := ⟨_, rfl⟩
      rw [hx] at cx HS HBAD
      clear hc hx hb
      by_cases h1 : lo ≤ x
      · by_cases h2 : x ≤ hi
        · have t1 : decide (x < lo) = false := by simp; omega
          have t2 : decide (hi < x) = false := by simp; omega
          go_wp2_with fail
          go_round
          case rel => exact ⟨k + 1, by omega, by go_num, HS.out ⟨h1, h2⟩⟩
          case measure => simp [intOf]; omega
        · have t1 : decide (x < lo) = false := by simp; omega
          have t2 : decide (hi < x) = true := by simp; omega
          go_wp2_with fail
          go_ret
          exact ⟨(ret_bool (HBAD.out (by omega))).symm, rfl⟩
      · have t1 : decide (x < lo) = true := by simp; omega
        go_wp2_with fail
        go_ret
        exact ⟨(ret_bool (HBAD.out (by omega))).symm, rfl⟩
    · have hk' : k = n := by omega
      have HE : Hid (betwB r lo hi = true) := Lib.hid (betwB_true (by rw [HN.out, ← hk']; exact hb))
      clear hk' hb
      go_wp2_with fail
      go_ret
      exact ⟨(ret_bool HE.out).symm, rfl⟩

theorem chunk_stops (n : Nat) (hn : 1 ≤ n) (Bs Bn b e len cap : Nat) (a : Option Addr) (he1 : 1 ≤ e) (he8 : e ≤ 8) (hlen : len ≤ 100) (ha : len ≠ 0 → a = some ⟨b, 0, none⟩ ∧ len ≤ cap) (w : World) (hBs : w.cell? ⟨Bs, 0, none⟩ = some (.slice a len cap)) (hBn : w.cell? ⟨Bn, 0, none⟩ = some (.int .i64 e)) :
    SeqStopsK Fence.wide n Try.prog 39 #[.pointer (some ⟨Bs, 0, none⟩), .pointer (some ⟨Bn, 0, none⟩)] (fun x : Chk e len => #[.slice (some ⟨b, x.1 * e, none⟩) (cnt e len x.1) (cnt e len x.1)]) (Keeps2 Bs Bn) (AllChk e len) (fun _ => True) len w := fun l J Jx W hW hJ _ hY h0 =>
  chunk1_in n hn l Bs Bn b e len cap a he1 he8 hlen ha J Jx W hJ hY ((hW.cell (p := ⟨Bs, 0, none⟩) (World.block_lt_of_cell? w _ hBs)).trans hBs) ((hW.cell (p := ⟨Bn, 0, none⟩) (World.block_lt_of_cell? w _ hBn)).trans hBn) h0

theorem BlockI.below' {W W' : World} {B : Nat} {T : TypeId} {L : List Int} (h : BlockI W B T L) (hb : Below W.heap.size W W') : BlockI W' B T L := (hb.block _ h.lt).trans h
theorem KeepsOthers.drewN (W : World) (n : Nat) : KeepsOthers W (W.drewN n) := ⟨Nat.le_refl _, fun _ _ h _ => h⟩

theorem Boxed.alloc {W : World} {B : Nat} {t : TypeId} {v : Value} (h : Boxed W B t v) (o : Obj) : Boxed (W.alloc o) B t v := (heap_alloc_old _ _ (Array.getElem?_eq_some_iff.1 h).1).trans h
/-- What the x-th chunk makes less: the least of it, if it is whole. -/
def gv (xs : List Int) (e x : Nat) : Int := if (x + 1) * e ≤ xs.length then mn xs (x * e) e else 0
def fsL (xs : List Int) (e : Nat) (l : List Nat) : Int := l.foldl (fun s x => s + gv xs e x) 0
theorem fsL_snoc (xs : List Int) (e : Nat) (l : List Nat) (x : Nat) : fsL xs e (l ++ [x]) = fsL xs e l + gv xs e x := by unfold fsL; rw [List.foldl_append]; rfl
theorem gv_bd {xs : List Int} (h : betw xs 0 10000 xs.length) {e x : Nat} (he : 1 ≤ e) : 0 ≤ gv xs e x ∧ gv xs e x ≤ 10000 := by
  unfold gv
  by_cases hx : (x + 1) * e ≤ xs.length
  · rw [if_pos hx]
    rw [Nat.succ_mul] at hx
    exact mn_bound (h _ (by omega)) (fun i hi => (h _ (by omega)).1)
  · rw [if_neg hx]; omega
theorem fsL_range {xs : List Int} {e k : Nat} (he : 1 ≤ e) : fsL xs e (List.range k) = gsum xs e (min k (xs.length / e)) := by
  induction k with
  | zero => rw [Nat.zero_min]; rfl
  | succ k ih =>
    rw [List.range_succ, fsL_snoc, ih]
    unfold gv
    by_cases hx : (k + 1) * e ≤ xs.length
    · have h1 : k + 1 ≤ xs.length / e := (Nat.le_div_iff_mul_le (by omega)).2 hx
      rw [if_pos hx, show min (k + 1) (xs.length / e) = k + 1 by omega, show min k (xs.length / e) = k by omega, gsum_succ]
    · have h1 : ¬ k + 1 ≤ xs.length / e := fun q => hx ((Nat.le_div_iff_mul_le (by omega)).1 q)
      rw [if_neg hx, show min (k + 1) (xs.length / e) = xs.length / e by omega, show min k (xs.length / e) = xs.length / e by omega, Int.add_zero]
theorem fsL_all {xs : List Int} {e n : Nat} (hn : xs.length = n) (he : 1 ≤ e) {ys : List (Chk e n)} (h : AllChk e n ys) : fsL xs e (ys.map (·.1)) = gsum xs e (n / e) := by
  obtain ⟨k, h1, h2, _⟩ := h
  rw [h1, fsL_range he, hn]
  have : n / e ≤ k := by
    have h3 : n / e < k + 1 := by
      rw [Nat.div_lt_iff_lt_mul (by omega), Nat.succ_mul]; omega
    omega
  rw [show min k (n / e) = n / e by omega]

set_option maxHeartbeats 2000000 in
set_option maxRecDepth 100000 in
theorem iFree_in (a : Option Addr) (b cap : Nat) (xs : List Int) (e : Nat) (w : World) (he2 : 2 ≤ e) (he8 : e ≤ 8) (hb : betwB xs 0 10000 = true) (hl : xs.length ≤ 100) (ha : xs.length ≠ 0 → a = some ⟨b, 0, none⟩ ∧ xs.length ≤ cap) (hc : xs.length ≠ 0 → Cells w b xs) (hr : ReadsI w (.slice a xs.length cap) xs) :
    CallsIn Fence.wide 5 Try.prog 18 #[.slice a xs.length cap, .int .i64 (e : Int)] w fun r w' => r = .returned (.tuple #[.int .i64 (gsum xs e (xs.length / e)), .int .i64 0]) ∧ Below w.heap.size w w' := by
  have hro : Fence.wide.round = none := rfl
  have hFF : ∀ f, Fence.wide.fn f := fun _ => trivial
  have HB := Lib.hid hb
  have HA := Lib.hid ha
  have HC := Lib.hid hc
  have HR := Lib.hid hr
  obtain ⟨n, hn⟩ : ∃ n, xs.length = n := ⟨_, rfl⟩
  have HN := Lib.hid hn
  have t1 : decide ((e : Int) < 2) = false := by simp; omega
  have t2 : decide (8 < (e : Int)) = false := by simp; omega
  have t3 : decide ((100 : Int) < (n : Int)) = false := by simp; omega
  have t3n : decide (100 < n) = false := by simp; omega
  have t1n : decide (e < 2) = false := by simp; omega
  have t2n : decide (8 < e) = false := by simp; omega
  have hn100 : n ≤ 100 := by omega
  rw [hn] at HR ⊢
  obtain ⟨W1, e1⟩ : ∃ V, w.alloc (.cells #[.int .i64 (e : Int)] 2) = V := ⟨_, rfl⟩
  have B1 : Hid (Below w.heap.size w W1) := Lib.hid (by rw [← e1]; exact allocB _ _)
  have K1 : Hid (BlockI W1 w.heap.size 2 [(e : Int)]) := Lib.hid (by rw [← e1]; exact BlockI.new w _ [(e : Int)])
  have E1 := Lib.hid e1
  clear hb ha hc hr hn e1 hl
  refine callsIn_of_wp_marks Try.func18 rfl (hFF _) ?_ hro
  simp only [Try.ntmps18, List.size_toArray, List.length_cons, List.length_nil, Nat.reduceAdd, Nat.reduceSub, Array.replicate_succ, Array.replicate_zero, List.push_toArray, List.append_toArray, List.nil_append, List.cons_append]
  gi_wp2
  rw [E1.out]
  refine ((callsIn_wide (n := 4)).2 (withinI2_any _ xs 0 10000 _ (HR.out.below B1.out) (by have := HN.out; omega))).mono ?_
  rintro r w2 ⟨rfl, rfl⟩
  rw [HB.out]
  have k1 := K1.out.cell 0 (by simp)
  simp at k1
  have hlt1 := K1.out.lt
  gi_wp2
  obtain ⟨W2, e2⟩ : ∃ V, W1.alloc (.cells #[.int .i64 0] 2) = V := ⟨_, rfl⟩
  have k2 : BlockI W2 w.heap.size 2 [(e : Int)] := by rw [← e2]; exact K1.out.alloc _
  have l2 : BlockI W2 W1.heap.size 2 [0] := by rw [← e2]; exact BlockI.new W1 _ [0]
  have b2 : Below w.heap.size w W2 := by rw [← e2]; exact B1.out.alloc (by omega) _
  have s2 : W2.heap.size = W1.heap.size + 1 := by rw [← e2]; simp
  rw [e2]
  refine (chunk_in Fence.wide 4 (hFF _) hro a n cap e (by omega) W2).mono ?_
  rintro r w3 ⟨rfl, e3⟩
  have s3 : w3.heap.size = W2.heap.size + 2 := by rw [e3]; simp
  have b23 : Below W2.heap.size W2 w3 := by rw [e3]; exact ((Below.refl _ _).alloc (Nat.le_refl _) _).alloc (by simp) _
  have j3 : w3.cell? ⟨W2.heap.size, 0, none⟩ = some (.slice a n cap) := by rw [e3]; exact ((Boxed.new W2 _ _).alloc _).cell
  have m3 : w3.cell? ⟨W2.heap.size + 1, 0, none⟩ = some (.int .i64 e) := by
    rw [e3]
    have h := (Boxed.new (W2.alloc (.cells #[.slice a n cap] 35)) 3 (.int .i64 e)).cell
    simpa only [World.size_alloc] using h
  have k3 := k2.below' b23
  have l3 := l2.below' b23
  have b3 := blink b2 b23
  have HS2 := Lib.hid s2
  have HS3 := Lib.hid s3
  have HJ3 := Lib.hid j3
  have HM3 := Lib.hid m3
  have HK3 := Lib.hid k3
  have HL3 := Lib.hid l3
  have HB3 := Lib.hid b3
  clear e2 e3 k2 l2 b2 s2 s3 b23 j3 m3 k3 l3 b3 k1
  gi_wp2
  refine wpIn_rangeFunc_ownG hro (by omega) (gf := 39) (lb := #[.pointer (some ⟨W2.heap.size, 0, none⟩), .pointer (some ⟨W2.heap.size + 1, 0, none⟩)]) rfl (hFF _) (enters_of Try.func39 (by kernel_rfl) rfl)
    (chunk_stops 4 (by omega) W2.heap.size (W2.heap.size + 1) b e n cap a (by omega) he8 hn100 (by rw [← HN.out]; exact HA.out) w3 HJ3.out HM3.out) Keeps2.trans (Keeps2.put (by have := HS3.out; omega) (by have := HS3.out; omega)) (Below.refl _ _) (fun _ => rfl)
    (fun pre W => ((BlockI W w.heap.size 2 [(e : Int)] ∧ BlockI W W1.heap.size 2 [fsL xs e (pre.map (·.1))]) ∧ (0 ≤ fsL xs e (pre.map (·.1)) ∧ fsL xs e (pre.map (·.1)) ≤ 10000 * pre.length)) ∧ Below w.heap.size w W)
    (fun _ _ _ => False)
    (OwnFrom.and (Own.from (fun s A B row hs hg hr => ⟨⟨hs.1.1.kept hg hr, hs.1.2.kept hg hr⟩, hs.2⟩) _) (ownFrom_below (Nat.le_refl _) (by have := HS2.out; have := HS3.out; omega)))
    (fun _ _ _ _ _ hs _ _ => hs)
    ⟨⟨⟨HK3.out, HL3.out⟩, by simp [fsL]⟩, HB3.out⟩
    (fun x => { tmps := #[.slice a n cap, .int .i64 e, undef, .pointer (some ⟨w.heap.size, 0, none⟩), .int .i64 0, .int .i64 0, .pointer (some ⟨W1.heap.size, 0, none⟩), .slice (some ⟨b, x.1 * e, none⟩) (cnt e n x.1) (cnt e n x.1), .int .i64 e, .bool false, .bool false, .int .i64 e, .bool false, .bool false, .bool false, .slice a n cap, .bool true, .bool false, .bool false, .slice a n cap, .int .i64 n, .bool false, .slice a n cap, .int .i64 e,
      .func (.func 39) #[] #[.pointer (some ⟨W2.heap.size, 0, none⟩), .pointer (some ⟨W2.heap.size + 1, 0, none⟩)], .slice (some ⟨b, x.1 * e, none⟩) (cnt e n x.1) (cnt e n x.1), undef, undef, undef, undef, undef, undef, undef, undef, undef], defers := [] }) ?assign ?body ?done ?stop
  case assign =>
    intro l x W K hK
    obtain ⟨c, hc⟩ : ∃ c, cnt e n x.1 = c := ⟨_, rfl⟩
    obtain ⟨k, hk⟩ : ∃ k, x.1 * e = k := ⟨_, rfl⟩
    rw [hc, hk] at hK ⊢
    gi_wp2
    exact hK
  case body =>
    rintro l pre x W ⟨⟨⟨kA, kB⟩, hfb⟩, hB⟩ hpl
    have hcb := cnt_bd x (show 1 ≤ e by omega)
    have hx := x.2
    have hcells := (HC.out (by have := HN.out; omega)).below hB
    have hcd : cnt e n x.1 = min e (n - x.1 * e) := rfl
    have hsn : fsL xs e ((pre ++ [x]).map (·.1)) = fsL xs e (pre.map (·.1)) + gv xs e x.1 := by rw [List.map_append]; exact fsL_snoc _ _ _ _
    have hgv := gv_bd (x := x.1) (betwB_spec HB.out) (show 1 ≤ e by omega)
    have hgd : gv xs e x.1 = if x.1 * e + e ≤ n then mn xs (x.1 * e) e else 0 := by unfold gv; rw [Nat.succ_mul, HN.out]
    have hmin : cnt e n x.1 = e → CallsIn (Fence.wide.inRound l) 2 Try.prog 37 #[.slice (some ⟨b, x.1 * e, none⟩) e e] W.drew fun r w' => r = .returned (.int .i64 (mn xs (x.1 * e) e)) ∧ W.drew = w' := fun h => CallsIn.inRound l ((callsIn_wide (n := 2)).2 (minI_any b (x.1 * e) e e xs W.drew (by omega) (by omega) (by intro i hi; exact hcells _ (by have := HN.out; omega))))
    have hlen : (pre ++ [x]).length = pre.length + 1 := by simp
    have c0 := kA.cell 0 (by simp)
    have c1 := kB.cell 0 (by simp)
    have f1 := kB.frozen 0
    simp at c0 c1
    obtain ⟨ys, hys⟩ : ∃ ys, pre ++ [x] = ys := ⟨_, rfl⟩
    rw [hys] at hsn hlen ⊢
    obtain ⟨g, hg⟩ : ∃ g, gv xs e x.1 = g := ⟨_, rfl⟩
    obtain ⟨c, hc⟩ : ∃ c, cnt e n x.1 = c := ⟨_, rfl⟩
    obtain ⟨k, hk⟩ : ∃ k, x.1 * e = k := ⟨_, rfl⟩
    obtain ⟨s, hs⟩ : ∃ s, fsL xs e (pre.map (·.1)) = s := ⟨_, rfl⟩
    have HSS := Lib.hid hs
    have hsn : fsL xs e (ys.map (·.1)) = s + g := by rw [hsn, hs, hg]
    rw [hg] at hgv hgd
    rw [hc] at hcb hcd hmin ⊢
    rw [hk] at hcb hcd hx hmin hgd ⊢
    have c1 : W.cell? ⟨W1.heap.size, 0, none⟩ = some (.int .i64 s) := by rw [← HSS.out]; exact c1
    rw [HSS.out] at kB hfb
    obtain ⟨fb1, fb2⟩ := hfb
    obtain ⟨gb1, gb2⟩ := hgv
    obtain ⟨cb1, cb2, cb3⟩ := hcb
    have HSN := Lib.hid hsn
    have HLE := Lib.hid hlen
    have HKA := Lib.hid kA
    have HKB := Lib.hid kB
    have HBW := Lib.hid hB
    have HMIN := Lib.hid hmin
    have hs2 : s ≤ 1000000 := by omega
    by_cases hfull : c = e
    · have hgv2 : g = mn xs k e := by rw [hgd, if_pos (by omega)]
      have hm := HMIN.out hfull
      rw [← hgv2] at hm
      have HM := Lib.hid hm
      subst hfull
      clear hys hg hc hk hs hsn hgd hcd hx hcells hpl kA kB hB hmin hm hgv2 hlen
      gi_wp2
      gi_region_with (gi_at_call 37; refine HM.out.mono ?_; rintro r w' ⟨rfl, rfl⟩)
      all_goals
        have HWR : Hid (IntKind.i64.wrap (s + g) = s + g) := Lib.hid (IntWalk.i64_in _ ⟨by omega, by omega⟩)
        have hs2' := HS2.out
        try gi_wp2
        refine ⟨((KeepsOthers.setCell _ _ _).trans (KeepsOthers.drew _)).from _, ⟨heap_setCell_other W _ _ _ (by show W2.heap.size ≠ W1.heap.size; omega), heap_setCell_other W _ _ _ (by show W2.heap.size + 1 ≠ W1.heap.size; omega)⟩, ⟨⟨HKA.out.other ⟨W1.heap.size, 0, none⟩ _ (by show w.heap.size ≠ W1.heap.size; omega), ?_⟩, by rw [HSN.out]; have := HLE.out; omega⟩, ?_⟩
        · rw [HWR.out, HSN.out]
          exact HKB.out.set 0 (s + g)
        · exact (HBW.out.setCell (p := ⟨W1.heap.size, 0, none⟩) (by show w.heap.size ≤ W1.heap.size; omega) _).drew
    · have hg0 : g = 0 := by rw [hgd, if_neg (by omega)]
      subst hg0
      have t7 : ((c : Int) == (e : Int)) = false := by simp; omega
      have t7n : (c == e) = false := by simp; omega
      clear hys hg hc hk hs hsn hgd hcd hx hcells hpl kA kB hB hmin hlen
      gi_wp2
      refine ⟨(KeepsOthers.refl _).from _, Keeps2.refl _ _ _, ⟨⟨HKA.out, by show BlockI W _ _ [fsL xs e (ys.map (·.1))]; rw [HSN.out, Int.add_zero]; exact HKB.out⟩, by show 0 ≤ fsL xs e (ys.map (·.1)) ∧ fsL xs e (ys.map (·.1)) ≤ 10000 * (ys.length : Int); rw [HSN.out]; have := HLE.out; omega⟩, HBW.out⟩
  case done =>
    rintro D ys W hD hys ⟨⟨⟨kA, kB⟩, hfb⟩, hB⟩ hK
    rw [fsL_all HN.out (show 1 ≤ e by omega) hys] at kB
    obtain ⟨s, hs⟩ : ∃ s, gsum xs e (n / e) = s := ⟨_, rfl⟩
    have HS := Lib.hid hs
    rw [hs] at kB
    have c1 := kB.cell 0 (by simp)
    simp at c1
    have HB9 := Lib.hid hB
    have HK := Lib.hid hK
    have hwD : w.heap.size ≤ D := by have := HS2.out; have := HS3.out; omega
    clear hys hs kA kB hfb hB hK
    gi_wp2
    refine ⟨by simp, .inl ⟨_, _, rfl, run_takeDeferred HK.out, ?_⟩⟩
    refine ⟨.tuple #[.int .i64 s, .int .i64 0], by simp [results, Try.results18, go_sem], by rw [HS.out], ?_⟩
    exact Below.trans HB9.out (belowK_b (w := w) (Nat.le_refl _) _ D _ _ hwD HK.out rfl rfl)
  case stop =>
    rintro D c pre W _ _ h _
    exact h.elim

set_option maxHeartbeats 2000000 in
set_option maxRecDepth 100000 in
theorem iFree_any (v : Value) (xs : List Int) (e : Int) (w : World) (B : Nat) (ho : OwnI B w v xs) (hn : xs.length ≤ 1048576) :
    Calls Try.prog 18 #[v, .int .i64 e] w fun r w' => r = .returned (.tuple #[.int .i64 (freeX xs e), .int .i64 (freeC xs e)]) ∧ Below w.heap.size w w' := by
  have hr := ho.reads
  by_cases h1 : inB e 2 8 = true
  · have hin := of_decide_eq_true (p := 2 ≤ e ∧ e ≤ 8) h1
    obtain ⟨en, rfl⟩ : ∃ en : Nat, e = en := ⟨e.toNat, by omega⟩
    by_cases h2 : betwB xs 0 10000 = true
    · by_cases h3 : xs.length ≤ 100
      · obtain ⟨x1, x2⟩ := free_0 h2 h1 h3
        rw [x1, x2, Int.toNat_natCast]
        rcases ho.cases with ⟨rfl, rfl⟩ | ⟨g, cap, rfl, hg1, hg2, hcap, _, hcells, _⟩
        · exact callsIn_wide.1 (iFree_in none 0 0 [] en w (by omega) (by omega) h2 h3 (fun h => absurd rfl h) (fun h => absurd rfl h) hr)
        · exact callsIn_wide.1 (iFree_in (some ⟨g, 0, none⟩) g cap xs en w (by omega) (by omega) h2 h3 (fun _ => ⟨rfl, hcap⟩) (fun _ => hcells) hr)
      · obtain ⟨x1, x2⟩ := free_3 h2 h1 h3
        have HX := Lib.hid (And.intro x1 x2)
        have HR := Lib.hid hr
        have H2 := Lib.hid h2
        have t1 : decide ((en : Int) < 2) = false := by simp; omega
        have t2 : decide (8 < (en : Int)) = false := by simp; omega
        have t1n : decide (en < 2) = false := by simp; omega
        have t2n : decide (8 < en) = false := by simp; omega
        obtain ⟨a, cap, rfl, _⟩ := hr
        obtain ⟨n, hn'⟩ : ∃ n, xs.length = n := ⟨_, rfl⟩
        have HN := Lib.hid hn'
        rw [hn'] at HR h3 hn ⊢
        clear ho x1 x2 h2 hn'
        go_enter Try.func18, Try.ntmps18
        go_wp2_with fail
        refine (withinI2_any _ xs 0 10000 _ (HR.out.below (allocB _ _)) (by have := HN.out; omega)).mono ?_
        rintro r w2 ⟨rfl, rfl⟩
        rw [H2.out]
        go_wp2_with fail
        go_ret2
        exact ⟨ret_eq (by rw [HX.out.1, HX.out.2]; rfl), allocB _ _⟩
    · obtain ⟨x1, x2⟩ := free_2 (L := xs) (e := (en : Int)) (fun q => h2 q.1)
      have HX := Lib.hid (And.intro x1 x2)
      have HR := Lib.hid hr
      have H2 : Hid (betwB xs 0 10000 = false) := Lib.hid (by simpa using h2)
      have t1 : decide ((en : Int) < 2) = false := by simp; omega
      have t2 : decide (8 < (en : Int)) = false := by simp; omega
      have t1n : decide (en < 2) = false := by simp; omega
      have t2n : decide (8 < en) = false := by simp; omega
      obtain ⟨a, cap, rfl, _⟩ := hr
      obtain ⟨n, hn'⟩ : ∃ n, xs.length = n := ⟨_, rfl⟩
      have HN := Lib.hid hn'
      rw [hn'] at HR hn ⊢
      clear ho x1 x2 h2 hn'
      go_enter Try.func18, Try.ntmps18
      go_wp2_with fail
      refine (withinI2_any _ xs 0 10000 _ (HR.out.below (allocB _ _)) (by have := HN.out; omega)).mono ?_
      rintro r w2 ⟨rfl, rfl⟩
      rw [H2.out]
      go_wp2_with fail
      go_ret2
      exact ⟨ret_eq (by rw [HX.out.1, HX.out.2]; rfl), allocB _ _⟩
  · obtain ⟨x1, x2⟩ := free_2 (L := xs) (e := e) (fun q => h1 q.2)
    have HX := Lib.hid (And.intro x1 x2)
    have hno : ¬ (2 ≤ e ∧ e ≤ 8) := fun q => h1 (decide_eq_true q)
    obtain ⟨a, cap, rfl, _⟩ := hr
    clear ho x1 x2 h1
    by_cases hlo : e < 2
    · have t1 : decide (e < 2) = true := decide_eq_true hlo
      clear hno
      go_enter Try.func18, Try.ntmps18
      go_wp2_with fail
      go_ret2
      exact ⟨ret_eq (by rw [HX.out.1, HX.out.2]; rfl), allocB _ _⟩
    · have t1 : decide (e < 2) = false := decide_eq_false hlo
      have hhi : 8 < e := by omega
      have t2 : decide (8 < e) = true := decide_eq_true hhi
      clear hno
      go_enter Try.func18, Try.ntmps18
      go_wp2_with fail
      go_ret2
      exact ⟨ret_eq (by rw [HX.out.1, HX.out.2]; rfl), allocB _ _⟩
end Go.Proofs.Ytkhemijanhcibaa
