/-
  The load by which nothing is lifted: the plain list; the model's LoadFor.
-/
import Derived.Test.YtadhoodddedjjaaPkT
namespace Go.Proofs.Ytadhoodddedjjaa
open Go Go.RowKit
set_option linter.unusedVariables false

/-- What is told for the stop s by the parcels r - 1 down to 0. -/
def ldT (ps : List (Int × Int)) (s : Int) : Nat → List Int
  | 0 => []
  | r + 1 => (if (ps.getD r (0, 0)).1 = s then [(r : Int)] else []) ++ ldT ps s r
/-- What is told for the stops m - 1 down to 0. -/
def ldU (ps : List (Int × Int)) : Nat → List Int
  | 0 => []
  | m + 1 => ldT ps (m : Int) ps.length ++ ldU ps m
def loadR (ps : List (Int × Int)) : List Int := if vldQ ps = true then ldU ps 9 else []
theorem ldT_len (ps : List (Int × Int)) (s : Int) (r : Nat) : (ldT ps s r).length ≤ r := by
  induction r with
  | zero => simp [ldT]
  | succ r ih =>
    rw [ldT, List.length_append]
    have h3 : (if (ps.getD r (0, 0)).1 = s then [(r : Int)] else [] : List Int).length ≤ 1 := by split <;> simp
    omega
theorem ldU_len (ps : List (Int × Int)) (m : Nat) : (ldU ps m).length ≤ m * ps.length := by
  induction m with
  | zero => simp [ldU]
  | succ m ih =>
    rw [ldU, List.length_append, Nat.succ_mul]
    have := ldT_len ps (m : Int) ps.length
    omega
theorem loadR_len (ps : List (Int × Int)) : (loadR ps).length ≤ 90 := by
  unfold loadR
  split
  · rename_i h
    have h1 := (vldQ_spec h).1
    have h2 := ldU_len ps 9
    omega
  · simp

set_option maxHeartbeats 4000000 in
set_option maxRecDepth 100000 in
theorem sload_ok (a : Option Addr) (len cap : Nat) (ps : List (Int × Int)) (w0 : World) (hlen : ps.length = len) (hfit : FitsQ ps) (hx : ps.length ≤ 1048576) (hv : ReadsQ w0 (.slice a len cap) ps) (hvl : vldQ ps = true) :
    Calls Try.prog 26 #[.slice a len cap] w0 (RetI1 w0.heap.size w0 (ldU ps 9) 0) := by
  obtain ⟨i0, hi, hz0, hz1, hz2⟩ := info_parts info_i64
  have HV := Lib.hid hv
  have HFIT := Lib.hid hfit
  obtain ⟨h10, hok⟩ := vldQ_spec hvl
  have HRD : Hid (∀ k, k < ps.length → ∃ b, a = some ⟨b, 0, none⟩ ∧ CellsQ w0 b ps) := Lib.hid (fun k hk => by
    obtain ⟨a', cap', e1, e2⟩ := hv
    simp only [Value.slice.injEq] at e1
    obtain ⟨rfl, _, rfl⟩ := e1
    exact e2 (fun e => by rw [e] at hk; simp at hk))
  have hu := ldU_len ps 9
  have HTOT : Hid ((ldU ps 9).length ≤ 90) := Lib.hid (by omega)
  have HOK := Lib.hid hok
  have HLEN := Lib.hid hlen
  have hl10 : len ≤ 10 := by omega
  clear hv hok hfit hu
  go_enter Try.func26, Try.ntmps26
  go_wp2_with fail
  refine (sokQ_any _ ps _ HV.out HFIT.out hx).mono ?_
  rintro e w2 ⟨rfl, b2⟩
  rw [hvl]
  have hs2 := b2.size
  have HOA : Hid ((w2.alloc (.cells #[] 2)).ownsRow w0.heap.size 2 1 (.slice (some ⟨w2.heap.size, 0, none⟩) 0 0) 0 []) := Lib.hid (World.ownsRow_made w2 #[] 0 hs2 (Nat.zero_le _) rfl)
  have HB0 : Hid (Below w0.heap.size w0 (w2.alloc (.cells #[] 2))) := Lib.hid (b2.alloc hs2 _)
  clear b2 hvl hlen h10 hx
  go_wp2_with fail
  go_loopw [4, 5] (fun g i wr => ∃ (m : Nat) (xs : List Int), m ≤ 9 ∧ i = .int .i8 ((m : Int) - 1) ∧ OwnI w0.heap.size wr g xs ∧ xs ++ ldU ps m = ldU ps 9 ∧ Below w0.heap.size w0 wr) (fun _ i _ => (intOf i + 1).toNat)
  case atStart => exact ⟨9, [], by omega, rfl, HOA.out, rfl, HB0.out⟩
  case round =>
    obtain ⟨m, xs, hm, rfl, hown, hsum, hnx⟩ := hrel
    have HO := Lib.hid hown
    have HSUM := Lib.hid hsum
    have HNX := Lib.hid hnx
    have hwr : w0.heap.size ≤ wr.heap.size := hnx.size
    clear hown hsum hnx
    rcases m with _ | m
    · have t0 : decide ((0 : Int) ≤ ((0 : Nat) : Int) - 1) = false := by decide
      have HE : Hid (xs = ldU ps 9) := Lib.hid (by have h := HSUM.out; rw [ldU, List.append_nil] at h; exact h)
      go_wp2_with fail
      go_ret2
      rw [← HE.out]
      exact ⟨_, rfl, HO.out, HNX.out⟩
    · have e1 : ((m + 1 : Nat) : Int) - 1 = (m : Int) := by omega
      rw [e1]
      have t0 : decide ((0 : Int) ≤ (m : Int)) = true := by simp
      have hm8 : m ≤ 8 := by omega
      have HU : Hid (ldU ps (m + 1) = ldT ps (m : Int) len ++ ldU ps m) := Lib.hid (by rw [ldU, HLEN.out])
      go_wp2_with fail
      go_loopw [4, 6] (fun g i wv => ∃ (r : Nat) (ys : List Int), r ≤ len ∧ i = .int .i64 ((r : Int) - 1) ∧ OwnI w0.heap.size wv g ys ∧ ys ++ ldT ps (m : Int) r ++ ldU ps m = ldU ps 9 ∧ Below w0.heap.size w0 wv) (fun _ i _ => (intOf i + 1).toNat)
      case atStart => exact ⟨len, xs, Nat.le_refl _, rfl, HO.out, by rw [List.append_assoc, ← HU.out]; exact HSUM.out, HNX.out⟩
      case round =>
        obtain ⟨r, ys, hr, rfl, hown, hsum, hnx⟩ := hrel
        have HO2 := Lib.hid hown
        have HSUM2 := Lib.hid hsum
        have HNX2 := Lib.hid hnx
        have hwr2 : w0.heap.size ≤ wr.heap.size := hnx.size
        have hyl : ys.length ≤ 90 := by
          have h := congrArg List.length hsum
          rw [List.length_append, List.length_append] at h
          have := HTOT.out
          omega
        rcases r with _ | r
        · have t1 : decide ((0 : Int) ≤ ((0 : Nat) : Int) - 1) = false := by decide
          have HS0 : Hid (ys ++ ldU ps m = ldU ps 9) := Lib.hid (by rw [ldT, List.append_nil] at hsum; exact hsum)
          clear hown hsum hnx
          go_wp2_with fail
          go_roundw
          case rel => exact ⟨m, ys, by omega, by go_num, HO2.out, HS0.out, HNX2.out⟩
          case measure => simp [intOf]
        · have e2 : ((r + 1 : Nat) : Int) - 1 = (r : Int) := by omega
          rw [e2]
          have t1 : decide ((0 : Int) ≤ (r : Int)) = true := by simp
          have hrp : r < ps.length := by have := HLEN.out; omega
          have hrl : (r : Int) < (len : Int) := by omega
          have hr10 : r ≤ 10 := by omega
          obtain ⟨b, hab, hc⟩ := HRD.out r hrp
          subst hab
          obtain ⟨c0, c1⟩ := hc.below hnx r hrp
          have HT : Hid (ldT ps (m : Int) (r + 1) = (if (ps.getD r (0, 0)).1 = (m : Int) then [(r : Int)] else []) ++ ldT ps (m : Int) r) := Lib.hid rfl
          obtain ⟨x, hx⟩ : ∃ x, (ps.getD r (0, 0)).1 = x := ⟨_, rfl⟩
          rw [hx] at c0 HT
          clear hx c1 hc hsum hnx
          by_cases hxm : x = (m : Int)
          · have hbe : (x == (m : Int)) = true := by simp [hxm]
            have HS3 : Hid ((ys ++ [(r : Int)]) ++ ldT ps (m : Int) r ++ ldU ps m = ldU ps 9) := Lib.hid (by
              have h := HSUM2.out
              rw [HT.out, if_pos hxm] at h
              simpa [List.append_assoc] using h)
            clear hxm
            go_wp2_with (at_builtin; refine wpList_append_own _ rfl _ _ 29 rfl w0.heap.size 2 i0 (.int .i64 0) 1 8 Try.underlying29 hi hz0 hz1 hz2 rfl (by decide) _ _ _ rfl (hown.alloc _) ⟨wr.heap.size, 0, none⟩ 1 1 [.int .i64 r] rfl rfl ?c1 ?c2 ?c3 ?c4 ?c5 ?_)
            case c1 =>
              intro j u hj
              match j, hj with
              | 0, hj => simp at hj; subst hj; simp [Addr.add]
            case c2 => intro u hu; simp at hu; subst hu; rfl
            case c3 => unfold maxLen; omega
            case c4 => omega
            case c5 => simp; omega
            intro v' w3 hown' hgrow _
            have HO' : Hid (OwnI w0.heap.size w3 v' (ys ++ [(r : Int)])) := Lib.hid (by
              unfold OwnI; rw [List.map_append, List.length_append]; exact hown')
            have HB' : Hid (Below w0.heap.size w0 w3) := Lib.hid ((HNX2.out.alloc hwr2 _).grown hgrow (by simp; omega) (fun j hj => (hown.lt j hj).1))
            clear hown' hgrow hown
            go_wp2_with fail
            go_roundw
            case rel => exact ⟨r, ys ++ [(r : Int)], by omega, by go_num, HO'.out, HS3.out, HB'.out⟩
            case measure => simp [intOf]
          · have hbe : (x == (m : Int)) = false := by simp [hxm]
            have HS3 : Hid (ys ++ ldT ps (m : Int) r ++ ldU ps m = ldU ps 9) := Lib.hid (by
              have h := HSUM2.out
              rw [HT.out, if_neg hxm, List.nil_append] at h
              exact h)
            clear hxm hown
            go_wp2_with fail
            go_roundw
            case rel => exact ⟨r, ys, by omega, by go_num, HO2.out, HS3.out, HNX2.out⟩
            case measure => simp [intOf]

set_option maxHeartbeats 2000000 in
theorem sload_any (v : Value) (ps : List (Int × Int)) (w : World) (hv : ReadsQ w v ps) (hfit : FitsQ ps) (hx : ps.length ≤ 1048576) :
    Calls Try.prog 26 #[v] w (RetI1 w.heap.size w (loadR ps) (codeQ ps)) := by
  have HV := Lib.hid hv
  cases hvl : vldQ ps
  · have HR : Hid (loadR ps = [] ∧ codeQ ps = 1) := Lib.hid ⟨by simp [loadR, hvl], by simp [codeQ, hvl]⟩
    rw [HR.out.1, HR.out.2]
    go_enter Try.func26, Try.ntmps26
    go_wp2_with fail
    refine (sokQ_any _ ps _ hv hfit hx).mono ?_
    rintro e w2 ⟨rfl, b2⟩
    rw [hvl]
    go_wp2_with fail
    go_ret2
    exact ⟨_, rfl, World.ownsRow_made w2 #[] 0 b2.size (Nat.zero_le _) rfl, b2.alloc b2.size _⟩
  · have h1 : loadR ps = ldU ps 9 := by simp [loadR, hvl]
    have h2 : codeQ ps = 0 := by simp [codeQ, hvl]
    rw [h1, h2]
    obtain ⟨a, cap, rfl, _⟩ := id hv
    exact sload_ok a ps.length cap ps w rfl hfit hx hv hvl

/-- 0, 1, .. n - 1. -/
def upK (n : Nat) : List Int := (List.range n).map Int.ofNat
theorem upK_len (n : Nat) : (upK n).length = n := by simp [upK]
theorem upK_get (n k : Nat) (h : k < n) : (upK n).getD k 0 = (k : Int) := by simp [upK, List.getD, h]

set_option maxHeartbeats 1000000 in
set_option maxRecDepth 100000 in
/-- The program's indices of parcels. -/
theorem iidx_any (a : Option Addr) (len cap : Nat) (h10 : len ≤ 10) (w : World) :
    Calls Try.prog 53 #[.slice a len cap] w fun e w' => e = .returned (.slice (some ⟨w.heap.size, 0, none⟩) len len) ∧ OwnI w.heap.size w' (.slice (some ⟨w.heap.size, 0, none⟩) len len) (upK len) ∧ Below w.heap.size w w' := by
  obtain ⟨i0, hi, hz0, hz1, hz2⟩ := info_parts info_i64
  obtain ⟨xs, hxs⟩ : ∃ xs, upK len = xs := ⟨_, rfl⟩
  have hl : xs.length = len := by rw [← hxs]; exact upK_len len
  have HG : Hid (∀ k, k < len → xs.getD k 0 = (k : Int)) := Lib.hid (fun k hk => by rw [← hxs]; exact upK_get len k hk)
  rw [hxs]
  subst hl
  clear hxs
  go_enter Try.func53, Try.ntmps53
  go_wp2_with (refine wpList_make_full _ rfl _ _ 29 rfl w.heap.size 2 i0 (.int .i64 0) 1 Try.underlying29 hi hz0 hz1 .i64 .i64 _ _ xs.length rfl rfl rfl rfl (by rw [hz2]; omega) (by unfold maxLen; omega) (Nat.le_refl _) ?_; intro w1 hown1 hg1)
  have hs1 : w.heap.size < w1.heap.size := (hown1.lt w.heap.size rfl).2
  go_loopw [10] (fun i wr => ∃ k : Nat, k ≤ xs.length ∧ i = .int .i64 k ∧ wr.ownsRow w.heap.size 2 1 (.slice (some ⟨w.heap.size, 0, none⟩) xs.length xs.length) xs.length ((copied xs k).map (Value.int .i64)) ∧ Below w.heap.size w wr) (fun i _ => xs.length - (intOf i).toNat)
  case atStart =>
    refine ⟨0, Nat.zero_le _, rfl, ?_, (Below.refl _ _).grown hg1 (Nat.le_refl _) (fun k hk => by simp at hk)⟩
    rw [copied_zero, List.map_replicate]
    have e : (madeCells (Value.int .i64 0).cells (xs.length * 1)).toList = List.replicate xs.length (.int .i64 0) := by rw [Nat.mul_one]; exact toList_madeCells_one _ _
    rw [← e]
    exact hown1
  case round =>
    obtain ⟨k, hk, rfl, hown, hnx⟩ := hrel
    by_cases hlt : k < xs.length
    · have hco : wr.cell? ⟨w.heap.size, k, none⟩ = some (.int .i64 ((copied xs k).getD k 0)) := by
        rw [hown.cellAt k (by omega)]
        have := copied_length xs k hk
        simp [List.getD, this, hlt]
      have hfo : wr.frozen? ⟨w.heap.size, k, none⟩ = false := hown.frozenAt k
      have S := hown.stored k (.int .i64 (xs.getD k 0))
      rw [copied_map_set xs k hlt, HG.out k hlt] at S
      have HS := Lib.hid S
      have HB := Lib.hid hnx
      have hki : (k : Int) < (xs.length : Int) := by omega
      clear S hown hown1 hnx
      go_wp2
      go_roundw
      case rel => exact ⟨k + 1, by omega, by go_num, HS.out.1, HB.out.setCell (Nat.le_refl _) _⟩
      case measure => simp [intOf]; omega
    · have HB := Lib.hid hnx
      have hk' : k = xs.length := by omega
      have HO : Hid (wr.ownsRow w.heap.size 2 1 (.slice (some ⟨w.heap.size, 0, none⟩) xs.length xs.length) xs.length (xs.map (Value.int .i64))) := Lib.hid (by rw [hk', copied_all] at hown; exact hown)
      clear hown hnx hown1 hk'
      go_wp2
      go_ret
      exact ⟨rfl, HO.out, HB.out⟩
end Go.Proofs.Ytadhoodddedjjaa
