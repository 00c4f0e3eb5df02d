/-
  The iterator of otherValues: rounds told by Fin 500 (round j hands over the value j + 1), those that are contained left out.
-/
import Derived.Test.YtmhjckbndhcbmaaIndexIn
namespace Go.Proofs.Ytmhjckbndhcbmaa
open Go Go.RowKit
set_option linter.unusedVariables false

/-- The rounds that have come when the values 1 to k are over. -/
def othK (xs : List Int) : Nat → List (Fin 500)
  | 0 => []
  | k + 1 => if hasB xs ((k : Int) + 1) = true then othK xs k else othK xs k ++ [rnd (by omega) k]
theorem othK_len (xs : List Int) (k : Nat) : (othK xs k).length ≤ k := by
  induction k with
  | zero => exact Nat.le_refl _
  | succ k ih =>
    rw [othK]
    split
    · omega
    · rw [List.length_append]; simp; omega
theorem othK_has {xs : List Int} {k : Nat} (h : hasB xs ((k : Int) + 1) = true) : othK xs (k + 1) = othK xs k := by rw [othK, if_pos h]
theorem othK_new {xs : List Int} {k : Nat} (h : hasB xs ((k : Int) + 1) = false) : othK xs (k + 1) = othK xs k ++ [rnd (by omega) k] := by rw [othK, if_neg (by rw [h]; simp)]

set_option maxRecDepth 100000 in
set_option maxHeartbeats 2000000 in
theorem other1_in (F : Fence) (n : Nat) (hF : ∀ f, F.fn f) (hro : F.round = none) (hn : 3 ≤ n) (hn1 : 1 ≤ n) (l Bs b cap : Nat) (xs : List Int) (hx : xs.length ≤ 1048576) (J Jx : List (Fin 500) → World → Prop)
    (hY : ∀ pre x W, J pre W → pre.length < 500 → YieldAt F (n - 1) Try.prog l #[.int .i64 ((x.1 : Int) + 1)] W fun e W' =>
      (e = .returned (.bool true) ∧ J (pre ++ [x]) W' ∧ Keeps2 Bs b W W') ∨ (e = .returned (.bool false) ∧ Jx (pre ++ [x]) W'))
    (W : World) (hBs : W.cell? ⟨Bs, 0, none⟩ = some (.slice (some ⟨b, 0, none⟩) xs.length cap)) (hc : Cells W b xs) (h0 : J [] W) :
    CallsIn F n Try.prog 65 #[.func (.yield l) #[] #[], .pointer (some ⟨Bs, 0, none⟩)] W fun e W' => (∃ v, e = .returned v) ∧
      ((∃ ys, ys = othK xs 500 ∧ J ys W') ∨ (∃ pre, (∃ k, k ≤ 500 ∧ pre = othK xs k) ∧ Jx pre W')) := by
  refine callsIn_of_wp Try.func65 rfl (hF _) ?_ hro
  simp only [Try.ntmps65, List.size_toArray, List.length_cons, List.length_nil, Nat.reduceAdd, Nat.reduceSub, Array.replicate_succ, Array.replicate_zero, List.push_toArray, List.append_toArray, List.nil_append, List.cons_append]
  obtain ⟨len, hl⟩ : ∃ len, xs.length = len := ⟨_, rfl⟩
  have HL := Lib.hid hl
  rw [hl] at hBs hx
  clear hl
  gi_wp2
  gi_loopw [3] (fun i wr => ∃ k : Nat, k ≤ 500 ∧ i = .int .i64 ((k : Int) + 1) ∧ J (othK xs k) wr ∧ Keeps2 Bs b W wr)
    (fun i _ => 501 - (intOf i).toNat)
  case atStart => exact ⟨0, by omega, by simp, h0, Keeps2.refl _ _ _⟩
  case round =>
    obtain ⟨k, hk, rfl, hJs, hnx⟩ := hrel
    by_cases hlt : k < 500
    · have cs : wr.cell? ⟨Bs, 0, none⟩ = some (.slice (some ⟨b, 0, none⟩) len cap) := hnx.box hBs
      have hcw : Cells wr b xs := fun j hj => hnx.row (hc j hj)
      have hrk := rnd_val (n := 500) (by omega) hlt
      obtain ⟨hb, hhb⟩ : ∃ hb, hasB xs ((k : Int) + 1) = hb := ⟨_, rfl⟩
      have HHB := Lib.hid hhb
      have HCW := Lib.hid hcw
      clear hhb hcw
      cases hb
      · obtain ⟨fn, tmps, assign, body, hy, hR⟩ := hY _ (rnd (by omega) k) wr hJs (by have := othK_len xs k; omega)
        rw [hrk] at hy
        clear hrk
        gi_wp2
        refine (contains_in F (n - 1) (hF _) (hF _) (by omega) hro b len cap xs _ HL.out hx wr HCW.out).mono ?_
        rintro e w4 ⟨rfl, rfl⟩
        rw [HHB.out]
        gi_wp2
        have HK := Lib.hid (othK_new HHB.out)
        refine hR.mono ?_
        rintro e W3 (⟨rfl, hJ3, hk3⟩ | ⟨rfl, hJx3⟩)
        · gi_wp2
          go_roundw
          case rel => exact ⟨k + 1, by omega, by go_num, by rw [HK.out]; exact hJ3, hnx.trans hk3⟩
          case measure => simp [intOf]; omega
        · gi_wp2
          refine bodyPost_ret (results_none rfl _ _ _) rfl ?_
          exact ⟨⟨_, rfl⟩, .inr ⟨_, ⟨k + 1, by omega, rfl⟩, by rw [HK.out]; exact hJx3⟩⟩
      · have HK := Lib.hid (othK_has HHB.out)
        gi_wp2
        refine (contains_in F (n - 1) (hF _) (hF _) (by omega) hro b len cap xs _ HL.out hx wr HCW.out).mono ?_
        rintro e w4 ⟨rfl, rfl⟩
        rw [HHB.out]
        gi_wp2
        go_roundw
        case rel => exact ⟨k + 1, by omega, by go_num, by rw [HK.out]; exact hJs, hnx⟩
        case measure => simp [intOf]; omega
    · obtain rfl : k = 500 := by omega
      gi_wp2
      go_end0
      exact ⟨⟨_, rfl⟩, .inl ⟨_, rfl, hJs⟩⟩

set_option maxHeartbeats 1000000 in
theorem other_in (F : Fence) (n : Nat) (hF : F.fn 33) (hro : F.round = none) (a : Option Addr) (len cap : Nat) (w : World) :
    CallsIn F n Try.prog 33 #[.slice a len cap] w fun e w' => e = .returned (.func (.func 65) #[] #[.pointer (some ⟨w.heap.size, 0, none⟩)]) ∧ w' = w.alloc (.cells #[.slice a len cap] 22) := by
  refine callsIn_of_wp Try.func33 rfl hF ?_ hro
  simp only [Try.ntmps33, List.size_toArray, List.length_cons, List.length_nil, Nat.reduceAdd, Nat.reduceSub, Array.replicate_succ, Array.replicate_zero, List.push_toArray, List.append_toArray, List.nil_append, List.cons_append]
  gi_wp2
  go_ret
  exact ⟨rfl, rfl⟩

theorem other_stops (F : Fence) (n : Nat) (hF : ∀ f, F.fn f) (hro : F.round = none) (hn : 3 ≤ n) (Bs b cap : Nat) (xs : List Int) (hx : xs.length ≤ 1048576) (w : World) (hBs : Bs < w.heap.size)
    (hc : w.cell? ⟨Bs, 0, none⟩ = some (.slice (some ⟨b, 0, none⟩) xs.length cap)) (hI : Cells w b xs) :
    SeqStopsK F n Try.prog 65 #[.pointer (some ⟨Bs, 0, none⟩)] (fun x : Fin 500 => #[.int .i64 ((x.1 : Int) + 1)]) (Keeps2 Bs b) (fun ys => ys = othK xs 500) (fun pre => ∃ k, k ≤ 500 ∧ pre = othK xs k) 500 w := fun l J Jx W hW _ _ hY h0 =>
  other1_in F n hF hro hn (by omega) l Bs b cap xs hx J Jx hY W ((hW.cell (p := ⟨Bs, 0, none⟩) hBs).trans hc) (hI.below hW) h0
end Go.Proofs.Ytmhjckbndhcbmaa
