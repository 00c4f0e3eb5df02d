/-
  The model's l04Walk and WalkOf.
-/
import Derived.Test.YteecpijfikgjnaaWkP
import Derived.Test.YteecpijfikgjnaaVsT
import Derived.Test.YteecpijfikgjnaaPkT
namespace Go.Proofs.Yteecpijfikgjnaa
open Go Go.RowKit
set_option linter.unusedVariables false

theorem smaxV_any (a b : Int) (w : World) : Calls Try.prog 32 #[.int .i64 a, .int .i64 b] w fun e w' => e = .returned (.int .i64 (max a b)) ∧ w' = w := by
  by_cases h : b < a
  · have t : max a b = a := by omega
    have HT := Lib.hid t
    clear t
    go_enter Try.func32, Try.ntmps32
    go_wp2_with fail
    go_ret
    exact ⟨ret_int HT.out.symm, rfl⟩
  · have t : max a b = b := by omega
    have HT := Lib.hid t
    clear t
    go_enter Try.func32, Try.ntmps32
    go_wp2_with fail
    go_ret
    exact ⟨ret_int HT.out.symm, rfl⟩

set_option maxHeartbeats 1000000 in
set_option maxRecDepth 100000 in
theorem swalkL_row (b len cap : Nat) (xs : List Int) (hl : xs.length = len) (hok : OkW xs) (w : World) (hc : Cells w b xs) :
    Calls Try.prog 17 #[.slice (some ⟨b, 0, none⟩) len cap] w fun e w' => e = .returned (.int .i64 (walkTo xs xs.length)) ∧ Below w.heap.size w w' := by
  have HC := Lib.hid hc
  have HL := Lib.hid hl
  have HOK := Lib.hid hok
  have h9 : len ≤ 9 := by rw [← hl]; exact hok.1
  rw [hl]
  clear hc hl hok
  go_enter Try.func17, Try.ntmps17
  go_wp2_with fail
  go_loopw [3, 4, 5] (fun s a i wr => ∃ k : Nat, k ≤ len ∧ i = .int .i64 k ∧ s = .int .i64 (walkTo xs k) ∧ a = .int .i64 (beforeW xs k) ∧ Below w.heap.size w wr) (fun _ _ i _ => len - (intOf i).toNat)
  case atStart => exact ⟨0, Nat.zero_le _, rfl, rfl, rfl, Below.refl _ _⟩
  case round =>
    obtain ⟨k, hk, rfl, rfl, rfl, hnx⟩ := hrel
    have HB := Lib.hid hnx
    by_cases hlt : k < len
    · have hk0 : (0 : Int) ≤ (k : Int) := by omega
      have cx : wr.cell? ⟨b, k, none⟩ = some (.int .i64 (xs.getD k 0)) := (HC.out.below hnx) k (by rw [HL.out]; exact hlt)
      obtain ⟨hx0, hx8⟩ := HOK.out.2 k (by rw [HL.out]; exact hlt)
      obtain ⟨hb0, hb8⟩ := beforeW_bd HOK.out (k := k) (by rw [HL.out]; omega)
      obtain ⟨hs0, hs8⟩ := walkTo_bd HOK.out k (by rw [HL.out]; omega)
      have HS := Lib.hid (walkTo_succ' xs k)
      have HA : Hid (beforeW xs (k + 1) = xs.getD k 0) := Lib.hid rfl
      obtain ⟨x, hx⟩ : ∃ x, xs.getD k 0 = x := ⟨_, rfl⟩
      obtain ⟨a, ha⟩ : ∃ a, beforeW xs k = a := ⟨_, rfl⟩
      obtain ⟨s, hs⟩ : ∃ s, walkTo xs k = s := ⟨_, rfl⟩
      obtain ⟨d, hd⟩ : ∃ d, max (x - a) (a - x) = d := ⟨_, rfl⟩
      rw [hx] at cx hx0 hx8 HS HA
      rw [ha] at hb0 hb8 HS ⊢
      rw [hs] at hs0 hs8 HS ⊢
      rw [hd] at HS
      have hd0 : 0 ≤ d := by omega
      have hd8 : d ≤ 8 := by omega
      have HM : Hid (∀ n, Calls Try.prog 32 #[.int .i64 (x - a), .int .i64 (a - x)] (wr.drewN n) fun e w' => e = .returned (.int .i64 d) ∧ w' = wr.drewN n) := Lib.hid (fun n => by rw [← hd]; exact smaxV_any _ _ _)
      clear hx ha hs hd hnx
      go_wp2_with fail
      go_quiet ((go_at_call 32; (with_reducible exact Calls.quiet_of_same (HM.out _))))
      go_wp2_with fail
      go_roundw
      case rel => exact ⟨k + 1, by omega, by go_num, by rw [HS.out], by rw [HA.out], below_drewN HB.out _⟩
      case measure => simp [intOf]; omega
    · have hk' : k = len := by omega
      clear hnx
      go_wp2_with fail
      go_ret
      exact ⟨by rw [hk']; rfl, HB.out⟩
theorem swalkL_nil (a : Option Addr) (cap : Nat) (w : World) :
    Calls Try.prog 17 #[.slice a 0 cap] w fun e w' => e = .returned (.int .i64 0) ∧ Below w.heap.size w w' := by
  go_enter Try.func17, Try.ntmps17
  go_wp2_with fail
  refine wp_loop_rounds 1 ?_
  rw [rounds_succ]
  go_wp2_with fail
  go_ret
  exact ⟨rfl, Below.refl _ _⟩
theorem swalkL_any (v : Value) (xs : List Int) (hok : OkW xs) (w : World) (hv : ReadsI w v xs) :
    Calls Try.prog 17 #[v] w fun e w' => e = .returned (.int .i64 (walkTo xs xs.length)) ∧ Below w.heap.size w w' := by
  obtain ⟨a, cap, rfl, h⟩ := hv
  by_cases h0 : xs = []
  · subst h0
    exact swalkL_nil a cap w
  · obtain ⟨b, rfl, hc⟩ := h h0
    exact swalkL_row b xs.length cap xs rfl hok w hc

set_option maxHeartbeats 1000000 in
theorem swk_any (v : Value) (a : Option Addr) (n : Nat) (ps : List (Int × Int)) (xs : List Int) (w : World) (hv : ReadsQ w v ps) (hu : ReadsI w (.slice a n n) xs) (hfit : FitsQ ps) (hxq : ps.length ≤ 1048576) (hx : xs.length ≤ 1048576) :
    Calls Try.prog 6 #[v, .slice a n n] w fun e w' => e = .returned (.tuple #[.int .i64 (wkR ps xs), .int .i64 (wkC ps xs)]) ∧ Below w.heap.size w w' := by
  have HV := Lib.hid hv
  have HU := Lib.hid hu
  have HOK := Lib.hid (sokQ_any v ps w hv hfit hxq)
  clear hu hv
  go_enter Try.func6, Try.ntmps6
  go_wp2_with fail
  refine HOK.out.mono ?_
  rintro e w2 ⟨rfl, b2⟩
  have HB2 := Lib.hid b2
  clear HOK
  cases hvl : vldQ ps
  · have HR : Hid (wkR ps xs = 0 ∧ wkC ps xs = 1) := Lib.hid ⟨by simp [wkR, hvl], by simp [wkC, hvl]⟩
    clear hvl b2
    go_wp2_with fail
    go_ret2
    rw [HR.out.1, HR.out.2]
    exact ⟨rfl, HB2.out⟩
  · have HVL := Lib.hid hvl
    have HS := Lib.hid (sstopsL_any v ps w2 (HV.out.below b2) hvl)
    clear hvl b2
    go_wp2_with fail
    refine HS.out.mono ?_
    rintro e w3 ⟨u3, rfl, o3, b3⟩
    have HB3 := Lib.hid (blink HB2.out b3)
    have HI := Lib.hid (svis_any u3 a n (stopsL ps) xs w3 o3.reads (stops_len20 ps) (stops_asc ps) (HU.out.below HB3.out) hx)
    clear o3 b3 HS
    go_wp2_with fail
    refine HI.out.mono ?_
    rintro e w4 ⟨rfl, b4⟩
    have HB4 := Lib.hid (blink HB3.out b4)
    clear b4 HI
    cases hvb : visB (stopsL ps) xs
    · have HR : Hid (wkR ps xs = 0 ∧ wkC ps xs = 4) := Lib.hid ⟨by simp [wkR, hvb], by simp [wkC, hvb, HVL.out]⟩
      clear hvb
      go_wp2_with fail
      go_ret2
      rw [HR.out.1, HR.out.2]
      exact ⟨rfl, HB4.out⟩
    · have HR : Hid (wkR ps xs = walkTo xs xs.length ∧ wkC ps xs = 0) := Lib.hid ⟨by simp [wkR, hvb, HVL.out], by simp [wkC, hvb, HVL.out]⟩
      have HW := Lib.hid (swalkL_any _ xs (okW hvb) w4 (HU.out.below HB4.out))
      clear hvb
      go_wp2_with fail
      refine HW.out.mono ?_
      rintro e w5 ⟨rfl, b5⟩
      have HB5 := Lib.hid (blink HB4.out b5)
      clear b5 HW
      go_wp2_with fail
      go_ret2
      rw [HR.out.1, HR.out.2]
      exact ⟨rfl, HB5.out⟩
end Go.Proofs.Yteecpijfikgjnaa
