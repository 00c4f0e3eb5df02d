/-
  The program's isVisit, distance and WalkOf.
-/
import Derived.Test.YteecpijfikgjnaaWkP
import Derived.Test.YteecpijfikgjnaaVsH
import Derived.Test.YteecpijfikgjnaaPkT
namespace Go.Proofs.Yteecpijfikgjnaa
open Go Go.RowKit
set_option linter.unusedVariables false

set_option maxHeartbeats 600000 in
theorem ivis_any (v u : Value) (ps : List (Int × Int)) (xs : List Int) (w : World) (hv : ReadsQ w v ps) (hvl : vldQ ps = true) (hu : ReadsI w u xs) (hx : xs.length ≤ 1048576) :
    Calls Try.prog 20 #[v, u] w fun e w' => e = .returned (.bool (visB (stopsL ps) xs)) ∧ Below w.heap.size w w' := by
  have HU := Lib.hid hu
  have HS := Lib.hid (istopsL_any v ps w hv hvl)
  clear hu hv hvl
  go_enter Try.func20, Try.ntmps20
  go_wp2_with fail
  refine HS.out.mono ?_
  rintro e w2 ⟨u2, rfl, o2, b2⟩
  have HI := Lib.hid (iheo_any u u2 xs (stopsL ps) w2 (HU.out.below b2) o2.reads hx (stops_len20 ps))
  have HB := Lib.hid b2
  clear o2 b2
  go_wp2_with fail
  refine HI.out.mono ?_
  rintro e w3 ⟨rfl, b3⟩
  have HB3 := Lib.hid b3
  clear b3
  go_wp2_with fail
  go_ret
  exact ⟨rfl, blink HB.out HB3.out⟩

set_option maxHeartbeats 400000 in
theorem idist_any (a b : Int) (w : World) (ha : 0 ≤ a ∧ a ≤ 8) (hb : 0 ≤ b ∧ b ≤ 8) :
    Calls Try.prog 21 #[.int .i64 a, .int .i64 b] w fun e w' => e = .returned (.int .i64 (max (a - b) (b - a))) ∧ w' = w := by
  obtain ⟨ha0, ha8⟩ := ha
  obtain ⟨hb0, hb8⟩ := hb
  go_enter Try.func21, Try.ntmps21
  go_wp2_with fail
  go_ret
  exact ⟨ret_int rfl, rfl⟩

set_option maxHeartbeats 1000000 in
theorem iwk_any (v u : Value) (ps : List (Int × Int)) (xs : List Int) (w : World) (hv : ReadsQ w v ps) (hu : ReadsI w u xs) (hfit : FitsQ ps) (hxq : ps.length ≤ 1048576) (hx : xs.length ≤ 1048576) :
    Calls Try.prog 9 #[v, u] w fun e w' => e = .returned (.tuple #[.int .i64 (wkR ps xs), .int .i64 (wkC ps xs)]) ∧ Below w.heap.size w w' := by
  have HV := Lib.hid hv
  have HU := Lib.hid hu
  have HOK := Lib.hid (ivldQ_any v ps w hv hfit hxq)
  obtain ⟨a, cap, rfl, ha⟩ := hu
  have HA := Lib.hid ha
  clear ha hv
  go_enter Try.func9, Try.ntmps9
  go_wp2_with fail
  refine HOK.out.mono ?_
  rintro e w2 ⟨rfl, b2⟩
  have HB2 := Lib.hid b2
  clear HOK
  cases hvl : vldQ ps
  · have HR : Hid (wkR ps xs = 0 ∧ wkC ps xs = 1) := Lib.hid ⟨by simp [wkR, hvl], by simp [wkC, hvl]⟩
    clear hvl b2
    go_wp2_with fail
    go_ret2
    rw [HR.out.1, HR.out.2]
    exact ⟨rfl, HB2.out⟩
  · have HVL := Lib.hid hvl
    have HI := Lib.hid (ivis_any v _ ps xs w2 (HV.out.below b2) hvl (HU.out.below b2) hx)
    clear hvl b2
    go_wp2_with fail
    refine HI.out.mono ?_
    rintro e w4 ⟨rfl, b4⟩
    have HB4 := Lib.hid (blink HB2.out b4)
    clear b4 HI
    cases hvb : visB (stopsL ps) xs
    · have HR : Hid (wkR ps xs = 0 ∧ wkC ps xs = 4) := Lib.hid ⟨by simp [wkR, hvb], by simp [wkC, hvb, HVL.out]⟩
      clear hvb
      go_wp2_with fail
      go_ret2
      rw [HR.out.1, HR.out.2]
      exact ⟨rfl, HB4.out⟩
    · have HR : Hid (wkR ps xs = walkTo xs xs.length ∧ wkC ps xs = 0) := Lib.hid ⟨by simp [wkR, hvb, HVL.out], by simp [wkC, hvb, HVL.out]⟩
      have HOW := Lib.hid (okW hvb)
      obtain ⟨len, hlen⟩ : ∃ n, xs.length = n := ⟨_, rfl⟩
      have HL := Lib.hid hlen
      have h9 : len ≤ 9 := by rw [← hlen]; exact HOW.out.1
      rw [hlen] at HR ⊢
      clear hvb hlen HU
      go_wp2_with fail
      go_loopw [6, 7, 19] (fun s b i wr => ∃ k : Nat, k ≤ len ∧ i = .int .i64 k ∧ s = .int .i64 (walkTo xs k) ∧ b = .int .i64 (beforeW xs k) ∧ Below w.heap.size w wr) (fun _ _ i _ => len - (intOf i).toNat)
      case atStart => exact ⟨0, Nat.zero_le _, rfl, rfl, rfl, HB4.out⟩
      case round =>
        obtain ⟨k, hk, rfl, rfl, rfl, hnx⟩ := hrel
        have HB := Lib.hid hnx
        by_cases hlt : k < len
        · have hk0 : (0 : Int) ≤ (k : Int) := by omega
          obtain ⟨b, rfl, hc⟩ := HA.out (fun h => by have := HL.out; rw [h] at this; simp at this; omega)
          have cx : wr.cell? ⟨b, k, none⟩ = some (.int .i64 (xs.getD k 0)) := (hc.below hnx) k (by rw [HL.out]; exact hlt)
          obtain ⟨hx0, hx8⟩ := HOW.out.2 k (by rw [HL.out]; exact hlt)
          obtain ⟨hb0, hb8⟩ := beforeW_bd HOW.out (k := k) (by rw [HL.out]; omega)
          obtain ⟨hs0, hs8⟩ := walkTo_bd HOW.out k (by rw [HL.out]; omega)
          have HS := Lib.hid (walkTo_succ xs k)
          have HN : Hid (beforeW xs (k + 1) = xs.getD k 0) := Lib.hid rfl
          obtain ⟨x, hx⟩ : ∃ x, xs.getD k 0 = x := ⟨_, rfl⟩
          obtain ⟨y, hy⟩ : ∃ a, beforeW xs k = a := ⟨_, rfl⟩
          obtain ⟨s, hs⟩ : ∃ s, walkTo xs k = s := ⟨_, rfl⟩
          rw [hx] at cx hx0 hx8 HS HN
          rw [hy] at hb0 hb8 HS ⊢
          rw [hs] at hs0 hs8 HS ⊢
          have HD := Lib.hid (idist_any y x wr ⟨hb0, hb8⟩ ⟨hx0, hx8⟩)
          obtain ⟨d, hd⟩ : ∃ d, max (y - x) (x - y) = d := ⟨_, rfl⟩
          rw [hd] at HS HD
          have hd0 : 0 ≤ d := by omega
          have hd8 : d ≤ 8 := by omega
          clear hx hy hs hd hnx hc HA
          go_wp2_with fail
          refine HD.out.mono ?_
          rintro e _ ⟨rfl, rfl⟩
          go_wp2_with fail
          go_roundw
          case rel => exact ⟨k + 1, by omega, by go_num, by rw [HS.out], by rw [HN.out], HB.out⟩
          case measure => simp [intOf]; omega
        · have hk' : k = len := by omega
          clear hnx
          go_wp2_with fail
          go_ret2
          rw [HR.out.1, HR.out.2, hk']
          exact ⟨rfl, HB.out⟩
end Go.Proofs.Yteecpijfikgjnaa
