/-
  The program's takes.
-/
import Derived.Test.YtloelbaaolhlhaaRtT
import Derived.Test.YtloelbaaolhlhaaArO
namespace Go.Proofs.Ytloelbaaolhlhaa
open Go Go.RowKit
set_option linter.unusedVariables false

theorem tk_bd {hs : List Lan} (h : OkHops hs) (f t : Int) : ∀ k, 0 ≤ (tkTo hs f t k).1 ∧ (tkTo hs f t k).1 ≤ 301 ∧ 0 ≤ (tkTo hs f t k).2 ∧ (tkTo hs f t k).2 ≤ 80
  | 0 => by simp [tkTo]
  | k + 1 => by
    have ih := tk_bd h f t k
    have hb : 0 ≤ (hs.getD k (0, 0, 0, 0)).2.2.1 ∧ 0 ≤ (hs.getD k (0, 0, 0, 0)).2.2.2 ∧ (hs.getD k (0, 0, 0, 0)).2.2.2 ≤ 80 := by
      by_cases hk : k < hs.length
      · have h2 := h k hk
        unfold okHop at h2
        omega
      · have e : hs.getD k (0, 0, 0, 0) = (0, 0, 0, 0) := by simp [List.getD, show hs.length ≤ k by omega]
        rw [e]; simp
    rw [tkTo]
    split
    · simp only; omega
    · exact ih

set_option maxHeartbeats 1000000 in
set_option maxRecDepth 100000 in
theorem itakes_any (v : Value) (hs : List Lan) (f t : Int) (w : World) (hok : OkHops hs) (hl : hs.length ≤ 20) (hv : ReadsLa w v hs) :
    Calls Try.prog 70 #[v, .int .i64 f, .int .i64 t] w fun e w' => e = .returned (.tuple #[.int .i64 (tkTo hs f t hs.length).1, .int .i64 (tkTo hs f t hs.length).2]) ∧ Below w.heap.size w w' := by
  obtain ⟨a, cap, rfl, ha⟩ := hv
  have HA := Lib.hid ha
  have HOK := Lib.hid hok
  have HBD := Lib.hid (tk_bd hok f t)
  obtain ⟨len, hlen⟩ : ∃ n, hs.length = n := ⟨_, rfl⟩
  have HL := Lib.hid hlen
  rw [hlen] at hl ⊢
  clear ha hok hlen
  go_enter Try.func70, Try.ntmps70
  go_wp2_with fail
  go_loopw [6, 7, 12] (fun l m i wr => ∃ k : Nat, k ≤ len ∧ i = .int .i64 k ∧ l = .int .i64 (tkTo hs f t k).1 ∧ m = .int .i64 (tkTo hs f t k).2 ∧ Below w.heap.size w wr) (fun _ _ i _ => len - (intOf i).toNat)
  case atStart => exact ⟨0, Nat.zero_le _, rfl, rfl, rfl, Below.refl _ _⟩
  case round =>
    obtain ⟨k, hk, rfl, rfl, rfl, hnx⟩ := hrel
    obtain ⟨wo, rfl⟩ : ∃ W, W = wr := ⟨_, rfl⟩
    have HN := Lib.hid hnx
    by_cases hlt : k < len
    · have hkl : (k : Int) < (len : Int) := by omega
      have hk0 : (0 : Int) ≤ (k : Int) := by omega
      obtain ⟨b, rfl, hc⟩ := HA.out (fun h => by have := HL.out; rw [h] at this; simp at this; omega)
      obtain ⟨c0, c1, c2, c3⟩ := (hc.below hnx) k (by rw [HL.out]; exact hlt)
      obtain ⟨p0, p1, p2, p3, hp, hf8, ht8, ⟨ha1, ha40⟩, hb40⟩ := HOK.out.nats (k := k) (by rw [HL.out]; exact hlt)
      have HNO := Lib.hid (tk_no (hs := hs) (f := f) (t := t) (k := k))
      have HYES := Lib.hid (tk_yes (hs := hs) (f := f) (t := t) (k := k))
      obtain ⟨hz0, hz1, hz2, hz3⟩ := HBD.out k
      rw [hp] at c0 c1 c2 c3 HNO HYES
      simp only at c0 c1 c2 c3 HNO HYES
      obtain ⟨z, hz⟩ : ∃ z, tkTo hs f t k = z := ⟨_, rfl⟩
      rw [hz] at HNO HYES hz0 hz1 hz2 hz3 ⊢
      obtain ⟨z0, z1⟩ := z
      simp only at HYES hz0 hz1 hz2 hz3 ⊢
      have hb8 : Below wo.heap.size wo (wo.alloc (.cells #[.int .i8 (p0 : Int), .int .i8 (p1 : Int), .int .i16 (p2 : Int), .int .i16 (p3 : Int)] 118)) := (Below.refl _ _).alloc (Nat.le_refl _) _
      have hx8 : BlkA (wo.alloc (.cells #[.int .i8 (p0 : Int), .int .i8 (p1 : Int), .int .i16 (p2 : Int), .int .i16 (p3 : Int)] 118)) wo.heap.size 118 #[.int .i8 (p0 : Int), .int .i8 (p1 : Int), .int .i16 (p2 : Int), .int .i16 (p3 : Int)] := BlkA.new rfl _ _
      obtain ⟨W8, hW8⟩ : ∃ W, wo.alloc (.cells #[.int .i8 (p0 : Int), .int .i8 (p1 : Int), .int .i16 (p2 : Int), .int .i16 (p3 : Int)] 118) = W := ⟨_, rfl⟩
      rw [hW8] at hb8 hx8
      have HW8 := Lib.hid hW8
      have HX8 := Lib.hid hx8
      have HB8 := Lib.hid (blink hnx hb8)
      clear hz hp hc hnx HA hb8 hx8 hW8
      by_cases e0 : (p0 : Int) = f
      · have u0 : ((p0 : Int) == f) = true := by simp [e0]
        by_cases e1 : (p1 : Int) = t
        · have u1 : ((p1 : Int) == t) = true := by simp [e1]
          have HY := Lib.hid (HYES.out ⟨e0, e1⟩)
          clear HNO HYES e0 e1
          go_wp2_with fail
          rw [HW8.out]
          have d2 := HX8.out.at 2
          have d3 := HX8.out.at 3
          go_region
          rw [show (if (p2 : Int) < z0 then (p2 : Int) else z0) = min z0 (p2 : Int) by split <;> omega, show (if z1 < (p3 : Int) then (p3 : Int) else z1) = max z1 (p3 : Int) by split <;> omega]
          go_wp2_with fail
          go_roundw
          case rel => exact ⟨k + 1, by omega, by go_num, by rw [HY.out], by rw [HY.out], HB8.out.drew⟩
          case measure => simp [intOf]; omega
        · have u1 : ((p1 : Int) == t) = false := by simp [e1]
          have HY := Lib.hid (HNO.out (fun h => e1 h.2))
          clear HNO HYES e0 e1
          go_wp2_with fail
          rw [HW8.out]
          go_wp2_with fail
          go_roundw
          case rel => exact ⟨k + 1, by omega, by go_num, by rw [HY.out], by rw [HY.out], HB8.out⟩
          case measure => simp [intOf]; omega
      · have u0 : ((p0 : Int) == f) = false := by simp [e0]
        have HY := Lib.hid (HNO.out (fun h => e0 h.1))
        clear HNO HYES e0
        go_wp2_with fail
        rw [HW8.out]
        go_wp2_with fail
        go_roundw
        case rel => exact ⟨k + 1, by omega, by go_num, by rw [HY.out], by rw [HY.out], HB8.out⟩
        case measure => simp [intOf]; omega
    · have hk' : k = len := by omega
      clear hnx
      go_wp2_with fail
      go_ret2
      rw [hk']
      exact ⟨rfl, HN.out⟩
end Go.Proofs.Ytloelbaaolhlhaa
