/-
  The program's takes, and the model's l07Next.
-/
import Derived.Test.YtloelbaaolhlhaaRtP
import Derived.Test.YtloelbaaolhlhaaNtV
import Derived.Test.YtloelbaaolhlhaaRel
namespace Go.Proofs.Ytloelbaaolhlhaa
open Go Go.RowKit
set_option linter.unusedVariables false

theorem net_nats' {st sy : Int} {L : List Lan} (h : okNet st sy L) {k : Nat} (hk : k < L.length) : ∃ f t a b : Nat, L.getD k (0, 0, 0, 0) = ((f : Int), (t : Int), (a : Int), (b : Int)) ∧ f < 8 ∧ t < 8 ∧ (1 ≤ a ∧ a ≤ 40) ∧ b ≤ 40 := by
  have h2 := h.2.2.2 k hk
  have hs := h.1
  obtain ⟨q, hq⟩ : ∃ q, L.getD k (0, 0, 0, 0) = q := ⟨_, rfl⟩
  rw [hq] at h2
  obtain ⟨x0, x1, x2, x3⟩ := q
  unfold okLa at h2
  simp only at h2
  exact ⟨x0.toNat, x1.toNat, x2.toNat, x3.toNat, by rw [hq]; simp only [Prod.mk.injEq]; omega, by omega, by omega, by omega, by omega⟩
theorem smaxR_any (a b : Int) (w : World) : Calls Try.prog 80 #[.int .i64 a, .int .i64 b] w fun e w' => e = .returned (.int .i64 (max a b)) ∧ w' = w := by
  by_cases h : b < a
  · have t : max a b = a := by omega
    have HT := Lib.hid t
    clear t
    go_enter Try.func80, Try.ntmps80
    go_wp2_with fail
    go_ret
    exact ⟨ret_int HT.out.symm, rfl⟩
  · have t : max a b = b := by omega
    have HT := Lib.hid t
    clear t
    go_enter Try.func80, Try.ntmps80
    go_wp2_with fail
    go_ret
    exact ⟨ret_int HT.out.symm, rfl⟩

set_option maxHeartbeats 1000000 in
set_option maxRecDepth 100000 in
theorem snext_any (B : Nat) (st sy : Int) (v : Value) (ps : List Lan) (f t : Int) (w : World) (hok : okNet st sy ps) (hv : ReadsLa w v ps) (hb : BlkA w B 35 (netB st sy v)) :
    Calls Try.prog 69 #[.pointer (some ⟨B, 0, none⟩), .int .i64 f, .int .i64 t] w fun e w' => e = .returned (.tuple #[.int .i64 (nx ps f t).1, .int .i64 (nx ps f t).2.1, .bool (nx ps f t).2.2]) ∧ Below w.heap.size w w' := by
  obtain ⟨a, cap, rfl, ha⟩ := hv
  have HA := Lib.hid ha
  have HB := Lib.hid hb
  have HOK := Lib.hid hok
  obtain ⟨len, hlen⟩ : ∃ n, ps.length = n := ⟨_, rfl⟩
  have HL := Lib.hid hlen
  have HNX : Hid (nx ps f t = nxTo ps f t len) := Lib.hid (by unfold nx; rw [hlen])
  have hlb : len ≤ 20 := by rw [← hlen]; exact hok.2.2.1
  rw [hlen] at HB
  clear ha hb hok hlen
  go_enter Try.func69, Try.ntmps69
  go_wp2_with fail
  go_loopw [9, 10, 11, 12] (fun l m g i wr => ∃ k : Nat, k ≤ len ∧ i = .int .i64 k ∧ l = .int .i64 (nxTo ps f t k).1 ∧ m = .int .i64 (nxTo ps f t k).2.1 ∧ g = .bool (nxTo ps f t k).2.2 ∧ Below w.heap.size w wr) (fun _ _ _ i _ => len - (intOf i).toNat)
  case atStart => exact ⟨0, Nat.zero_le _, rfl, rfl, rfl, rfl, Below.refl _ _⟩
  case round =>
    obtain ⟨k, hk, rfl, rfl, rfl, rfl, hnx⟩ := hrel
    have HN := Lib.hid hnx
    have n2 : wr.cell? ⟨B, 2, none⟩ = some (.slice a len cap) := (HB.out.below hnx).at 2
    by_cases hlt : k < len
    · have hkl : (k : Int) < (len : Int) := by omega
      have hk0 : (0 : Int) ≤ (k : Int) := by omega
      obtain ⟨b, rfl, hc⟩ := HA.out (fun h => by have := HL.out; rw [h] at this; simp at this; omega)
      obtain ⟨c0, c1, c2, c3⟩ := (hc.below hnx) k (by rw [HL.out]; exact hlt)
      obtain ⟨p0, p1, p2, p3, hp, hf8, ht8, ⟨ha1, ha40⟩, hb40⟩ := net_nats' HOK.out (k := k) (by rw [HL.out]; exact hlt)
      have HNO := Lib.hid (nx_no (ps := ps) (f := f) (t := t) (k := k))
      have HYES := Lib.hid (nx_yes (ps := ps) (f := f) (t := t) (k := k))
      have hbd := nx_tk HOK.out f t k (by rw [HL.out]; omega)
      rw [hp] at c0 c1 c2 c3 HNO HYES
      simp only at c0 c1 c2 c3 HNO HYES
      obtain ⟨z, hz⟩ : ∃ z, nxTo ps f t k = z := ⟨_, rfl⟩
      rw [hz] at HNO HYES hbd ⊢
      obtain ⟨z0, z1, z2⟩ := z
      simp only at HYES hbd ⊢
      have HMX : Hid (∀ W, Calls Try.prog 80 #[.int .i64 z1, .int .i64 (p3 : Int)] W fun e w' => e = .returned (.int .i64 (max z1 (p3 : Int))) ∧ w' = W) := Lib.hid (fun W => smaxR_any _ _ W)
      have HBD := Lib.hid hbd
      clear hz hp hc hnx HA hbd
      by_cases e0 : (p0 : Int) = f
      · have u0 : ((p0 : Int) != f) = false := by simp [e0]
        have u0' : ((p0 : Int) == f) = true := by simp [e0]
        by_cases e1 : (p1 : Int) = t
        · have u1 : ((p1 : Int) != t) = false := by simp [e1]
          have u1' : ((p1 : Int) == t) = true := by simp [e1]
          have HY := Lib.hid (HYES.out ⟨e0, e1⟩)
          clear HNO HYES
          cases z2
          · have HY2 : Hid (nxTo ps f t (k + 1) = ((p2 : Int), max z1 (p3 : Int), true)) := Lib.hid (by rw [HY.out]; simp)
            clear HY e0 e1
            go_wp2_with (first | (go_at_call 80; refine (HMX.out _).mono ?_; rintro e _ ⟨rfl, rfl⟩))
            go_roundw
            case rel => exact ⟨k + 1, by omega, by go_num, by rw [HY2.out], by rw [HY2.out], by rw [HY2.out], by repeat (first | exact HN.out | refine Below.setCell ?_ (by first | (simp; done) | (simp; omega)) _ | refine Below.alloc ?_ (by first | (simp; done) | (simp; omega) | exact HN.out.size) _)⟩
            case measure => simp [intOf]; omega
          · by_cases e2 : (p2 : Int) < z0
            · have u2 : decide ((p2 : Int) < z0) = true := decide_eq_true e2
              have HY2 : Hid (nxTo ps f t (k + 1) = ((p2 : Int), max z1 (p3 : Int), true)) := Lib.hid (by rw [HY.out, if_pos (.inr e2)])
              clear HY e0 e1 e2
              go_wp2_with (first | (go_at_call 80; refine (HMX.out _).mono ?_; rintro e _ ⟨rfl, rfl⟩))
              go_roundw
              case rel => exact ⟨k + 1, by omega, by go_num, by rw [HY2.out], by rw [HY2.out], by rw [HY2.out], by repeat (first | exact HN.out | refine Below.setCell ?_ (by first | (simp; done) | (simp; omega)) _ | refine Below.alloc ?_ (by first | (simp; done) | (simp; omega) | exact HN.out.size) _)⟩
              case measure => simp [intOf]; omega
            · have u2 : decide ((p2 : Int) < z0) = false := decide_eq_false e2
              have HY2 : Hid (nxTo ps f t (k + 1) = (z0, max z1 (p3 : Int), true)) := Lib.hid (by rw [HY.out, if_neg (by simp; omega)])
              clear HY e0 e1 e2
              go_wp2_with (first | (go_at_call 80; refine (HMX.out _).mono ?_; rintro e _ ⟨rfl, rfl⟩))
              go_roundw
              case rel => exact ⟨k + 1, by omega, by go_num, by rw [HY2.out], by rw [HY2.out], by rw [HY2.out], by repeat (first | exact HN.out | refine Below.setCell ?_ (by first | (simp; done) | (simp; omega)) _ | refine Below.alloc ?_ (by first | (simp; done) | (simp; omega) | exact HN.out.size) _)⟩
              case measure => simp [intOf]; omega
        · have u1 : ((p1 : Int) != t) = true := by simp [e1]
          have HY2 := Lib.hid (HNO.out (fun h => e1 h.2))
          clear HNO HYES e0 e1
          go_wp2_with fail
          go_roundw
          case rel => exact ⟨k + 1, by omega, by go_num, by rw [HY2.out], by rw [HY2.out], by rw [HY2.out], by repeat (first | exact HN.out | refine Below.setCell ?_ (by first | (simp; done) | (simp; omega)) _ | refine Below.alloc ?_ (by first | (simp; done) | (simp; omega) | exact HN.out.size) _)⟩
          case measure => simp [intOf]; omega
      · have u0 : ((p0 : Int) != f) = true := by simp [e0]
        have HY2 := Lib.hid (HNO.out (fun h => e0 h.1))
        clear HNO HYES e0
        go_wp2_with fail
        go_roundw
        case rel => exact ⟨k + 1, by omega, by go_num, by rw [HY2.out], by rw [HY2.out], by rw [HY2.out], by repeat (first | exact HN.out | refine Below.setCell ?_ (by first | (simp; done) | (simp; omega)) _ | refine Below.alloc ?_ (by first | (simp; done) | (simp; omega) | exact HN.out.size) _)⟩
        case measure => simp [intOf]; omega
    · have hk' : k = len := by omega
      clear hnx
      go_wp2_with fail
      go_ret3
      rw [HNX.out, hk']
      exact ⟨rfl, HN.out⟩
end Go.Proofs.Ytloelbaaolhlhaa
