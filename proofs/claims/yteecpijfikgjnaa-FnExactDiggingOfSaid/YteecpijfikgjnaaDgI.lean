/-
  The program's sets of stops, stacks, and what is lifted along a visit.
-/
import Derived.Test.YteecpijfikgjnaaDgP
import Derived.Test.YteecpijfikgjnaaVsH
import Derived.Test.YteecpijfikgjnaaPkT
import Derived.Test.YteecpijfikgjnaaLdP
namespace Go.Proofs.Yteecpijfikgjnaa
open Go Go.RowKit
set_option linter.unusedVariables false

set_option maxRecDepth 100000 in
theorem set_has_all : ((List.range 512).all fun m => (List.range 9).all fun x => (bits BinOp.and IntKind.u16 ((m : Int) / 2 ^ x) 1 == 1) == m.testBit x) = true := by kernel_rfl
set_option maxRecDepth 100000 in
theorem set_wo_all : ((List.range 512).all fun m => (List.range 9).all fun x => let r := bits BinOp.andNot IntKind.u16 (m : Int) (IntKind.u16.wrap (2 ^ x)); decide (0 ≤ r ∧ r < 512) && (List.range 9).all fun n => r.toNat.testBit n == (m.testBit n && !(n == x))) = true := by kernel_rfl
set_option maxRecDepth 100000 in
theorem set_or_all : ((List.range 512).all fun m => (List.range 9).all fun x => let r := bits BinOp.or IntKind.u16 (m : Int) (IntKind.u16.wrap (2 ^ x)); decide (0 ≤ r ∧ r < 512) && (List.range 9).all fun n => r.toNat.testBit n == (m.testBit n || (n == x))) = true := by kernel_rfl
theorem set_has {m x : Nat} (hm : m < 512) (hx : x < 9) : (bits BinOp.and IntKind.u16 ((m : Int) / 2 ^ x) 1 == 1) = m.testBit x := by
  have h := List.all_eq_true.1 (List.all_eq_true.1 set_has_all m (List.mem_range.2 hm)) x (List.mem_range.2 hx)
  simpa using h
theorem set_wo {m x : Nat} {q : Int → Bool} (h0 : IsSet m q) (hx : x < 9) : ∃ r : Nat, bits BinOp.andNot IntKind.u16 (m : Int) (IntKind.u16.wrap (2 ^ x)) = (r : Int) ∧ IsSet r (fun n => q n && !decide (n = (x : Int))) := by
  have h := List.all_eq_true.1 (List.all_eq_true.1 set_wo_all m (List.mem_range.2 h0.1)) x (List.mem_range.2 hx)
  simp only [Bool.and_eq_true, decide_eq_true_eq] at h
  obtain ⟨⟨h1, h2⟩, h3⟩ := h
  obtain ⟨r, hr⟩ : ∃ r : Nat, bits BinOp.andNot IntKind.u16 (m : Int) (IntKind.u16.wrap (2 ^ x)) = (r : Int) := ⟨_, (Int.toNat_of_nonneg h1).symm⟩
  rw [hr] at h2 h3
  refine ⟨r, hr, by omega, fun n hn => ?_⟩
  have h4 := List.all_eq_true.1 h3 n (List.mem_range.2 hn)
  rw [Int.toNat_natCast] at h4
  rw [eq_of_beq h4, h0.2 n hn]
  congr 2
  rw [Bool.eq_iff_iff]
  simp; omega
theorem set_or {m x : Nat} {q : Int → Bool} (h0 : IsSet m q) (hx : x < 9) : ∃ r : Nat, bits BinOp.or IntKind.u16 (m : Int) (IntKind.u16.wrap (2 ^ x)) = (r : Int) ∧ IsSet r (fun n => q n || decide (n = (x : Int))) := by
  have h := List.all_eq_true.1 (List.all_eq_true.1 set_or_all m (List.mem_range.2 h0.1)) x (List.mem_range.2 hx)
  simp only [Bool.and_eq_true, decide_eq_true_eq] at h
  obtain ⟨⟨h1, h2⟩, h3⟩ := h
  obtain ⟨r, hr⟩ : ∃ r : Nat, bits BinOp.or IntKind.u16 (m : Int) (IntKind.u16.wrap (2 ^ x)) = (r : Int) := ⟨_, (Int.toNat_of_nonneg h1).symm⟩
  rw [hr] at h2 h3
  refine ⟨r, hr, by omega, fun n hn => ?_⟩
  have h4 := List.all_eq_true.1 h3 n (List.mem_range.2 hn)
  rw [Int.toNat_natCast] at h4
  rw [eq_of_beq h4, h0.2 n hn]
  congr 1
  rw [Bool.eq_iff_iff]
  simp; omega

set_option maxHeartbeats 400000 in
theorem ishas_any (m x : Nat) (hm : m < 512) (hx : x < 9) (w : World) :
    Calls Try.prog 40 #[.int .u16 (m : Int), .int .i64 (x : Int)] w fun e w' => e = .returned (.bool (m.testBit x)) ∧ w' = w := by
  go_enter Try.func40, Try.ntmps40
  go_wp2_with fail
  go_ret
  exact ⟨ret_bool (set_has hm hx), rfl⟩

set_option maxHeartbeats 400000 in
theorem iswo_any (m x : Nat) (q : Int → Bool) (hm : IsSet m q) (hx : x < 9) (w : World) :
    Calls Try.prog 39 #[.int .u16 (m : Int), .int .i64 (x : Int)] w fun e w' => ∃ r : Nat, e = .returned (.int .u16 (r : Int)) ∧ IsSet r (fun n => q n && !decide (n = (x : Int))) ∧ w' = w := by
  obtain ⟨r, hr, hs⟩ := set_wo hm hx
  have HR := Lib.hid hr
  have HS := Lib.hid hs
  clear hr hs
  go_enter Try.func39, Try.ntmps39
  go_wp2_with fail
  go_ret
  exact ⟨r, ret_int HR.out, HS.out, rfl⟩

/-- Numbers that are stops. -/
def StopsIn (V : List Int) : Prop := ∀ k, k < V.length → ∃ n : Nat, n < 9 ∧ V.getD k 0 = (n : Int)

set_option maxHeartbeats 600000 in
theorem isetOf_any (v : Value) (V : List Int) (hV : StopsIn V) (hx : V.length ≤ 1048576) (w : World) (hv : ReadsI w v V) :
    Calls Try.prog 38 #[v] w fun e w' => ∃ r : Nat, e = .returned (.int .u16 (r : Int)) ∧ IsSet r (fun n => hasB V n) ∧ Below w.heap.size w w' := by
  obtain ⟨a, cap, rfl, ha⟩ := hv
  have HA := Lib.hid ha
  have HV := Lib.hid hV
  obtain ⟨len, hlen⟩ : ∃ n, V.length = n := ⟨_, rfl⟩
  have HL := Lib.hid hlen
  rw [hlen] at hx ⊢
  clear ha hV hlen
  go_enter Try.func38, Try.ntmps38
  go_wp2_with fail
  go_loopw [3, 8] (fun s i wr => ∃ k m : Nat, k ≤ len ∧ i = .int .i64 k ∧ s = .int .u16 m ∧ IsSet m (fun n => hasB (V.take k) n) ∧ Below w.heap.size w wr) (fun _ i _ => len - (intOf i).toNat)
  case atStart => exact ⟨0, 0, Nat.zero_le _, rfl, rfl, IsSet.zero.congr (fun n hn => by simp [hasB]), Below.refl _ _⟩
  case round =>
    obtain ⟨k, m, hk, rfl, rfl, hset, hnx⟩ := hrel
    have HB := Lib.hid hnx
    have HS := Lib.hid hset
    by_cases hlt : k < len
    · have hk0 : (0 : Int) ≤ (k : Int) := by omega
      obtain ⟨b, rfl, hc⟩ := HA.out (fun h => by have := HL.out; rw [h] at this; simp at this; omega)
      have cx : wr.cell? ⟨b, k, none⟩ = some (.int .i64 (V.getD k 0)) := (hc.below hnx) k (by rw [HL.out]; exact hlt)
      obtain ⟨n, hn9, hn⟩ := HV.out k (by rw [HL.out]; exact hlt)
      obtain ⟨r, hr, hsr⟩ := set_or hset hn9
      have HR := Lib.hid hr
      have HSR : Hid (IsSet r (fun n => hasB (V.take (k + 1)) n)) := Lib.hid (hsr.congr fun j hj => by
        rw [take_next V (by rw [HL.out]; exact hlt), hn]
        unfold hasB
        rw [Bool.eq_iff_iff]
        simp)
      rw [hn] at cx
      clear hr hsr hn hset hc hnx HA
      go_wp2_with fail
      go_roundw
      case rel => exact ⟨k + 1, r, by omega, by go_num, by rw [← HR.out], HSR.out, HB.out⟩
      case measure => simp [intOf]; omega
    · have hk' : k = len := by omega
      have HE : Hid (IsSet m (fun n => hasB V n)) := Lib.hid (by
        rw [hk', ← HL.out, List.take_length] at hset; exact hset)
      clear hset hnx
      go_wp2_with fail
      go_ret
      exact ⟨m, rfl, HE.out, HB.out⟩

set_option maxHeartbeats 1000000 in
theorem ilift_any (v : Value) (S : List Int) (s m : Nat) (q : Int → Bool) (hs : s < 9) (hm : IsSet m q) (hS : StopsIn S) (hx : S.length ≤ 1048576) (w : World) (hv : ReadsI w v S) :
    Calls Try.prog 28 #[v, .int .i64 (s : Int), .int .u16 (m : Int)] w fun e w' => e = .returned (.int .i64 (ligTo (s : Int) q S S.length).2) ∧ Below w.heap.size w w' := by
  obtain ⟨a, cap, rfl, ha⟩ := hv
  have HA := Lib.hid ha
  have HS := Lib.hid hS
  have HM := Lib.hid hm
  obtain ⟨len, hlen⟩ : ∃ n, S.length = n := ⟨_, rfl⟩
  have HL := Lib.hid hlen
  rw [hlen] at hx ⊢
  clear ha hS hlen hm
  go_enter Try.func28, Try.ntmps28
  go_wp2_with fail
  go_loopw [7, 8, 13] (fun c b i wr => ∃ k : Nat, k ≤ len ∧ i = .int .i64 k ∧ c = .int .i64 (ligTo (s : Int) q S k).2 ∧ b = .bool (ligTo (s : Int) q S k).1 ∧ Below w.heap.size w wr) (fun _ _ i _ => len - (intOf i).toNat)
  case atStart => exact ⟨0, Nat.zero_le _, rfl, by rw [ligTo_zero], by rw [ligTo_zero], Below.refl _ _⟩
  case round =>
    obtain ⟨k, hk, rfl, rfl, rfl, hnx⟩ := hrel
    have HB := Lib.hid hnx
    by_cases hlt : k < len
    · have hk0 : (0 : Int) ≤ (k : Int) := by omega
      obtain ⟨b, rfl, hc⟩ := HA.out (fun h => by have := HL.out; rw [h] at this; simp at this; omega)
      have cx : wr.cell? ⟨b, k, none⟩ = some (.int .i64 (S.getD k 0)) := (hc.below hnx) k (by rw [HL.out]; exact hlt)
      obtain ⟨x, hx9, hxe⟩ := HS.out k (by rw [HL.out]; exact hlt)
      have hbd := ligTo_bd (s : Int) q S k (by rw [HL.out]; omega)
      have HN := Lib.hid (ligTo_succ (s : Int) q S (j := k) (by rw [HL.out]; exact hlt))
      rw [hxe] at cx HN
      have HQ : Hid (m.testBit x = q (x : Int)) := Lib.hid (HM.out.2 x hx9)
      have hm512 := HM.out.1
      obtain ⟨st, hst⟩ : ∃ st, ligTo (s : Int) q S k = st := ⟨_, rfl⟩
      rw [hst] at hbd HN ⊢
      obtain ⟨bb, c⟩ := st
      simp only at hbd ⊢
      obtain ⟨hc0, hc1⟩ := hbd
      clear hst hc hnx HA hxe
      by_cases he : x = s
      · have HN2 : Hid (ligTo (s : Int) q S (k + 1) = (true, c)) := Lib.hid (by rw [HN.out]; unfold stepL; rw [if_pos (by omega)])
        have te : ((x : Int) == (s : Int)) = true := by simp; omega
        clear he
        go_wp2_with fail
        go_roundw
        case rel => exact ⟨k + 1, by omega, by go_num, by rw [HN2.out], by rw [HN2.out], HB.out⟩
        case measure => simp [intOf]; omega
      · have te : ((x : Int) == (s : Int)) = false := by simp; omega
        have HN1 : Hid (ligTo (s : Int) q S (k + 1) = (bb, c + (if (bb && q (x : Int)) = true then 1 else 0))) := Lib.hid (by rw [HN.out]; unfold stepL; rw [if_neg (by omega)])
        clear he
        cases bb
        · have HN2 : Hid (ligTo (s : Int) q S (k + 1) = (false, c)) := Lib.hid (by rw [HN1.out]; simp)
          go_wp2_with fail
          go_roundw
          case rel => exact ⟨k + 1, by omega, by go_num, by rw [HN2.out], by rw [HN2.out], HB.out⟩
          case measure => simp [intOf]; omega
        · have HH := Lib.hid (ishas_any m x hm512 hx9 wr)
          obtain ⟨qx, hqx⟩ : ∃ r, q (x : Int) = r := ⟨_, rfl⟩
          rw [HQ.out, hqx] at HH
          rw [hqx] at HN1
          clear hqx HQ
          cases qx
          · have HN2 : Hid (ligTo (s : Int) q S (k + 1) = (true, c)) := Lib.hid (by rw [HN1.out]; simp)
            go_wp2_with (go_at_call 40; refine HH.out.mono ?_; rintro e w2 ⟨rfl, rfl⟩)
            go_roundw
            case rel => exact ⟨k + 1, by omega, by go_num, by rw [HN2.out], by rw [HN2.out], HB.out⟩
            case measure => simp [intOf]; omega
          · have HN2 : Hid (ligTo (s : Int) q S (k + 1) = (true, c + 1)) := Lib.hid (by rw [HN1.out]; simp)
            go_wp2_with (go_at_call 40; refine HH.out.mono ?_; rintro e w2 ⟨rfl, rfl⟩)
            go_roundw
            case rel => exact ⟨k + 1, by omega, by go_num, by rw [HN2.out], by rw [HN2.out], HB.out⟩
            case measure => simp [intOf]; omega
    · have hk' : k = len := by omega
      clear hnx
      go_wp2_with fail
      go_ret
      exact ⟨by rw [hk']; rfl, HB.out⟩
end Go.Proofs.Yteecpijfikgjnaa
