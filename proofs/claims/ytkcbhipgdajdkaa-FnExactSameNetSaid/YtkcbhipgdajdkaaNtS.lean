/-
  Both functions that tell whether two slices of Lane are equal (the program's by slices.Equal).
-/
import Derived.Test.YtkcbhipgdajdkaaNtA
namespace Go.Proofs.Ytkcbhipgdajdkaa
open Go Go.RowKit
set_option linter.unusedVariables false

def eqLLa (xs ys : List (Int × Int × Int × Int)) : Bool := decide (xs = ys)
theorem eqLLa_true {xs ys : List (Int × Int × Int × Int)} (h : xs = ys) : eqLLa xs ys = true := decide_eq_true h
theorem eqLLa_false {xs ys : List (Int × Int × Int × Int)} (h : xs ≠ ys) : eqLLa xs ys = false := decide_eq_false h
theorem takeLa_step {xs ys : List (Int × Int × Int × Int)} {k : Nat} (hx : k < xs.length) (hy : k < ys.length) (h : xs.take k = ys.take k) (he : xs.getD k (0, 0, 0, 0) = ys.getD k (0, 0, 0, 0)) : xs.take (k + 1) = ys.take (k + 1) := by
  rw [List.take_succ_eq_append_getElem hx, List.take_succ_eq_append_getElem hy, h]
  simp only [List.getD, List.getElem?_eq_getElem hx, List.getElem?_eq_getElem hy, Option.getD_some] at he
  rw [he]


set_option maxHeartbeats 4000000 in
set_option maxRecDepth 100000 in
theorem equalLa_row (b c len cap cap2 : Nat) (xs ys : List (Int × Int × Int × Int)) (hx : xs.length = len) (hy : ys.length = len) (hm : len ≤ 1048576) (w : World) (hcx : CellsLa w b xs) (hcy : CellsLa w c ys) :
    Calls Try.prog 59 #[.slice (some ⟨b, 0, none⟩) len cap, .slice (some ⟨c, 0, none⟩) len cap2] w fun e w' => e = .returned (.bool (eqLLa xs ys)) ∧ Below w.heap.size w w' := by
  go_enter Try.func59, Try.ntmps59
  go_wp2_with fail
  go_loopw [13] (fun i wr => ∃ k : Nat, k ≤ len ∧ i = .int .i64 k ∧ xs.take k = ys.take k ∧ Below w.heap.size w wr) (fun i _ => len - (intOf i).toNat)
  case atStart => exact ⟨0, Nat.zero_le _, rfl, by simp, Below.refl _ _⟩
  case round =>
    obtain ⟨k, hk, rfl, htk, hnx⟩ := hrel
    have HT := Lib.hid htk
    have HB := Lib.hid hnx
    have HX := Lib.hid hx
    have HY := Lib.hid hy
    by_cases hlt : k < len
    · obtain ⟨c0, c1, c2, c3⟩ := hcx.below hnx k (by omega)
      obtain ⟨d0, d1, d2, d3⟩ := hcy.below hnx k (by omega)
      obtain ⟨p, hp⟩ : ∃ p, xs.getD k (0, 0, 0, 0) = p := ⟨_, rfl⟩
      obtain ⟨q, hq⟩ : ∃ q, ys.getD k (0, 0, 0, 0) = q := ⟨_, rfl⟩
      rw [hp] at c0 c1 c2 c3
      rw [hq] at d0 d1 d2 d3
      obtain ⟨x0, x1, x2, x3⟩ := p
      obtain ⟨y0, y1, y2, y3⟩ := q
      have HP := Lib.hid hp
      have HQ := Lib.hid hq
      have HCX := Lib.hid hcx
      have HCY := Lib.hid hcy
      have hkl : (k : Int) < (len : Int) := by omega
      clear hcx hcy hx hy htk hnx hp hq
      by_cases hxy : x0 = y0 ∧ x1 = y1 ∧ x2 = y2 ∧ x3 = y3
      · obtain ⟨rfl, rfl, rfl, rfl⟩ := hxy
        go_wp2_with fail
        go_quiet (fail)
        go_wp2_with fail
        go_roundw
        case rel => exact ⟨k + 1, by omega, by go_num, takeLa_step (by have := HX.out; omega) (by have := HY.out; omega) HT.out (by rw [HP.out, HQ.out]), below_drewN HB.out _⟩
        case measure => simp [intOf]; omega
      · have HNE : Hid (eqLLa xs ys = false) := Lib.hid (eqLLa_false (fun h => hxy (by have h1 := HP.out; rw [h, HQ.out] at h1; simpa [eq_comm] using h1)))
        have HXY := Lib.hid hxy
        clear hxy
        by_cases h0 : x0 = y0
        · subst h0
          by_cases h1 : x1 = y1
          · subst h1
            by_cases h2 : x2 = y2
            · subst h2
              by_cases h3 : x3 = y3
              · subst h3
                exact absurd ⟨rfl, rfl, rfl, rfl⟩ HXY.out
              · have t3 : (x3 == y3) = false := by simpa using h3
                clear HXY
                go_wp2_with fail
                go_quiet (fail)
                go_wp2_with fail
                go_ret
                exact ⟨(ret_bool HNE.out).symm, below_drewN HB.out _⟩
            · have t2 : (x2 == y2) = false := by simpa using h2
              clear HXY
              go_wp2_with fail
              go_quiet (fail)
              go_wp2_with fail
              go_ret
              exact ⟨(ret_bool HNE.out).symm, below_drewN HB.out _⟩
          · have t1 : (x1 == y1) = false := by simpa using h1
            clear HXY
            go_wp2_with fail
            go_quiet (fail)
            go_wp2_with fail
            go_ret
            exact ⟨(ret_bool HNE.out).symm, below_drewN HB.out _⟩
        · have t0 : (x0 == y0) = false := by simpa using h0
          clear HXY
          go_wp2_with fail
          go_quiet (fail)
          go_wp2_with fail
          go_ret
          exact ⟨(ret_bool HNE.out).symm, below_drewN HB.out _⟩
    · clear hcx hcy hx hy htk hnx
      have hke : k = len := by omega
      have HE := Lib.hid hke
      clear hke
      go_wp2_with fail
      go_ret
      refine ⟨ret_bool (eqLLa_true ?_).symm, HB.out⟩
      have h := HT.out
      rw [HE.out, List.take_of_length_le (by rw [HX.out]; omega), List.take_of_length_le (by rw [HY.out]; omega)] at h
      exact h

set_option maxHeartbeats 1000000 in
theorem equalLa_differ (a c : Option Addr) (l m cap cap2 : Nat) (hne : l ≠ m) (hl : l ≤ 1048576) (hm : m ≤ 1048576) (w : World) :
    Calls Try.prog 59 #[.slice a l cap, .slice c m cap2] w fun e w' => e = .returned (.bool false) ∧ Below w.heap.size w w' := by
  have hb : ((l : Int) != (m : Int)) = true := by simp; omega
  go_enter Try.func59, Try.ntmps59
  go_wp2
  go_ret
  exact ⟨rfl, Below.refl _ _⟩
set_option maxHeartbeats 1000000 in
theorem equalLa_empty (a c : Option Addr) (cap cap2 : Nat) (w : World) :
    Calls Try.prog 59 #[.slice a 0 cap, .slice c 0 cap2] w fun e w' => e = .returned (.bool true) ∧ Below w.heap.size w w' := by
  go_enter Try.func59, Try.ntmps59
  go_wp2
  refine wp_loop_rounds 1 ?_
  rw [rounds_succ]
  go_wp2
  go_ret
  exact ⟨rfl, Below.refl _ _⟩
theorem equalLa_any (v u : Value) (xs ys : List (Int × Int × Int × Int)) (w : World) (hv : ReadsLa w v xs) (hu : ReadsLa w u ys) (hx : xs.length ≤ 1048576) (hy : ys.length ≤ 1048576) :
    Calls Try.prog 59 #[v, u] w fun e w' => e = .returned (.bool (eqLLa xs ys)) ∧ Below w.heap.size w w' := by
  obtain ⟨a, cap, rfl, ha⟩ := hv
  obtain ⟨c, cap2, rfl, hc⟩ := hu
  by_cases hl : xs.length = ys.length
  · by_cases h0 : xs = []
    · subst h0
      have h1 : ys = [] := List.eq_nil_of_length_eq_zero hl.symm
      subst h1
      exact equalLa_empty a c cap cap2 w
    · have h1 : ys ≠ [] := fun h => h0 (List.eq_nil_of_length_eq_zero (by rw [hl, h]; rfl))
      obtain ⟨b1, rfl, c1⟩ := ha h0
      obtain ⟨b2, rfl, c2⟩ := hc h1
      rw [← hl]
      exact equalLa_row b1 b2 xs.length cap cap2 xs ys rfl hl.symm hx w c1 c2
  · rw [eqLLa_false (fun h => hl (by rw [h]))]
    exact equalLa_differ a c xs.length ys.length cap cap2 hl hx hy w


def smN (st sy : Int) (xs : List Lan) (st' sy' : Int) (ys : List Lan) : Bool := decide (st = st' ∧ sy = sy' ∧ xs = ys)
theorem smN_false {st sy : Int} {xs : List Lan} {st' sy' : Int} {ys : List Lan} (h : ¬ (st = st' ∧ sy = sy' ∧ xs = ys)) : smN st sy xs st' sy' ys = false := decide_eq_false h
theorem smN_same (st sy : Int) (xs ys : List Lan) : smN st sy xs st sy ys = eqLLa xs ys := by unfold smN eqLLa; exact decide_eq_decide.2 ⟨fun h => h.2.2, fun h => ⟨rfl, rfl, h⟩⟩
set_option maxHeartbeats 8000000 in
set_option maxRecDepth 100000 in
theorem ssmN_row (st sy : Int) (b c len cap cap2 : Nat) (xs ys : List Lan) (hx : xs.length = len) (hy : ys.length = len) (hm : len ≤ 1048576) (w : World) (hcx0 : CellsLa w b xs) (hcy0 : CellsLa w c ys) :
    Calls Try.prog 20 #[netV st sy (.slice (some ⟨b, 0, none⟩) len cap), netV st sy (.slice (some ⟨c, 0, none⟩) len cap2)] w fun e w' => e = .returned (.bool (eqLLa xs ys)) ∧ Below w.heap.size w w' := by
  have hb1 : Below w.heap.size w ((w.alloc (.cells #[.int .i8 st, .int .i16 sy, .slice (some ⟨b, 0, none⟩) len cap] 31)).alloc (.cells #[.int .i8 st, .int .i16 sy, .slice (some ⟨c, 0, none⟩) len cap2] 31)) := (((Below.refl _ _).alloc (Nat.le_refl _) _).alloc (by simp) _)
  have BX : BlkA ((w.alloc (.cells #[.int .i8 st, .int .i16 sy, .slice (some ⟨b, 0, none⟩) len cap] 31)).alloc (.cells #[.int .i8 st, .int .i16 sy, .slice (some ⟨c, 0, none⟩) len cap2] 31)) w.heap.size 31 #[.int .i8 st, .int .i16 sy, .slice (some ⟨b, 0, none⟩) len cap] := (BlkA.new rfl _ _).alloc _
  have BY : BlkA ((w.alloc (.cells #[.int .i8 st, .int .i16 sy, .slice (some ⟨b, 0, none⟩) len cap] 31)).alloc (.cells #[.int .i8 st, .int .i16 sy, .slice (some ⟨c, 0, none⟩) len cap2] 31)) (w.heap.size + 1) 31 #[.int .i8 st, .int .i16 sy, .slice (some ⟨c, 0, none⟩) len cap2] := BlkA.new (by simp) _ _
  have hcx := hcx0.below hb1
  have hcy := hcy0.below hb1
  clear hcx0 hcy0
  go_enter Try.func20, Try.ntmps20
  go_wp2_with fail
  obtain ⟨W1, hW⟩ : ∃ W, ((w.alloc (.cells #[.int .i8 st, .int .i16 sy, .slice (some ⟨b, 0, none⟩) len cap] 31)).alloc (.cells #[.int .i8 st, .int .i16 sy, .slice (some ⟨c, 0, none⟩) len cap2] 31)) = W := ⟨_, rfl⟩
  rw [hW] at BX BY hb1 hcx hcy ⊢
  have HB1 := Lib.hid hb1
  have HBX := Lib.hid BX
  have HBY := Lib.hid BY
  clear hW hb1 BX BY
  go_loopw [5] (fun i wr => ∃ k : Nat, k ≤ len ∧ i = .int .i64 k ∧ xs.take k = ys.take k ∧ Below W1.heap.size W1 wr) (fun i _ => len - (intOf i).toNat)
  case atStart => exact ⟨0, Nat.zero_le _, rfl, by simp, Below.refl _ _⟩
  case round =>
    obtain ⟨k, hk, rfl, htk, hnx⟩ := hrel
    have HT := Lib.hid htk
    have HB := Lib.hid (blink HB1.out hnx)
    have HB0 := Lib.hid hnx
    have HX := Lib.hid hx
    have HY := Lib.hid hy
    have bx := HBX.out.below hnx
    have by' := HBY.out.below hnx
    have v2 : wr.cell? ⟨w.heap.size, 2, none⟩ = some (.slice (some ⟨b, 0, none⟩) len cap) := bx.at 2
    have u2 : wr.cell? ⟨w.heap.size + 1, 2, none⟩ = some (.slice (some ⟨c, 0, none⟩) len cap2) := by'.at 2
    clear bx by'
    by_cases hlt : k < len
    · obtain ⟨c0, c1, c2, c3⟩ := hcx.below hnx k (by omega)
      obtain ⟨d0, d1, d2, d3⟩ := hcy.below hnx k (by omega)
      obtain ⟨p, hp⟩ : ∃ p, xs.getD k (0, 0, 0, 0) = p := ⟨_, rfl⟩
      obtain ⟨q, hq⟩ : ∃ q, ys.getD k (0, 0, 0, 0) = q := ⟨_, rfl⟩
      rw [hp] at c0 c1 c2 c3
      rw [hq] at d0 d1 d2 d3
      obtain ⟨x0, x1, x2, x3⟩ := p
      obtain ⟨y0, y1, y2, y3⟩ := q
      have HP := Lib.hid hp
      have HQ := Lib.hid hq
      have HCX := Lib.hid hcx
      have HCY := Lib.hid hcy
      have hkl : (k : Int) < (len : Int) := by omega
      clear hcx hcy hx hy htk hnx hp hq
      by_cases hxy : x0 = y0 ∧ x1 = y1 ∧ x2 = y2 ∧ x3 = y3
      · obtain ⟨rfl, rfl, rfl, rfl⟩ := hxy
        go_wp2_with fail
        go_quiet (fail)
        go_wp2_with fail
        go_roundw
        case rel => exact ⟨k + 1, by omega, by go_num, takeLa_step (by have := HX.out; omega) (by have := HY.out; omega) HT.out (by rw [HP.out, HQ.out]), below_drewN HB0.out _⟩
        case measure => simp [intOf]; omega
      · have HNE : Hid (eqLLa xs ys = false) := Lib.hid (eqLLa_false (fun h => hxy (by have h1 := HP.out; rw [h, HQ.out] at h1; simpa [eq_comm] using h1)))
        have HXY := Lib.hid hxy
        clear hxy
        by_cases h0 : x0 = y0
        · subst h0
          by_cases h1 : x1 = y1
          · subst h1
            by_cases h2 : x2 = y2
            · subst h2
              by_cases h3 : x3 = y3
              · subst h3
                exact absurd ⟨rfl, rfl, rfl, rfl⟩ HXY.out
              · have t3 : (x3 == y3) = false := by simpa using h3
                clear HXY
                go_wp2_with fail
                go_quiet (fail)
                go_wp2_with fail
                go_ret
                exact ⟨(ret_bool HNE.out).symm, below_drewN HB.out _⟩
            · have t2 : (x2 == y2) = false := by simpa using h2
              clear HXY
              go_wp2_with fail
              go_quiet (fail)
              go_wp2_with fail
              go_ret
              exact ⟨(ret_bool HNE.out).symm, below_drewN HB.out _⟩
          · have t1 : (x1 == y1) = false := by simpa using h1
            clear HXY
            go_wp2_with fail
            go_quiet (fail)
            go_wp2_with fail
            go_ret
            exact ⟨(ret_bool HNE.out).symm, below_drewN HB.out _⟩
        · have t0 : (x0 == y0) = false := by simpa using h0
          clear HXY
          go_wp2_with fail
          go_quiet (fail)
          go_wp2_with fail
          go_ret
          exact ⟨(ret_bool HNE.out).symm, below_drewN HB.out _⟩
    · clear hcx hcy hx hy htk hnx
      have hke : k = len := by omega
      have HE := Lib.hid hke
      clear hke
      go_wp2_with fail
      go_ret
      refine ⟨ret_bool (eqLLa_true ?_).symm, HB.out⟩
      have h := HT.out
      rw [HE.out, List.take_of_length_le (by rw [HX.out]; omega), List.take_of_length_le (by rw [HY.out]; omega)] at h
      exact h
set_option maxHeartbeats 1000000 in
theorem ssmN_empty (st sy : Int) (a c : Option Addr) (cap cap2 : Nat) (w : World) :
    Calls Try.prog 20 #[netV st sy (.slice a 0 cap), netV st sy (.slice c 0 cap2)] w fun e w' => e = .returned (.bool true) ∧ Below w.heap.size w w' := by
  go_enter Try.func20, Try.ntmps20
  go_wp2
  refine wp_loop_rounds 1 ?_
  rw [rounds_succ]
  go_wp2
  go_ret
  exact ⟨rfl, (((Below.refl _ _).alloc (Nat.le_refl _) _).alloc (by simp) _)⟩
set_option maxHeartbeats 1000000 in
theorem ssmN_differ (st sy st' sy' : Int) (a c : Option Addr) (l m cap cap2 : Nat) (hne : ¬ (st = st' ∧ sy = sy' ∧ l = m)) (hl : l ≤ 1048576) (hm : m ≤ 1048576) (w : World) :
    Calls Try.prog 20 #[netV st sy (.slice a l cap), netV st' sy' (.slice c m cap2)] w fun e w' => e = .returned (.bool false) ∧ Below w.heap.size w w' := by
  by_cases h1 : st = st'
  · have d1 : (st == st') = true := by simp [h1]
    by_cases h2 : sy = sy'
    · have d2 : (sy == sy') = true := by simp [h2]
      have hb : ((l : Int) != (m : Int)) = true := by simp; intro h; exact hne ⟨h1, h2, by omega⟩
      clear hne
      subst h1 h2
      go_enter Try.func20, Try.ntmps20
      go_wp2
      go_ret
      exact ⟨rfl, (((Below.refl _ _).alloc (Nat.le_refl _) _).alloc (by simp) _)⟩
    · have d2 : (sy == sy') = false := by simp [h2]
      have d2' : (sy != sy') = true := by simp [h2]
      clear hne h2
      subst h1
      go_enter Try.func20, Try.ntmps20
      go_wp2
      go_ret
      exact ⟨rfl, (((Below.refl _ _).alloc (Nat.le_refl _) _).alloc (by simp) _)⟩
  · have d1 : (st == st') = false := by simp [h1]
    have d1' : (st != st') = true := by simp [h1]
    clear hne h1
    go_enter Try.func20, Try.ntmps20
    go_wp2
    go_ret
    exact ⟨rfl, (((Below.refl _ _).alloc (Nat.le_refl _) _).alloc (by simp) _)⟩
theorem ssmN_any (st sy st' sy' : Int) (v u : Value) (xs ys : List Lan) (w : World) (hv : ReadsLa w v xs) (hu : ReadsLa w u ys) (hx : xs.length ≤ 1048576) (hy : ys.length ≤ 1048576) :
    Calls Try.prog 20 #[netV st sy v, netV st' sy' u] w fun e w' => e = .returned (.bool (smN st sy xs st' sy' ys)) ∧ Below w.heap.size w w' := by
  obtain ⟨a, cap, rfl, ha⟩ := hv
  obtain ⟨c, cap2, rfl, hc⟩ := hu
  by_cases hl : st = st' ∧ sy = sy' ∧ xs.length = ys.length
  · obtain ⟨rfl, rfl, hl⟩ := hl
    rw [smN_same]
    by_cases h0 : xs = []
    · subst h0
      have h1 : ys = [] := List.eq_nil_of_length_eq_zero hl.symm
      subst h1
      exact ssmN_empty st sy a c cap cap2 w
    · have h1 : ys ≠ [] := fun h => h0 (List.eq_nil_of_length_eq_zero (by rw [hl, h]; rfl))
      obtain ⟨b1, rfl, c1⟩ := ha h0
      obtain ⟨b2, rfl, c2⟩ := hc h1
      rw [← hl]
      exact ssmN_row st sy b1 b2 xs.length cap cap2 xs ys rfl hl.symm hx w c1 c2
  · rw [smN_false (fun h => hl ⟨h.1, h.2.1, by rw [h.2.2]⟩)]
    exact ssmN_differ st sy st' sy' a c xs.length ys.length cap cap2 hl hx hy w
set_option maxHeartbeats 2000000 in
theorem ismN_any (st sy st' sy' : Int) (v u : Value) (xs ys : List Lan) (w : World) (hv : ReadsLa w v xs) (hu : ReadsLa w u ys) (hx : xs.length ≤ 1048576) (hy : ys.length ≤ 1048576) :
    Calls Try.prog 21 #[netV st sy v, netV st' sy' u] w fun e w' => e = .returned (.bool (smN st sy xs st' sy' ys)) ∧ Below w.heap.size w w' := by
  have hb : ∀ X Y : Obj, Below w.heap.size w ((w.alloc X).alloc Y) := fun X Y => ((Below.refl _ _).alloc (Nat.le_refl _) X).alloc (by simp) Y
  have HV := Lib.hid hv
  have HU := Lib.hid hu
  have HBB := Lib.hid hb
  clear hv hu hb
  by_cases h1 : st = st'
  · subst h1
    by_cases h2 : sy = sy'
    · subst h2
      rw [smN_same]
      go_enter Try.func21, Try.ntmps21
      go_wp2_with fail
      refine (equalLa_any _ _ xs ys _ (HV.out.below (HBB.out _ _)) (HU.out.below (HBB.out _ _)) hx hy).mono ?_
      rintro e w2 ⟨rfl, b2⟩
      go_wp2_with fail
      go_ret
      exact ⟨rfl, (HBB.out _ _).trans (b2.mono (by simp; omega))⟩
    · rw [smN_false (fun h => h2 h.2.1)]
      have d2 : (sy == sy') = false := by simp [h2]
      clear h2
      go_enter Try.func21, Try.ntmps21
      go_wp2_with fail
      go_ret
      exact ⟨rfl, HBB.out _ _⟩
  · rw [smN_false (fun h => h1 h.1)]
    have d1 : (st == st') = false := by simp [h1]
    clear h1
    go_enter Try.func21, Try.ntmps21
    go_wp2_with fail
    go_ret
    exact ⟨rfl, HBB.out _ _⟩
end Go.Proofs.Ytkcbhipgdajdkaa
