/-
  The model's turns of a box: a row of new memory that holds them in their order.
-/
import Derived.Test.YtpefkdhmkamdaaaAsc
import Derived.Test.YtpefkdhmkamdaaaTurnsP
namespace Go.Proofs.Ytpefkdhmkamdaaa
open Go Go.RowKit
set_option linter.unusedVariables false

def freshB (l : List Tri) (t : Tri) : Bool := decide (t ∉ l)
theorem freshB_nil (t : Tri) : freshB [] t = true := by simp [freshB]
theorem freshB_snoc {l : List Tri} {t u : Tri} : freshB (l ++ [u]) t = (freshB l t && decide (u ≠ t)) := by
  unfold freshB
  by_cases h : t ∈ l <;> by_cases g : u = t
  · simp [h]
  · simp [h]
  · subst g; simp
  · have g' : ¬ t = u := fun e => g e.symm
    simp [h, g, g']
theorem fresh_take {l : List Tri} {t : Tri} {j : Nat} (hj : j < l.length) : freshB (l.take (j + 1)) t = (freshB (l.take j) t && decide (l.getD j (0, 0, 0) ≠ t)) := by
  rw [List.take_succ_eq_append_getElem hj, freshB_snoc]
  simp [List.getD, hj]
theorem fresh_all {l : List Tri} {t : Tri} : fresh1 l t = if freshB l t = true then l ++ [t] else l := by
  unfold fresh1 freshB
  by_cases h : t ∈ l <;> simp [h]
theorem flatB_oneCell (ps : List Tri) : ∀ u ∈ flatB ps, u.oneCell' = true := by
  intro u hu
  simp [flatB, flatE, encB] at hu
  obtain ⟨a, b, c, _, rfl | rfl | rfl⟩ := hu <;> rfl
def rows6 (x y z : Int) : Array Value := #[.int .i8 x, .int .i8 y, .int .i8 z, .int .i8 x, .int .i8 z, .int .i8 y, .int .i8 y, .int .i8 x, .int .i8 z, .int .i8 y, .int .i8 z, .int .i8 x, .int .i8 z, .int .i8 x, .int .i8 y, .int .i8 z, .int .i8 y, .int .i8 x]
theorem cells6 (w : World) (T : TypeId) (x y z : Int) : CellsB (w.alloc (.cells (rows6 x y z) T)) w.heap.size (all6 x y z) := by
  have h := heap_alloc_new w (.cells (rows6 x y z) T)
  have g : ∀ i, (w.alloc (.cells (rows6 x y z) T)).cell? ⟨w.heap.size, i, none⟩ = (rows6 x y z)[i]? := fun i => cell_of_row _ w.heap.size i _ T (0, 0) h
  intro i hi
  have hi6 : i < 6 := hi
  have h6 : i = 0 ∨ i = 1 ∨ i = 2 ∨ i = 3 ∨ i = 4 ∨ i = 5 := by omega
  rcases h6 with rfl | rfl | rfl | rfl | rfl | rfl <;> exact ⟨g _, g _, g _⟩

set_option maxHeartbeats 800000 in
set_option maxRecDepth 100000 in
theorem sturns_any (a b c : Int) (w : World) :
    Calls Try.prog 26 #[.agg #[.int .i8 a, .int .i8 b, .int .i8 c]] w fun e w' => ∃ v, e = .returned v ∧ OwnB 27 w.heap.size w' v (turnsL (lo3 a b c) (mi3 a b c) (hi3 a b c)) ∧ Below w.heap.size w w' := by
  obtain ⟨i0, hi, hz0, hz1, hz2⟩ := info_parts info_box
  obtain ⟨x, hx⟩ : ∃ x, lo3 a b c = x := ⟨_, rfl⟩
  obtain ⟨y, hy⟩ : ∃ y, mi3 a b c = y := ⟨_, rfl⟩
  obtain ⟨z, hz⟩ : ∃ z, hi3 a b c = z := ⟨_, rfl⟩
  have hord := ord3 a b c
  rw [hx, hy, hz] at hord ⊢
  have HX := Lib.hid (And.intro hx (And.intro hy hz))
  have HD : Hid (dedup (all6 x y z) = turnsL x y z) := Lib.hid (dedup_all6 hord.1 hord.2)
  clear hx hy hz hord
  rw [← HD.out]
  obtain ⟨W1, e1⟩ : ∃ W, w.alloc (.cells #[.int .i8 a, .int .i8 b, .int .i8 c] 27) = W := ⟨_, rfl⟩
  have HE1 := Lib.hid e1
  have B1 : Hid (Below w.heap.size w W1) := Lib.hid (by rw [← e1]; exact (Below.refl _ _).alloc (Nat.le_refl _) _)
  clear e1
  go_enter Try.func26, Try.ntmps26
  go_wp2_with fail
  rw [HE1.out]
  refine (ssort_any a b c _).mono ?_
  rintro e W2 ⟨rfl, b2⟩
  rw [HX.out.1, HX.out.2.1, HX.out.2.2]
  have B2 := Lib.hid (blink B1.out b2)
  have hs2 : w.heap.size ≤ W2.heap.size := B2.out.size
  clear b2
  go_wp2_with fail
  obtain ⟨W3, e3⟩ : ∃ V, W2.alloc (.cells #[.int .i8 z, .int .i8 y, .int .i8 x] 27) = V := ⟨_, rfl⟩
  have s3 : W3.heap.size = W2.heap.size + 1 := by rw [← e3]; simp
  obtain ⟨W4, e4⟩ : ∃ V, W3.alloc (.cells #[.int .i8 x, .int .i8 y, .int .i8 z, .int .i8 x, .int .i8 z, .int .i8 y, .int .i8 y, .int .i8 x, .int .i8 z, .int .i8 y, .int .i8 z, .int .i8 x, .int .i8 z, .int .i8 x, .int .i8 y, .int .i8 z, .int .i8 y, .int .i8 x] 27) = V := ⟨_, rfl⟩
  have s4 : W4.heap.size = W2.heap.size + 1 + 1 := by rw [← e4]; simp [s3]
  have HC : Hid (CellsB W4 (W2.heap.size + 1) (all6 x y z)) := Lib.hid (by rw [← e4, ← s3]; exact cells6 W3 _ x y z)
  have HO : Hid (OwnB 27 (W2.heap.size + 1 + 1) (W4.alloc (.cells #[] 27)) (.slice (some ⟨W2.heap.size + 1 + 1, 0, none⟩) 0 0) []) := Lib.hid (by rw [← s4]; exact World.ownsRow_made W4 #[] 0 (Nat.le_refl _) (Nat.zero_le _) rfl)
  have HB4 : Hid (Below w.heap.size w W4) := Lib.hid (by rw [← e4]; refine Below.alloc ?_ (by omega) _; rw [← e3]; exact B2.out.alloc hs2 _)
  rw [e3, e4]
  have S4 := Lib.hid s4
  clear e3 e4 s3 s4
  go_loopw [5, 6] (fun v i wr => ∃ k : Nat, k ≤ 6 ∧ i = .int .i64 k ∧ OwnB 27 (W2.heap.size + 1 + 1) wr v (dedup ((all6 x y z).take k)) ∧ v ≠ .slice none 0 0 ∧ Below W4.heap.size W4 wr) (fun _ i _ => 6 - (intOf i).toNat)
  case atStart => exact ⟨0, by omega, rfl, HO.out, by simp, (Below.refl _ _).alloc (Nat.le_refl _) _⟩
  case round =>
    obtain ⟨k, hk, rfl, hown, hne, hnx⟩ := hrel
    obtain ⟨wo, rfl⟩ : ∃ wo : World, wo = wr := ⟨_, rfl⟩
    have HN := Lib.hid hnx
    have hw4 : W4.heap.size ≤ wo.heap.size := hnx.size
    by_cases hlt : k < 6
    · obtain ⟨a0, a1, a2⟩ := HC.out.below hnx k hlt
      have hsn : dedup ((all6 x y z).take (k + 1)) = fresh1 (dedup ((all6 x y z).take k)) ((all6 x y z).getD k (0, 0, 0)) := by
        rw [List.take_succ_eq_append_getElem (show k < (all6 x y z).length from hlt), dedup_snoc]
        simp [List.getD, show k < (all6 x y z).length from hlt]
      have hal : (dedup ((all6 x y z).take k)).length ≤ 6 := by
        have h := dedup_length ((all6 x y z).take k)
        rw [List.length_take] at h; omega
      obtain ⟨t, ht⟩ : ∃ t, (all6 x y z).getD k (0, 0, 0) = t := ⟨_, rfl⟩
      obtain ⟨acc, hacc⟩ : ∃ acc, dedup ((all6 x y z).take k) = acc := ⟨_, rfl⟩
      rw [ht] at a0 a1 a2 hsn
      rw [hacc] at hown hal hsn
      have HOW := Lib.hid hown
      obtain ⟨g, cap, hv, hgB, hgw, hlc, hcm, hcl, hfz⟩ : ∃ g cap, u5 = .slice (some ⟨g, 0, none⟩) acc.length cap ∧ (W2.heap.size + 1 + 1) ≤ g ∧ g < wo.heap.size ∧ acc.length ≤ cap ∧ cap ≤ maxLen ∧ CellsB wo g acc ∧ (∀ j, wo.frozen? ⟨g, j, none⟩ = false) := by
        rcases hown.cases with ⟨h, _⟩ | h
        · exact absurd h hne
        · exact h
      subst hv
      obtain ⟨len, hlen⟩ : ∃ len, acc.length = len := ⟨_, rfl⟩
      rw [hlen] at hlc hal
      have HLEN := Lib.hid hlen
      rw [hlen]
      obtain ⟨p, q, r⟩ := t
      simp only at a0 a1 a2
      have HCL := Lib.hid hcl
      have HSN := Lib.hid hsn
      have HA6 : Hid (wo.cell? ⟨W2.heap.size + 1, k * 3, none⟩ = some (.int .i8 p) ∧ wo.cell? ⟨W2.heap.size + 1, k * 3 + 1, none⟩ = some (.int .i8 q) ∧ wo.cell? ⟨W2.heap.size + 1, k * 3 + 2, none⟩ = some (.int .i8 r)) := Lib.hid ⟨a0, a1, a2⟩
      clear hown hnx hne ht hacc hlen hcl hfz a0 a1 a2 hsn hcm
      go_wp2_with fail
      go_loopw [7, 8] (fun fr j wi => ∃ m : Nat, m ≤ len ∧ j = .int .i64 m ∧ fr = .bool (freshB (acc.take m) (p, q, r)) ∧ Below wo.heap.size wo wi) (fun _ j _ => len - (intOf j).toNat)
      case atStart => exact ⟨0, Nat.zero_le _, rfl, by rw [List.take_zero, freshB_nil], Below.refl _ _⟩
      case round =>
        obtain ⟨m, hm, rfl, rfl, hni⟩ := hrel
        have HNI := Lib.hid hni
        have b0 : wr.cell? ⟨W2.heap.size + 1, k * 3, none⟩ = some (.int .i8 p) := (hni.cell (p := ⟨_, _, none⟩) (World.block_lt_of_cell? wo _ HA6.out.1)).trans HA6.out.1
        have b1 : wr.cell? ⟨W2.heap.size + 1, k * 3 + 1, none⟩ = some (.int .i8 q) := (hni.cell (p := ⟨_, _, none⟩) (World.block_lt_of_cell? wo _ HA6.out.2.1)).trans HA6.out.2.1
        have b2 : wr.cell? ⟨W2.heap.size + 1, k * 3 + 2, none⟩ = some (.int .i8 r) := (hni.cell (p := ⟨_, _, none⟩) (World.block_lt_of_cell? wo _ HA6.out.2.2)).trans HA6.out.2.2
        obtain ⟨fb, hfb⟩ : ∃ fb, freshB (acc.take m) (p, q, r) = fb := ⟨_, rfl⟩
        rw [hfb]
        have HFB := Lib.hid hfb
        clear hfb
        by_cases hml : m < len
        · have hma : m < acc.length := by have := HLEN.out; omega
          obtain ⟨c0, c1, c2⟩ := HCL.out.below hni m hma
          have hft := fresh_take (t := (p, q, r)) hma
          rw [HFB.out] at hft
          obtain ⟨u, hu⟩ : ∃ u, acc.getD m (0, 0, 0) = u := ⟨_, rfl⟩
          rw [hu] at c0 c1 c2 hft
          obtain ⟨p', q', r'⟩ := u
          simp only at c0 c1 c2
          have HFT := Lib.hid hft
          clear hft hu hni hma
          cases fb
          · have HF2 : Hid (freshB (acc.take (m + 1)) (p, q, r) = false) := Lib.hid (by rw [HFT.out]; rfl)
            go_wp2_with fail
            go_quiet (fail)
            go_wp2_with fail
            go_roundw
            case rel => exact ⟨m + 1, by omega, by go_num, by rw [HF2.out], below_drewN HNI.out _⟩
            case measure => simp [intOf]; omega
          · by_cases h1 : p' = p ∧ q' = q ∧ r' = r
            · obtain ⟨rfl, rfl, rfl⟩ := h1
              have HF2 : Hid (freshB (acc.take (m + 1)) (p', q', r') = false) := Lib.hid (by rw [HFT.out]; simp)
              go_wp2_with fail
              go_quiet (fail)
              go_wp2_with fail
              go_roundw
              case rel => exact ⟨m + 1, by omega, by go_num, by rw [HF2.out], below_drewN HNI.out _⟩
              case measure => simp [intOf]; omega
            · have HF2 : Hid (freshB (acc.take (m + 1)) (p, q, r) = true) := Lib.hid (by
                rw [HFT.out]
                have h2 : ((p', q', r') : Tri) ≠ (p, q, r) := fun e => h1 (by simpa using e)
                simp only [ne_eq, h2, not_false_eq_true, decide_true, Bool.and_self])
              have h3 : ¬ p' = p ∨ (p' = p ∧ ¬ q' = q) ∨ (p' = p ∧ q' = q ∧ ¬ r' = r) := by omega
              clear h1
              rcases h3 with h3 | ⟨rfl, h3⟩ | ⟨rfl, rfl, h3⟩
              all_goals
                go_wp2_with fail
                go_quiet (fail)
                go_wp2_with fail
                go_roundw
                case rel => exact ⟨m + 1, by omega, by go_num, by rw [HF2.out], below_drewN HNI.out _⟩
                case measure => simp [intOf]; omega
        · obtain rfl : m = len := by omega
          have HFA : Hid (freshB acc (p, q, r) = fb) := Lib.hid (by rw [← HFB.out, ← HLEN.out, List.take_length])
          have HOW2 : Hid (OwnB 27 (W2.heap.size + 1 + 1) wr (.slice (some ⟨g, 0, none⟩) acc.length cap) acc) := Lib.hid (HOW.out.below hni)
          have HN2 : Hid (Below W4.heap.size W4 wr) := Lib.hid (HN.out.trans (hni.mono hw4))
          have hwr : W4.heap.size ≤ wr.heap.size := HN2.out.size
          clear hni
          cases fb
          · have HD2 : Hid (dedup ((all6 x y z).take (k + 1)) = acc) := Lib.hid (by rw [HSN.out, fresh_all, HFA.out]; rfl)
            go_wp2_with fail
            go_roundw
            case rel => exact ⟨k + 1, by omega, by go_num, by rw [HD2.out]; have h := HOW2.out; rw [HLEN.out] at h; exact h, by simp, HN2.out⟩
            case measure => simp [intOf]; omega
          · have HD2 : Hid (dedup ((all6 x y z).take (k + 1)) = acc ++ [(p, q, r)]) := Lib.hid (by rw [HSN.out, fresh_all, HFA.out]; rfl)
            have howr : wr.ownsRow (W2.heap.size + 1 + 1) 27 3 (.slice (some ⟨g, 0, none⟩) m cap) m (flatB acc) := by have h := HOW2.out; unfold OwnB at h; rw [HLEN.out] at h; exact h
            have HOWR := Lib.hid howr
            have hlm := hal
            have hs4' : (W2.heap.size + 1 + 1) ≤ wr.heap.size := by have := S4.out; omega
            clear howr
            go_wp2_with (at_builtin; refine wpList_append_own _ rfl _ _ 35 rfl (W2.heap.size + 1 + 1) 27 i0 (.agg #[.int .i8 0, .int .i8 0, .int .i8 0]) 3 3 Try.underlying35 hi hz0 hz1 hz2 rfl (by decide) _ _ _ rfl (HOWR.out.alloc _) ⟨wr.heap.size, 0, none⟩ 1 1 (flatB [(p, q, r)]) rfl rfl ?c1 ?c2 ?c3 ?c4 ?c5 ?_)
            case c1 =>
              intro j u hj
              match j, hj with
              | 0, hj => simp [flatB, flatE, encB] at hj; subst hj; simp [Addr.add]
              | 1, hj => simp [flatB, flatE, encB] at hj; subst hj; simp [Addr.add]
              | 2, hj => simp [flatB, flatE, encB] at hj; subst hj; simp [Addr.add]
            case c2 => exact flatB_oneCell _
            case c3 => unfold maxLen; omega
            case c4 => omega
            case c5 => simp; omega
            intro v' w5 hown' hgrow _
            have hO5 : OwnB 27 (W2.heap.size + 1 + 1) w5 v' (acc ++ [(p, q, r)]) := by
              unfold OwnB
              rw [flatB_append, List.length_append, HLEN.out]; exact hown'
            have hN5 : Below W4.heap.size W4 w5 := (HN2.out.alloc hwr _).grown hgrow (by simp; omega) (fun j hj => by have := (HOWR.out.lt j hj).1; have := S4.out; omega)
            have hne5 : v' ≠ .slice none 0 0 := by
              intro e
              rcases hO5.cases with ⟨_, h⟩ | ⟨g', cap', h, _⟩
              · simp at h
              · rw [e] at h; simp at h
            have HO5 := Lib.hid hO5
            have HN5 := Lib.hid hN5
            have HNE5 := Lib.hid hne5
            clear hown' hgrow hO5 hN5 hne5
            go_wp2_with fail
            go_roundw
            case rel => exact ⟨k + 1, by omega, by go_num, by rw [HD2.out]; exact HO5.out, HNE5.out, HN5.out⟩
            case measure => simp [intOf]; omega
    · obtain rfl : k = 6 := by omega
      have HOW : Hid (OwnB 27 w.heap.size wo u5 (dedup (all6 x y z))) := Lib.hid ⟨hown.1, by
        rcases hown.2 with hn | ⟨g, cap, cur, hv, hb, rest⟩
        · exact .inl hn
        · exact .inr ⟨g, cap, cur, hv, by omega, rest⟩⟩
      have HB5 : Hid (Below w.heap.size w wo) := Lib.hid (HB4.out.trans (hnx.mono (by have := HB4.out.size; omega)))
      clear hown hnx hne
      go_wp2_with fail
      go_ret
      exact ⟨_, rfl, HOW.out, HB5.out⟩
end Go.Proofs.Ytpefkdhmkamdaaa
