/-
  Contracts of the laws' own helpers over [][]int16 and tables.
-/
import Derived.Test.YtnjhkmoinlikiaaDoorMat
import Derived.StillTailTactics
namespace Go.Proofs.YtnjhkmoinlikiaaDoor
open Go Go.RowKit
set_option linter.unusedVariables false

theorem info_h : (Tryd.prog.info? 31).map (fun i => (i.zero, i.size, i.bytes)) = some (some (.slice none 0 0), 1, 24) := by kernel_rfl

theorem szH_any (a : Option Addr) (len cap : Nat) (l : Int) (h0 : 0 ≤ l) (h1 : l ≤ 1048576) (hb : len ≤ 9223372036854775807) (w : World) :
    Calls Tryd.prog 19 #[.slice a len cap, .int .i64 l] w fun e w' => e = .returned (.int .i64 (szH l len)) ∧ w = w' := by
  by_cases h : 0 ≤ l - (len : Int)
  · have t1 : decide (l - (len : Int) < 0) = false := by simp; omega
    rw [show szH l len = l - len from if_pos h]
    go_enter Tryd.func19, Tryd.ntmps19
    go_wp2
    go_ret
    exact ⟨rfl, rfl⟩
  · have t1 : decide (l - (len : Int) < 0) = true := by simp; omega
    rw [show szH l len = -1 from if_neg h]
    go_enter Tryd.func19, Tryd.ntmps19
    go_wp2
    go_ret
    exact ⟨rfl, rfl⟩

theorem IsRow.len_ok {k : IntKind} {w : World} {a : Option Addr} {len cap : Nat} {z : List Int} (hr : IsRow k w a len cap z) : len ≤ 9223372036854775807 := by
  rcases hr with ⟨_, rfl, _, _⟩ | ⟨x, _, h1, h2, _⟩
  · omega
  · unfold maxLen at h2; omega
theorem IsRows.len_ok {w : World} {a : Option Addr} {len cap : Nat} {R : List (List Int)} (hr : IsRows w a len cap R) : len ≤ 9223372036854775807 := by
  rcases hr with ⟨_, rfl, _, _⟩ | ⟨x, _, h1, h2, _⟩
  · omega
  · unfold maxLen at h2; omega

set_option maxHeartbeats 2000000 in
set_option maxRecDepth 100000 in
theorem szM_row (b off len cap : Nat) (R : List (List Int)) (hl : R.length = len) (l : Int) (h0 : 0 ≤ l) (h1 : l ≤ 1048576) (hlen : (len : Int) ≤ l) (w : World)
    (hc : ∀ j, j < len → ∃ a' l' c' z, w.cell? ⟨b, off + j, none⟩ = some (.slice a' l' c') ∧ IsRow .i16 w a' l' c' z ∧ z.take l' = R.getD j []) :
    Calls Tryd.prog 20 #[.slice (some ⟨b, off, none⟩) len cap, .int .i64 l] w fun e w' => e = .returned (.int .i64 (szM l R)) ∧ Below w.heap.size w w' := by
  have t0 : decide (l - (len : Int) < 0) = false := by simp; omega
  have HL := Lib.hid hl
  have HC := Lib.hid hc
  clear hl hc
  go_enter Tryd.func20, Tryd.ntmps20
  go_wp2_with fail
  go_loopw [1, 5] (fun q i wr => ∃ k : Nat, k ≤ len ∧ i = .int .i64 k ∧ q = .int .i64 (l - len - tot (R.take k)) ∧ 0 ≤ l - len - tot (R.take k) ∧ Below w.heap.size w wr) (fun _ i _ => len - (intOf i).toNat)
  case atStart => exact ⟨0, Nat.zero_le _, rfl, by simp [tot], by simp [tot]; omega, Below.refl _ _⟩
  case round =>
    obtain ⟨k, hk, rfl, rfl, hq, hnx⟩ := hrel
    have HB := Lib.hid hnx
    by_cases hlt : k < len
    · obtain ⟨a', l', c', z, g0, g1, g2⟩ := HC.out k hlt
      have g0' : wr.cell? ⟨b, off + k, none⟩ = some (.slice a' l' c') := by
        rw [hnx.cell (p := ⟨b, off + k, none⟩) (World.block_lt_of_cell? w _ g0)]; exact g0
      have hll : (R.getD k []).length = l' := by rw [← g2]; exact g1.len_le
      have hts := tot_take_succ R k (by have := HL.out; omega)
      have hlo := g1.len_ok
      rw [hll] at hts
      have HTS := Lib.hid hts
      have HLO := Lib.hid hlo
      obtain ⟨n, hn⟩ : ∃ n : Int, l - len - tot (R.take k) = n := ⟨_, rfl⟩
      have hn1 : n ≤ 1048576 := by omega
      have HN := Lib.hid hn
      have HTL : Hid (tot (R.take (k + 1)) ≤ tot R) := Lib.hid (tot_take_le R (k + 1))
      rw [hn] at hq ⊢
      clear hts hll g1 g2 g0 hnx hn hlo
      by_cases hfit : 0 ≤ n - (l' : Int)
      · have t1 : decide (n - (l' : Int) < 0) = false := by simp; omega
        go_wp2_with fail
        refine (szH_any a' l' c' n hq hn1 HLO.out _).mono ?_
        rintro e w2 ⟨rfl, rfl⟩
        rw [show szH n l' = n - l' from if_pos (by omega)]
        go_wp2_with fail
        go_roundw
        case rel => exact ⟨k + 1, by omega, by go_num, ret_val (by have := HTS.out; have := HN.out; omega), by have := HTS.out; have := HN.out; omega, HB.out⟩
        case measure => simp [intOf]; omega
      · go_wp2_with fail
        refine (szH_any a' l' c' n hq hn1 HLO.out _).mono ?_
        rintro e w2 ⟨rfl, rfl⟩
        rw [show szH n l' = -1 from if_neg (by omega)]
        go_wp2_with fail
        go_ret
        exact ⟨ret_int (by rw [szM, if_neg (by have := HTS.out; have := HN.out; have := HL.out; have := HTL.out; omega)]), HB.out⟩
    · have hk' : k = len := by omega
      have HK := Lib.hid hk'
      have HQ := Lib.hid hq
      clear hk' hnx hq
      go_wp2_with fail
      go_ret
      refine ⟨ret_int ?_, HB.out⟩
      have e : R.take k = R := List.take_of_length_le (by rw [HK.out, HL.out]; omega)
      have hq := HQ.out
      rw [e] at hq ⊢
      rw [szM, HL.out, if_pos hq]

set_option maxHeartbeats 1000000 in
theorem szM_zero (a : Option Addr) (cap : Nat) (l : Int) (h0 : 0 ≤ l) (h1 : l ≤ 1048576) (w : World) :
    Calls Tryd.prog 20 #[.slice a 0 cap, .int .i64 l] w fun e w' => e = .returned (.int .i64 (szM l [])) ∧ Below w.heap.size w w' := by
  have t0 : decide (l < 0) = false := by simp; omega
  rw [show szM l [] = l by simp [szM, tot]; omega]
  go_enter Tryd.func20, Tryd.ntmps20
  go_wp2
  refine wp_loop_rounds 1 ?_
  rw [rounds_succ]
  go_wp2
  go_ret
  exact ⟨rfl, Below.refl _ _⟩
set_option maxHeartbeats 1000000 in
theorem szM_over (a : Option Addr) (len cap : Nat) (l : Int) (h0 : 0 ≤ l) (h1 : l ≤ 1048576) (hl : l < (len : Int)) (hb : len ≤ 9223372036854775807) (w : World) :
    Calls Tryd.prog 20 #[.slice a len cap, .int .i64 l] w fun e w' => e = .returned (.int .i64 (-1)) ∧ Below w.heap.size w w' := by
  have t0 : decide (l - (len : Int) < 0) = true := by simp; omega
  go_enter Tryd.func20, Tryd.ntmps20
  go_wp2
  go_ret
  exact ⟨rfl, Below.refl _ _⟩

theorem szM_any (a : Option Addr) (len cap : Nat) (R : List (List Int)) (l : Int) (h0 : 0 ≤ l) (h1 : l ≤ 1048576) (w : World) (h : IsRows w a len cap R) :
    Calls Tryd.prog 20 #[.slice a len cap, .int .i64 l] w fun e w' => e = .returned (.int .i64 (szM l R)) ∧ Below w.heap.size w w' := by
  have hb := h.len_ok
  rcases h with ⟨rfl, rfl, rfl, rfl⟩ | ⟨x, rfl, hl, hm, hR, hcell⟩
  · exact szM_zero none 0 l h0 h1 w
  · by_cases hz : len = 0
    · subst hz
      have e : R = [] := List.eq_nil_of_length_eq_zero hR
      subst e
      exact szM_zero (some x) cap l h0 h1 w
    · by_cases hlen : (len : Int) ≤ l
      · obtain ⟨b, off, spot⟩ := x
        have hspot : spot = none := by
          obtain ⟨_, _, _, _, g, _⟩ := hcell 0 (by omega)
          simpa [Addr.add] using World.cell?_spot g
        subst hspot
        refine szM_row b off len cap R hR l h0 h1 hlen w fun j hj => ?_
        obtain ⟨a', l', c', z, g0, g1, g2⟩ := hcell j hj
        rw [addr_add] at g0
        exact ⟨a', l', c', z, g0, g1, g2⟩
      · rw [show szM l R = -1 by rw [szM, if_neg (by rw [hR]; omega)]]
        exact szM_over (some x) len cap l h0 h1 (by omega) hb w

set_option maxHeartbeats 2000000 in
set_option maxRecDepth 100000 in
theorem toM_row (b off len cap : Nat) (R : List (List Int)) (hl : R.length = len) (hm : len ≤ 1048576) (hr : ∀ j, j < len → (R.getD j []).length ≤ 1048576) (w : World)
    (hc : ∀ j, j < len → ∃ a' l' c' z, w.cell? ⟨b, off + j, none⟩ = some (.slice a' l' c') ∧ IsRow .i16 w a' l' c' z ∧ z.take l' = R.getD j []) :
    Calls Tryd.prog 24 #[.slice (some ⟨b, off, none⟩) len cap] w fun e w' => e = .returned (.slice (some ⟨w.heap.size, 0, none⟩) len len) ∧ OwnM w.heap.size w' (.slice (some ⟨w.heap.size, 0, none⟩) len len) R ∧ Below w.heap.size w w' := by
  obtain ⟨i0, hi, hz0, hz1, hz2⟩ := info_parts info_h
  have HL := Lib.hid hl
  have HC := Lib.hid hc
  have HR := Lib.hid hr
  clear hl hc hr
  go_enter Tryd.func24, Tryd.ntmps24
  go_wp2_with (refine wpList_make_full _ rfl _ _ 32 rfl w.heap.size 31 i0 (.slice none 0 0) 1 Tryd.underlying32 hi hz0 hz1 .i64 .i64 _ _ len rfl rfl rfl rfl (by rw [hz2]; omega) (by unfold maxLen; omega) (Nat.le_refl _) ?_; intro w1 hown1 hg1)
  have hs1 : w.heap.size < w1.heap.size := (hown1.lt w.heap.size rfl).2
  go_loopw [4] (fun i wr => ∃ (k : Nat) (us : List Value), k ≤ len ∧ i = .int .i64 k ∧ wr.ownsRow w.heap.size 31 1 (.slice (some ⟨w.heap.size, 0, none⟩) len len) len us ∧ RowsTo (w.heap.size + 1) wr us R k ∧ w.heap.size < wr.heap.size ∧ Below w.heap.size w wr) (fun i _ => len - (intOf i).toNat)
  case atStart =>
    exact ⟨0, _, Nat.zero_le _, rfl, hown1, RowsTo.zero _ _ _ _, hs1, (Below.refl _ _).grown hg1 (Nat.le_refl _) (fun k hk => by simp at hk)⟩
  case round =>
    obtain ⟨k, us, hk, rfl, hown, hrows, hsz, hnx⟩ := hrel
    have hus : us.length = len := by simpa using hown.1
    have HU := Lib.hid hus
    have HO := Lib.hid hown
    have HRW := Lib.hid hrows
    have HB := Lib.hid hnx
    by_cases hlt : k < len
    · obtain ⟨a', l', c', z, g0, g1, g2⟩ := HC.out k hlt
      have g0' : wr.cell? ⟨b, off + k, none⟩ = some (.slice a' l' c') := by
        rw [hnx.cell (p := ⟨b, off + k, none⟩) (World.block_lt_of_cell? w _ g0)]; exact g0
      have hll : l' ≤ 1048576 := by have h1 := HR.out k hlt; rw [← g2, g1.len_le] at h1; exact h1
      have G1 := Lib.hid (g1.below hnx)
      have G2 := Lib.hid g2
      clear g0 g1 g2 hus hown hrows hnx hown1 hg1
      go_wp2_with fail
      refine (toH_as a' l' c' z _ G2 _ G1.out hll).mono ?_
      rintro e w2 ⟨rfl, o2, b2⟩
      have own2 : w2.ownsRow w.heap.size 31 1 (.slice (some ⟨w.heap.size, 0, none⟩) len len) len us := by
        refine ⟨HO.out.1, ?_⟩
        rcases HO.out.2 with hn | ⟨g, cap, cur, hv, hB, hg, rest⟩
        · exact .inl hn
        · exact .inr ⟨g, cap, cur, hv, hB, by rw [b2.block g (Array.getElem?_eq_some_iff.1 hg).1]; exact hg, rest⟩
      have f0 := own2.frozenAt k
      have d0 := own2.cellAt k (by omega)
      have S := own2.stored k (.slice (some ⟨wr.heap.size, 0, none⟩) l' l')
      have rows2 : RowsTo (w.heap.size + 1) (w2.setCell ⟨w.heap.size, k, none⟩ (.slice (some ⟨wr.heap.size, 0, none⟩) l' l')) (us.set k (.slice (some ⟨wr.heap.size, 0, none⟩) l' l')) R (k + 1) := by
        refine RowsTo.succ ((HRW.out.below b2).kept S.2 (by omega)) ?_ (by rw [HU.out]; exact hlt) ?_
        · exact (o2.mono (by omega)).kept S.2 (.inr (by simp [Value.ownBlock]; omega))
        · intro j hj p q hp hq
          have h1 := (HRW.out.1 j hj).block p hp
          simp [Value.ownBlock] at hq
          omega
      have HS := Lib.hid S.1
      have HR2 := Lib.hid rows2
      have HB2 : Hid (Below w.heap.size w w2) := Lib.hid (HB.out.trans (b2.mono (Nat.le_of_lt hsz)))
      have hs2 : w.heap.size < w2.heap.size := Nat.lt_of_lt_of_le hsz b2.size
      have hx : ∃ x, us[k]? = some x := ⟨us[k]'(by rw [HU.out]; exact hlt), List.getElem?_eq_getElem _⟩
      obtain ⟨x, hx⟩ := hx
      rw [hx] at d0
      clear own2 S rows2 o2 b2 hx
      go_wp2_with fail
      go_roundw
      case rel => exact ⟨k + 1, _, by omega, by go_num, HS.out, HR2.out, by simpa using hs2, HB2.out.setCell (Nat.le_refl _) _⟩
      case measure => simp [intOf]; omega
    · have hk' : k = len := by omega
      have HK := Lib.hid hk'
      clear hk' hus hown hrows hnx hown1 hg1
      go_wp2_with fail
      go_ret
      refine ⟨rfl, ⟨us, w.heap.size + 1, by omega, by rw [HL.out]; exact HO.out, by rw [HL.out, ← HK.out]; exact HRW.out, fun p hp => by simp [Value.ownBlock] at hp; omega⟩, HB.out⟩

set_option maxHeartbeats 1000000 in
theorem toM_zero (a : Option Addr) (cap : Nat) (w : World) :
    Calls Tryd.prog 24 #[.slice a 0 cap] w fun e w' => e = .returned (.slice (some ⟨w.heap.size, 0, none⟩) 0 0) ∧ OwnM w.heap.size w' (.slice (some ⟨w.heap.size, 0, none⟩) 0 0) [] ∧ Below w.heap.size w w' := by
  obtain ⟨i0, hi, hz0, hz1, hz2⟩ := info_parts info_h
  go_enter Tryd.func24, Tryd.ntmps24
  go_wp2_with (refine wpList_make_full _ rfl _ _ 32 rfl w.heap.size 31 i0 (.slice none 0 0) 1 Tryd.underlying32 hi hz0 hz1 .i64 .i64 _ _ 0 rfl rfl rfl rfl (by omega) (by unfold maxLen; omega) (Nat.le_refl _) ?_; intro w1 hown1 hg1)
  have HO := Lib.hid hown1
  have HG := Lib.hid hg1
  clear hown1 hg1
  refine wp_loop_rounds 1 ?_
  rw [rounds_succ]
  go_wp2
  go_ret
  exact ⟨rfl, ⟨_, w.heap.size + 1, by omega, HO.out, RowsTo.zero _ _ _ _, fun p hp => by simp [Value.ownBlock] at hp; omega⟩, (Below.refl _ _).grown HG.out (Nat.le_refl _) (fun k hk => by simp at hk)⟩

/-- toInt16SS on whatever slice of slices came in. -/
theorem toM_any (a : Option Addr) (len cap : Nat) (R : List (List Int)) (w : World) (h : IsRows w a len cap R) (hm : len ≤ 1048576) (hr : ∀ j, j < len → (R.getD j []).length ≤ 1048576) :
    Calls Tryd.prog 24 #[.slice a len cap] w fun e w' => e = .returned (.slice (some ⟨w.heap.size, 0, none⟩) len len) ∧ OwnM w.heap.size w' (.slice (some ⟨w.heap.size, 0, none⟩) len len) R ∧ Below w.heap.size w w' := by
  rcases h with ⟨rfl, rfl, rfl, rfl⟩ | ⟨x, rfl, hl, hx, hz, hcell⟩
  · exact toM_zero none 0 w
  · by_cases h0 : len = 0
    · subst h0
      have e : R = [] := List.eq_nil_of_length_eq_zero hz
      subst e
      exact toM_zero (some x) cap w
    · obtain ⟨b, off, spot⟩ := x
      have hspot : spot = none := by
        obtain ⟨_, _, _, _, g, _⟩ := hcell 0 (by omega)
        simpa [Addr.add] using World.cell?_spot g
      subst hspot
      refine toM_row b off len cap R hz hm hr w fun j hj => ?_
      obtain ⟨a', l', c', z, g0, g1, g2⟩ := hcell j hj
      rw [addr_add] at g0
      exact ⟨a', l', c', z, g0, g1, g2⟩
end Go.Proofs.YtnjhkmoinlikiaaDoor
