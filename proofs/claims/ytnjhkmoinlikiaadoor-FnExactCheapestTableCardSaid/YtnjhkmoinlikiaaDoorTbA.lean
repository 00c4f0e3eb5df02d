/-
  The laws' helpers over slices of tables: sized, copied, compared.
-/
import Derived.Test.YtnjhkmoinlikiaaDoorTbO
namespace Go.Proofs.YtnjhkmoinlikiaaDoor
open Go Go.RowKit
set_option linter.unusedVariables false

def szTs (l : Int) (ts : List Tb) : Int := ts.foldl (fun r t => if r < 0 then -1 else szT r t.1 t.2) l
theorem szTs_succ (l : Int) (ts : List Tb) (k : Nat) (hk : k < ts.length) : szTs l (ts.take (k + 1)) = if szTs l (ts.take k) < 0 then -1 else szT (szTs l (ts.take k)) (ts.getD k tb0).1 (ts.getD k tb0).2 := by
  rw [List.take_succ_eq_append_getElem hk]
  unfold szTs
  rw [List.foldl_append]
  simp [List.getD, hk]
theorem szT_neg {l : Int} {S : List Int} {R : List (List Int)} (h : szT l S R < 0) : szT l S R = -1 := by
  unfold szT at h ⊢
  split
  · rw [if_pos (by assumption)] at h
    unfold szM at h ⊢
    split
    · rw [if_pos (by assumption)] at h; omega
    · rfl
  · rfl
theorem szTs_bad {l : Int} {ts : List Tb} : ∀ (d k : Nat), k + d = ts.length → szTs l (ts.take k) = -1 → szTs l ts = -1
  | 0, k, hk, h => by rwa [List.take_of_length_le (by omega)] at h
  | d + 1, k, hk, h => szTs_bad d (k + 1) (by omega) (by rw [szTs_succ l ts k (by omega), h]; rfl)
theorem szTs_up {l : Int} {ts : List Tb} {k : Nat} (hk : k ≤ ts.length) (h : 0 ≤ szTs l ts) : 0 ≤ szTs l (ts.take k) := by
  by_cases hn : 0 ≤ szTs l (ts.take k)
  · exact hn
  · exfalso
    by_cases hk0 : k = ts.length
    · subst hk0; rw [List.take_length] at hn; omega
    · have h1 : szTs l (ts.take (k + 1)) = -1 := by rw [szTs_succ l ts k (by omega), if_pos (by omega)]
      have := szTs_bad (ts.length - (k + 1)) (k + 1) (by omega) h1
      omega
theorem szTs_le {l : Int} {ts : List Tb} (h1 : l ≤ 1048576) : ∀ k, k ≤ ts.length → szTs l (ts.take k) ≤ 1048576
  | 0, _ => by simpa [szTs] using h1
  | k + 1, hk => by
    have := szTs_le (l := l) (ts := ts) h1 k (by omega)
    rw [szTs_succ l ts k (by omega)]
    split
    · omega
    · exact szT_bound this
/-- What is left of l when a slice of tables has been taken off. -/
def szA (l : Int) (ts : List Tb) : Int := if 0 ≤ l - ts.length then szTs (l - ts.length) ts else -1
theorem szA_ok {w : World} {a : Option Addr} {len cap : Nat} {ts : List Tb} (h : IsTabs w a len cap ts) {l : Int} (hl : l ≤ 1048576) (hs : 0 ≤ szA l ts) : TabsOk ts ∧ ts.length ≤ 1048576 := by
  unfold szA at hs
  split at hs
  · refine ⟨fun j hj => ?_, by omega⟩
    have h1 := szTs_up (k := j) (by omega) hs
    have h2 := szTs_up (k := j + 1) (by omega) hs
    rw [szTs_succ _ ts j hj, if_neg (by omega)] at h2
    rcases h with ⟨_, rfl, _, rfl⟩ | ⟨x, _, _, _, h4, h5⟩
    · simp at hj
    · obtain ⟨u0, u1, _, _, t⟩ := h5 j (by omega)
      exact t.ok (szTs_le (by omega) j (by omega)) h2
  · omega

set_option maxHeartbeats 2000000 in
set_option maxRecDepth 100000 in
theorem szTs_row (b off len cap : Nat) (ts : List Tb) (hl : ts.length = len) (l : Int) (h0 : 0 ≤ l) (h1 : l ≤ 1048576) (hlen : (len : Int) ≤ l) (w : World)
    (hc : ∀ j, j < len → ∃ u0 u1, w.cell? ⟨b, off + j * 2, none⟩ = some u0 ∧ w.cell? ⟨b, off + j * 2 + 1, none⟩ = some u1 ∧ IsTab w (.agg #[u0, u1]) (ts.getD j tb0).1 (ts.getD j tb0).2) :
    Calls Tryd.prog 4 #[.slice (some ⟨b, off, none⟩) len cap, .int .i64 l] w fun e w' => e = .returned (.int .i64 (szTs (l - len) ts)) ∧ Below w.heap.size w w' := by
  have t0 : decide (l - (len : Int) < 0) = false := by simp; omega
  have HL := Lib.hid hl
  have HC := Lib.hid hc
  have HLE := Lib.hid (fun k hk => szTs_le (l := l - len) (ts := ts) (by omega) k hk)
  clear hl hc
  go_enter Tryd.func4, Tryd.ntmps4
  go_wp2_with fail
  go_loopw [1, 5] (fun q i wr => ∃ k : Nat, k ≤ len ∧ i = .int .i64 k ∧ q = .int .i64 (szTs (l - len) (ts.take k)) ∧ 0 ≤ szTs (l - len) (ts.take k) ∧ Below w.heap.size w wr) (fun _ i _ => len - (intOf i).toNat)
  case atStart => exact ⟨0, Nat.zero_le _, rfl, by simp [szTs], by simp [szTs]; omega, Below.refl _ _⟩
  case round =>
    obtain ⟨k, hk, rfl, rfl, hq, hnx⟩ := hrel
    have HB := Lib.hid hnx
    have hwr : w.heap.size ≤ wr.heap.size := hnx.size
    by_cases hlt : k < len
    · obtain ⟨u0, u1, c0, c1, ht⟩ := HC.out k hlt
      have c0' := cbelow (p := ⟨b, off + k * 2, none⟩) hnx c0
      have c1' := cbelow (p := ⟨b, off + k * 2 + 1, none⟩) hnx c1
      have HT := Lib.hid (ht.below hnx)
      have HST := Lib.hid (szTs_succ (l - len) ts k (by have := HL.out; omega))
      have hn1 := HLE.out k (by have := HL.out; omega)
      have HBAD : Hid (szTs (l - len) (ts.take (k + 1)) = -1 → szTs (l - len) ts = -1) := Lib.hid (fun h => szTs_bad (ts.length - (k + 1)) (k + 1) (by have := HL.out; omega) h)
      obtain ⟨n, hn⟩ : ∃ n : Int, szTs (l - len) (ts.take k) = n := ⟨_, rfl⟩
      rw [hn] at hq hn1 HST ⊢
      obtain ⟨S, hS⟩ : ∃ S, (ts.getD k tb0).1 = S := ⟨_, rfl⟩
      obtain ⟨R, hR⟩ : ∃ R, (ts.getD k tb0).2 = R := ⟨_, rfl⟩
      rw [hS, hR] at HT HST
      have HCALL := Lib.hid (fun W (hb : Below wr.heap.size wr W) => szT_any (.agg #[u0, u1]) S R n hq hn1 W (HT.out.below hb))
      have HNEG : Hid (szT n S R < 0 → szT n S R = -1) := Lib.hid szT_neg
      obtain ⟨r, hr⟩ : ∃ r, szT n S R = r := ⟨_, rfl⟩
      rw [hr] at HST HCALL HNEG
      clear hn hS hR hr c0 c1 ht hnx
      by_cases hr0 : 0 ≤ r
      · have t1 : decide (r < 0) = false := by simp; omega
        have HK : Hid (szTs (l - len) (ts.take (k + 1)) = r) := Lib.hid (by rw [HST.out, if_neg (by omega)])
        go_wp2_with fail
        refine (HCALL.out _ (Below.refl _ _)).mono ?_
        rintro e w2 ⟨rfl, b2⟩
        have HB2 := Lib.hid (blink HB.out b2)
        clear b2
        go_wp2_with fail
        go_roundw
        case rel => exact ⟨k + 1, by omega, by go_num, by rw [HK.out], by rw [HK.out]; exact hr0, HB2.out⟩
        case measure => simp [intOf]; omega
      · have t1 : decide (r < 0) = true := by simp; omega
        have HK : Hid (szTs (l - len) ts = -1) := Lib.hid (HBAD.out (by rw [HST.out, if_neg (by omega)]; exact HNEG.out (by omega)))
        go_wp2_with fail
        refine (HCALL.out _ (Below.refl _ _)).mono ?_
        rintro e w2 ⟨rfl, b2⟩
        have HB2 := Lib.hid (blink HB.out b2)
        clear b2
        go_wp2_with fail
        go_ret
        exact ⟨ret_int HK.out.symm, HB2.out⟩
    · have HK : Hid (ts.take k = ts) := Lib.hid (List.take_of_length_le (by have := HL.out; omega))
      clear hnx hq
      go_wp2_with fail
      go_ret
      exact ⟨ret_int (by rw [HK.out]), HB.out⟩
set_option maxHeartbeats 1000000 in
theorem szTs_zero (a : Option Addr) (cap : Nat) (l : Int) (h0 : 0 ≤ l) (h1 : l ≤ 1048576) (w : World) :
    Calls Tryd.prog 4 #[.slice a 0 cap, .int .i64 l] w fun e w' => e = .returned (.int .i64 l) ∧ Below w.heap.size w w' := by
  have t0 : decide (l < 0) = false := by simp; omega
  go_enter Tryd.func4, Tryd.ntmps4
  go_wp2
  refine wp_loop_rounds 1 ?_
  rw [rounds_succ]
  go_wp2
  go_ret
  exact ⟨rfl, Below.refl _ _⟩
set_option maxHeartbeats 1000000 in
theorem szTs_over (a : Option Addr) (len cap : Nat) (l : Int) (h0 : 0 ≤ l) (h1 : l ≤ 1048576) (hl : l < (len : Int)) (hb : len ≤ 9223372036854775807) (w : World) :
    Calls Tryd.prog 4 #[.slice a len cap, .int .i64 l] w fun e w' => e = .returned (.int .i64 (-1)) ∧ Below w.heap.size w w' := by
  have t0 : decide (l - (len : Int) < 0) = true := by simp; omega
  go_enter Tryd.func4, Tryd.ntmps4
  go_wp2
  go_ret
  exact ⟨rfl, Below.refl _ _⟩
theorem szA_any (a : Option Addr) (len cap : Nat) (ts : List Tb) (l : Int) (h0 : 0 ≤ l) (h1 : l ≤ 1048576) (w : World) (h : IsTabs w a len cap ts) :
    Calls Tryd.prog 4 #[.slice a len cap, .int .i64 l] w fun e w' => e = .returned (.int .i64 (szA l ts)) ∧ Below w.heap.size w w' := by
  have hb := h.len_ok
  have he := h.len_eq
  by_cases hlen : (len : Int) ≤ l
  · rw [show szA l ts = szTs (l - len) ts by unfold szA; rw [he, if_pos (by omega)]]
    rcases h with ⟨rfl, rfl, rfl, rfl⟩ | ⟨x, rfl, hl, hm, hR, hcell⟩
    · rw [show szTs (l - ((0 : Nat) : Int)) [] = l by simp [szTs]]
      exact szTs_zero none 0 l h0 h1 w
    · by_cases hz : len = 0
      · subst hz
        have e : ts = [] := List.eq_nil_of_length_eq_zero hR
        subst e
        rw [show szTs (l - ((0 : Nat) : Int)) [] = l by simp [szTs]]
        exact szTs_zero (some x) cap l h0 h1 w
      · obtain ⟨b, off, spot⟩ := x
        have hspot : spot = none := by
          obtain ⟨_, _, g, _⟩ := hcell 0 (by omega)
          simpa [Addr.add] using World.cell?_spot g
        subst hspot
        refine szTs_row b off len cap ts hR l h0 h1 hlen w fun j hj => ?_
        obtain ⟨u0, u1, g0, g1, g2⟩ := hcell j hj
        rw [addr_add] at g0 g1
        exact ⟨u0, u1, g0, g1, g2⟩
  · rw [show szA l ts = -1 by unfold szA; rw [he, if_neg (by omega)]]
    exact szTs_over a len cap l h0 h1 (by omega) hb w
end Go.Proofs.YtnjhkmoinlikiaaDoor
