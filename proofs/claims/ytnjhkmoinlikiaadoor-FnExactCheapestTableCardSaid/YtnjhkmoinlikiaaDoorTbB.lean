/-
  The laws' helpers over slices of tables: copied, compared.
-/
import Derived.Test.YtnjhkmoinlikiaaDoorTbA
namespace Go.Proofs.YtnjhkmoinlikiaaDoor
open Go Go.RowKit
set_option linter.unusedVariables false

theorem infoR_Tb : (Tryd.prog.info? 37).map (fun i => (i.zero, i.size, i.bytes)) = some (some (.agg #[.slice none 0 0, .slice none 0 0]), 2, 48) := by kernel_rfl
theorem OwnT.other {B : Nat} {w : World} {v : Value} {S : List Int} {R : List (List Int)} (h : OwnT B w v S R) (p : Addr) (u : Value) (hp : p.block < B) : OwnT B (w.setCell p u) v S R := by
  obtain ⟨u1, u2, B2, rfl, h1, h2, h3, h4⟩ := h
  exact ⟨u1, u2, B2, rfl, h1.other p u hp, h2.other p u (by omega), h3, h4⟩
/-- The first k tables are copied. -/
def TbRow (B : Nat) (w : World) (us : List Value) (ts : List Tb) (k : Nat) : Prop :=
  ∀ j, j < k → ∃ v0 v1, us[j * 2]? = some v0 ∧ us[j * 2 + 1]? = some v1 ∧ OwnT B w (.agg #[v0, v1]) (ts.getD j tb0).1 (ts.getD j tb0).2
theorem TbRow.zero {B : Nat} {w : World} {us : List Value} {ts : List Tb} : TbRow B w us ts 0 := fun j hj => absurd hj (by omega)
theorem TbRow.below {B : Nat} {w w' : World} {us : List Value} {ts : List Tb} {k : Nat} (h : TbRow B w us ts k) (hb : Below w.heap.size w w') : TbRow B w' us ts k := fun j hj => by
  obtain ⟨v0, v1, a, b, c⟩ := h j hj
  exact ⟨v0, v1, a, b, c.below hb⟩
theorem TbRow.other {B : Nat} {w : World} {us : List Value} {ts : List Tb} {k : Nat} (h : TbRow B w us ts k) (p : Addr) (u : Value) (hp : p.block < B) : TbRow B (w.setCell p u) us ts k := fun j hj => by
  obtain ⟨v0, v1, a, b, c⟩ := h j hj
  exact ⟨v0, v1, a, b, c.other p u hp⟩
theorem TbRow.succ {B : Nat} {w : World} {us : List Value} {ts : List Tb} {k : Nat} {u0 u1 : Value} (h : TbRow B w us ts k) (hk : k * 2 + 1 < us.length) (ho : OwnT B w (.agg #[u0, u1]) (ts.getD k tb0).1 (ts.getD k tb0).2) : TbRow B w ((us.set (k * 2) u0).set (k * 2 + 1) u1) ts (k + 1) := by
  intro j hj
  by_cases e : j = k
  · subst e
    exact ⟨u0, u1, by rw [List.getElem?_set_ne (by omega), List.getElem?_set_self (by omega)], by rw [List.getElem?_set_self (by simpa using hk)], ho⟩
  · obtain ⟨v0, v1, a, b, c⟩ := h j (by omega)
    exact ⟨v0, v1, by rw [List.getElem?_set_ne (by omega), List.getElem?_set_ne (by omega)]; exact a, by rw [List.getElem?_set_ne (by omega), List.getElem?_set_ne (by omega)]; exact b, c⟩

set_option maxHeartbeats 2000000 in
set_option maxRecDepth 100000 in
theorem toTs_row (b off len cap : Nat) (ts : List Tb) (hl : ts.length = len) (hm : len ≤ 1048576) (hok : TabsOk ts) (w : World)
    (hc : ∀ j, j < len → ∃ u0 u1, w.cell? ⟨b, off + j * 2, none⟩ = some u0 ∧ w.cell? ⟨b, off + j * 2 + 1, none⟩ = some u1 ∧ IsTab w (.agg #[u0, u1]) (ts.getD j tb0).1 (ts.getD j tb0).2) :
    Calls Tryd.prog 6 #[.slice (some ⟨b, off, none⟩) len cap] w fun e w' => ∃ v, e = .returned v ∧ ReadsTs w' v ts ∧ Below w.heap.size w w' := by
  obtain ⟨i0, hi, hz0, hz1, hz2⟩ := info_parts infoR_Tb
  have HL := Lib.hid hl
  have HC := Lib.hid hc
  have HOK := Lib.hid hok
  clear hl hc hok
  go_enter Tryd.func6, Tryd.ntmps6
  go_wp2_with (refine wpList_make_full _ rfl _ _ 26 rfl w.heap.size 37 i0 (.agg #[.slice none 0 0, .slice none 0 0]) 2 Tryd.underlying26 hi hz0 hz1 .i64 .i64 _ _ len rfl rfl rfl rfl (by rw [hz2]; omega) (by unfold maxLen; omega) (Nat.le_refl _) ?_; intro w1 hown1 hg1)
  have hs1 : w.heap.size < w1.heap.size := (hown1.lt w.heap.size rfl).2
  go_loopw [4] (fun i wr => ∃ (k : Nat) (us : List Value), k ≤ len ∧ i = .int .i64 k ∧ wr.ownsRow w.heap.size 37 2 (.slice (some ⟨w.heap.size, 0, none⟩) len len) len us ∧ TbRow (w.heap.size + 1) wr us ts k ∧ w.heap.size < wr.heap.size ∧ Below w.heap.size w wr) (fun i _ => len - (intOf i).toNat)
  case atStart => exact ⟨0, _, Nat.zero_le _, rfl, hown1, TbRow.zero, hs1, (Below.refl _ _).grown hg1 (Nat.le_refl _) (fun k hk => by simp at hk)⟩
  case round =>
    obtain ⟨k, us, hk, rfl, hown, hrows, hsz, hnx⟩ := hrel
    have hus : us.length = len * 2 := hown.1
    have HU := Lib.hid hus
    have HO := Lib.hid hown
    have HRW := Lib.hid hrows
    have HB := Lib.hid hnx
    by_cases hlt : k < len
    · obtain ⟨u0, u1, c0, c1, ht⟩ := HC.out k hlt
      have c0' := cbelow (p := ⟨b, off + k * 2, none⟩) hnx c0
      have c1' := cbelow (p := ⟨b, off + k * 2 + 1, none⟩) hnx c1
      have HT := Lib.hid (ht.below hnx)
      have HKO := Lib.hid (HOK.out k (by have := HL.out; omega))
      have HCALL := Lib.hid (fun W (hb : Below wr.heap.size wr W) => toT_ok (.agg #[u0, u1]) _ _ W (HT.out.below hb) HKO.out)
      clear c0 c1 ht hnx hown hrows hown1 hg1 hus
      go_wp2_with fail
      refine (HCALL.out _ (Below.refl _ _)).mono ?_
      rintro e w2 ⟨u, rfl, o2, b2⟩
      obtain ⟨n1, hn1⟩ : ∃ n, (ts.getD k tb0).1.length = n := ⟨_, rfl⟩
      obtain ⟨n2, hn2⟩ : ∃ n, (ts.getD k tb0).2.length = n := ⟨_, rfl⟩
      obtain ⟨p1, p2, rfl, ⟨a1, q1, rfl, _⟩, ⟨a2, q2, rfl, _⟩⟩ := o2.reads
      rw [hn1, hn2] at o2 ⊢
      clear hn1 hn2
      have own2 : w2.ownsRow w.heap.size 37 2 (.slice (some ⟨w.heap.size, 0, none⟩) len len) len us := by
        refine ⟨HO.out.1, ?_⟩
        rcases HO.out.2 with hn | ⟨g, cap, cur, hv, hB, hg, rest⟩
        · exact .inl hn
        · exact .inr ⟨g, cap, cur, hv, hB, by rw [b2.block g (Array.getElem?_eq_some_iff.1 hg).1]; exact hg, rest⟩
      have f0 := own2.frozenAt (k * 2)
      have f1 := own2.frozenAt (k * 2 + 1)
      have d0 := own2.cellAt (k * 2) (by omega)
      have d1 := own2.cellAt (k * 2 + 1) (by omega)
      obtain ⟨y0, hy0⟩ : ∃ x, us[k * 2]? = some x := ⟨us[k * 2]'(by rw [HU.out]; omega), List.getElem?_eq_getElem _⟩
      obtain ⟨y1, hy1⟩ : ∃ x, us[k * 2 + 1]? = some x := ⟨us[k * 2 + 1]'(by rw [HU.out]; omega), List.getElem?_eq_getElem _⟩
      rw [hy0] at d0
      rw [hy1] at d1
      have HS := Lib.hid ((own2.stored (k * 2) (.slice a1 n1 q1)).1.stored (k * 2 + 1) (.slice a2 n2 q2)).1
      have HR2 := Lib.hid (TbRow.succ (k := k) (u0 := .slice a1 n1 q1) (u1 := .slice a2 n2 q2) (((HRW.out.below b2).other ⟨w.heap.size, k * 2, none⟩ (.slice a1 n1 q1) (by simp)).other ⟨w.heap.size, k * 2 + 1, none⟩ (.slice a2 n2 q2) (by simp)) (by rw [HU.out]; omega) (((o2.mono (B' := w.heap.size + 1) (by omega)).other ⟨w.heap.size, k * 2, none⟩ (.slice a1 n1 q1) (by simp)).other ⟨w.heap.size, k * 2 + 1, none⟩ (.slice a2 n2 q2) (by simp)))
      have HB2 : Hid (Below w.heap.size w w2) := Lib.hid (HB.out.trans (b2.mono (Nat.le_of_lt hsz)))
      have hs2 : w.heap.size < w2.heap.size := Nat.lt_of_lt_of_le hsz b2.size
      clear own2 o2 b2 hy0 hy1
      go_wp2_with fail
      go_roundw
      case rel => exact ⟨k + 1, _, by omega, by go_num, HS.out, HR2.out, by simpa using hs2, (HB2.out.setCell (Nat.le_refl _) _).setCell (Nat.le_refl _) _⟩
      case measure => simp [intOf]; omega
    · have hk' : k = len := by omega
      subst hk'
      have HR : Hid (ReadsTs wr (.slice (some ⟨w.heap.size, 0, none⟩) k k) ts) := Lib.hid (by
        have := HL.out
        subst this
        refine ⟨_, _, rfl, fun _ => ⟨w.heap.size, rfl, fun j hj => ?_⟩⟩
        obtain ⟨v0, v1, a, b, c⟩ := HRW.out j hj
        have d0 := HO.out.cellAt (j * 2) (by omega)
        have d1 := HO.out.cellAt (j * 2 + 1) (by omega)
        rw [a] at d0
        rw [b] at d1
        exact ⟨v0, v1, d0, d1, c.reads⟩)
      clear hown hrows hnx hown1 hg1 hus
      go_wp2_with fail
      go_ret
      exact ⟨_, rfl, HR.out, HB.out⟩
set_option maxHeartbeats 1000000 in
theorem toTs_zero (a : Option Addr) (cap : Nat) (w : World) :
    Calls Tryd.prog 6 #[.slice a 0 cap] w fun e w' => ∃ v, e = .returned v ∧ ReadsTs w' v [] ∧ Below w.heap.size w w' := by
  obtain ⟨i0, hi, hz0, hz1, hz2⟩ := info_parts infoR_Tb
  go_enter Tryd.func6, Tryd.ntmps6
  go_wp2_with (refine wpList_make_full _ rfl _ _ 26 rfl w.heap.size 37 i0 (.agg #[.slice none 0 0, .slice none 0 0]) 2 Tryd.underlying26 hi hz0 hz1 .i64 .i64 _ _ 0 rfl rfl rfl rfl (by omega) (by unfold maxLen; omega) (Nat.le_refl _) ?_; intro w1 hown1 hg1)
  have HG := Lib.hid hg1
  clear hown1 hg1
  refine wp_loop_rounds 1 ?_
  rw [rounds_succ]
  go_wp2
  go_ret
  exact ⟨_, rfl, ⟨_, _, rfl, fun h => absurd rfl h⟩, (Below.refl _ _).grown HG.out (Nat.le_refl _) (fun k hk => by simp at hk)⟩
theorem toTs_any (a : Option Addr) (len cap : Nat) (ts : List Tb) (w : World) (h : IsTabs w a len cap ts) (hm : ts.length ≤ 1048576) (hok : TabsOk ts) :
    Calls Tryd.prog 6 #[.slice a len cap] w fun e w' => ∃ v, e = .returned v ∧ ReadsTs w' v ts ∧ Below w.heap.size w w' := by
  rcases h with ⟨rfl, rfl, rfl, rfl⟩ | ⟨x, rfl, hl, hx, hz, hcell⟩
  · exact toTs_zero none 0 w
  · by_cases h0 : len = 0
    · subst h0
      have e : ts = [] := List.eq_nil_of_length_eq_zero hz
      subst e
      exact toTs_zero (some x) cap w
    · obtain ⟨b, off, spot⟩ := x
      have hspot : spot = none := by
        obtain ⟨_, _, g, _⟩ := hcell 0 (by omega)
        simpa [Addr.add] using World.cell?_spot g
      subst hspot
      refine toTs_row b off len cap ts hz (by omega) hok w fun j hj => ?_
      obtain ⟨u0, u1, g0, g1, g2⟩ := hcell j hj
      rw [addr_add] at g0 g1
      exact ⟨u0, u1, g0, g1, g2⟩

set_option maxHeartbeats 2000000 in
set_option maxRecDepth 100000 in
theorem eqTs_row (b c len cap cap2 : Nat) (ts : List Tb) (hl : ts.length = len) (hm : len ≤ 1048576) (hok : TabsOk ts) (w : World)
    (hcx : ∀ j, j < ts.length → ∃ u0 u1, w.cell? ⟨b, j * 2, none⟩ = some u0 ∧ w.cell? ⟨b, j * 2 + 1, none⟩ = some u1 ∧ ReadsT w (.agg #[u0, u1]) (ts.getD j tb0).1 (ts.getD j tb0).2)
    (hcy : ∀ j, j < ts.length → ∃ u0 u1, w.cell? ⟨c, j * 2, none⟩ = some u0 ∧ w.cell? ⟨c, j * 2 + 1, none⟩ = some u1 ∧ ReadsT w (.agg #[u0, u1]) (ts.getD j tb0).1 (ts.getD j tb0).2) :
    Calls Tryd.prog 8 #[.slice (some ⟨b, 0, none⟩) len cap, .slice (some ⟨c, 0, none⟩) len cap2] w fun e w' => e = .returned (.bool true) ∧ Below w.heap.size w w' := by
  have HL := Lib.hid hl
  have HX := Lib.hid hcx
  have HY := Lib.hid hcy
  have HOK := Lib.hid hok
  clear hl hcx hcy hok
  go_enter Tryd.func8, Tryd.ntmps8
  go_wp2_with fail
  go_loopw [5] (fun i wr => ∃ k : Nat, k ≤ len ∧ i = .int .i64 k ∧ Below w.heap.size w wr) (fun i _ => len - (intOf i).toNat)
  case atStart => exact ⟨0, Nat.zero_le _, rfl, Below.refl _ _⟩
  case round =>
    obtain ⟨k, hk, rfl, hnx⟩ := hrel
    have HB := Lib.hid hnx
    by_cases hlt : k < len
    · obtain ⟨u0, u1, c0, c1, r0⟩ := HX.out k (by have := HL.out; omega)
      obtain ⟨v0, v1, d0, d1, s0⟩ := HY.out k (by have := HL.out; omega)
      have c0' := cbelow (p := ⟨b, k * 2, none⟩) hnx c0
      have c1' := cbelow (p := ⟨b, k * 2 + 1, none⟩) hnx c1
      have d0' := cbelow (p := ⟨c, k * 2, none⟩) hnx d0
      have d1' := cbelow (p := ⟨c, k * 2 + 1, none⟩) hnx d1
      have HKO := Lib.hid (HOK.out k (by have := HL.out; omega))
      have HCALL : Hid (∀ W, Below wr.heap.size wr W → Calls Tryd.prog 18 #[.agg #[u0, u1], .agg #[v0, v1]] W fun e w' => e = .returned (.bool true) ∧ Below W.heap.size W w') := Lib.hid (fun W hb => eqT_ok _ _ _ _ W ((r0.below hnx).below hb) ((s0.below hnx).below hb) HKO.out)
      have hwr : w.heap.size ≤ wr.heap.size := hnx.size
      have hkl : (k : Int) < (len : Int) := by omega
      clear c0 c1 d0 d1 r0 s0 hnx
      go_wp2_with fail
      go_still_tail 8, (by kernel_rfl)
      change wpList _ _ _ _ _ wr.drew
      have HBD : Hid (Below w.heap.size w wr.drew) := Lib.hid HB.out.drew
      have HCD : Hid (Calls Tryd.prog 18 #[.agg #[u0, u1], .agg #[v0, v1]] wr.drew fun e w' => e = .returned (.bool true) ∧ Below wr.drew.heap.size wr.drew w') := Lib.hid (HCALL.out _ (Below.refl _ _).drew)
      have hwd : w.heap.size ≤ wr.drew.heap.size := hwr
      generalize wr.drew = wd at HBD HCD hwd ⊢
      go_wp2_with fail
      refine (HCD.out).mono ?_
      rintro e w2 ⟨rfl, b2⟩
      have HB2 : Hid (Below w.heap.size w w2) := Lib.hid (HBD.out.trans (b2.mono hwd))
      clear b2
      go_wp2_with fail
      go_roundw
      case rel => exact ⟨k + 1, by omega, by go_num, HB2.out⟩
      case measure => simp [intOf]; omega
    · clear hnx
      go_wp2_with fail
      go_ret
      exact ⟨rfl, HB.out⟩
set_option maxHeartbeats 1000000 in
theorem eqTs_empty (a c : Option Addr) (cap cap2 : Nat) (w : World) :
    Calls Tryd.prog 8 #[.slice a 0 cap, .slice c 0 cap2] w fun e w' => e = .returned (.bool true) ∧ Below w.heap.size w w' := by
  go_enter Tryd.func8, Tryd.ntmps8
  go_wp2
  refine wp_loop_rounds 1 ?_
  rw [rounds_succ]
  go_wp2
  go_ret
  exact ⟨rfl, Below.refl _ _⟩
theorem eqTs_any (v u : Value) (ts : List Tb) (w : World) (hv : ReadsTs w v ts) (hu : ReadsTs w u ts) (hx : ts.length ≤ 1048576) (hok : TabsOk ts) :
    Calls Tryd.prog 8 #[v, u] w fun e w' => e = .returned (.bool true) ∧ Below w.heap.size w w' := by
  obtain ⟨a, cap, rfl, ha⟩ := hv
  obtain ⟨c, cap2, rfl, hc⟩ := hu
  by_cases h0 : ts = []
  · subst h0
    exact eqTs_empty a c cap cap2 w
  · obtain ⟨b1, rfl, c1⟩ := ha h0
    obtain ⟨b2, rfl, c2⟩ := hc h0
    exact eqTs_row b1 b2 ts.length cap cap2 ts rfl hx hok w c1 c2
end Go.Proofs.YtnjhkmoinlikiaaDoor
