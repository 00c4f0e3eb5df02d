/-
  Contracts of the laws' own helpers over tables: their size, their copy, and that a table equals its copy.
-/
import Derived.Test.YtbclmafplaipaaaDoorTabA
namespace Go.Proofs.YtbclmafplaipaaaDoor
open Go Go.RowKit
set_option linter.unusedVariables false

/-- A table that came in: its two slices. -/
structure IsTab (w : World) (v : Value) (S : List Int) (R : List (List Int)) : Prop where
  ex : ∃ a len cap z b m c2, v = .agg #[.slice a len cap, .slice b m c2] ∧ IsRow .i16 w a len cap z ∧ z.take len = S ∧ IsRows w b m c2 R
theorem IsTab.below {w w' : World} {v : Value} {S : List Int} {R : List (List Int)} (h : IsTab w v S R) (hb : Below w.heap.size w w') : IsTab w' v S R := by
  obtain ⟨a, len, cap, z, b, m, c2, rfl, h1, h2, h3⟩ := h.ex
  exact ⟨a, len, cap, z, b, m, c2, rfl, h1.below hb, h2, h3.below hb⟩

/-- A table of the call's own. -/
def OwnT (B : Nat) (w : World) (v : Value) (S : List Int) (R : List (List Int)) : Prop :=
  ∃ (u1 u2 : Value) (B2 : Nat), v = .agg #[u1, u2] ∧ OwnH B w u1 S ∧ OwnM B2 w u2 R ∧ B ≤ B2 ∧ ∀ p, u1.ownBlock = some p → p < B2
theorem OwnT.below {B : Nat} {w w' : World} {v : Value} {S : List Int} {R : List (List Int)} (h : OwnT B w v S R) (hb : Below w.heap.size w w') : OwnT B w' v S R := by
  obtain ⟨u1, u2, B2, rfl, h1, h2, h3, h4⟩ := h
  exact ⟨u1, u2, B2, rfl, h1.below hb, h2.below hb, h3, h4⟩
theorem OwnT.mono {B B' : Nat} {w : World} {v : Value} {S : List Int} {R : List (List Int)} (h : OwnT B w v S R) (hB : B' ≤ B) : OwnT B' w v S R := by
  obtain ⟨u1, u2, B2, rfl, h1, h2, h3, h4⟩ := h
  exact ⟨u1, u2, B2, rfl, h1.mono hB, h2, by omega, h4⟩
/-- A table reads as steps and rows of prices. -/
def ReadsT (w : World) (v : Value) (S : List Int) (R : List (List Int)) : Prop := ∃ u1 u2, v = .agg #[u1, u2] ∧ ReadsH w u1 S ∧ ReadsM w u2 R
theorem ReadsT.below {w w' : World} {v : Value} {S : List Int} {R : List (List Int)} (h : ReadsT w v S R) (hb : Below w.heap.size w w') : ReadsT w' v S R := by
  obtain ⟨u1, u2, rfl, h1, h2⟩ := h
  exact ⟨u1, u2, rfl, h1.below hb, h2.below hb⟩
theorem OwnT.reads {B : Nat} {w : World} {v : Value} {S : List Int} {R : List (List Int)} (h : OwnT B w v S R) : ReadsT w v S R := by
  obtain ⟨u1, u2, B2, rfl, h1, h2, h3, h4⟩ := h
  exact ⟨u1, u2, rfl, h1.reads, h2.reads⟩

/-- What is left of l when a table has been taken off. -/
def szT (l : Int) (S : List Int) (R : List (List Int)) : Int := if 0 ≤ l - S.length then szM (l - S.length) R else -1
theorem szT_le {l : Int} {S : List Int} {R : List (List Int)} (h : 0 ≤ szT l S R) : (S.length : Int) ≤ l ∧ (R.length : Int) ≤ l ∧ ∀ j, j < R.length → ((R.getD j []).length : Int) ≤ l := by
  unfold szT at h
  split at h
  · unfold szM at h
    split at h
    · refine ⟨by omega, by omega, fun j hj => ?_⟩
      have := row_le_tot R j hj
      omega
    · omega
  · omega

set_option maxHeartbeats 2000000 in
set_option maxRecDepth 100000 in
theorem eqM_row (b c len cap cap2 : Nat) (R : List (List Int)) (hl : R.length = len) (hm : len ≤ 1048576) (hr : ∀ j, j < len → (R.getD j []).length ≤ 1048576) (w : World)
    (hcx : ∀ j, j < R.length → ∃ u, w.cell? ⟨b, j, none⟩ = some u ∧ ReadsH w u (R.getD j [])) (hcy : ∀ j, j < R.length → ∃ u, w.cell? ⟨c, j, none⟩ = some u ∧ ReadsH w u (R.getD j [])) :
    Calls Tryd.prog 74 #[.slice (some ⟨b, 0, none⟩) len cap, .slice (some ⟨c, 0, none⟩) len cap2] w fun e w' => e = .returned (.bool true) ∧ Below w.heap.size w w' := by
  have HL := Lib.hid hl
  have HX := Lib.hid hcx
  have HY := Lib.hid hcy
  have HR := Lib.hid hr
  clear hl hcx hcy hr
  go_enter Tryd.func74, Tryd.ntmps74
  go_wp2_with fail
  go_loopw [5] (fun i wr => ∃ k : Nat, k ≤ len ∧ i = .int .i64 k ∧ Below w.heap.size w wr) (fun i _ => len - (intOf i).toNat)
  case atStart => exact ⟨0, Nat.zero_le _, rfl, Below.refl _ _⟩
  case round =>
    obtain ⟨k, hk, rfl, hnx⟩ := hrel
    have HB := Lib.hid hnx
    by_cases hlt : k < len
    · obtain ⟨u, c0, r0⟩ := HX.out k (by have := HL.out; omega)
      obtain ⟨v, d0, s0⟩ := HY.out k (by have := HL.out; omega)
      have c0' : wr.cell? ⟨b, k, none⟩ = some u := by rw [hnx.cell (p := ⟨b, k, none⟩) (World.block_lt_of_cell? w _ c0)]; exact c0
      have d0' : wr.cell? ⟨c, k, none⟩ = some v := by rw [hnx.cell (p := ⟨c, k, none⟩) (World.block_lt_of_cell? w _ d0)]; exact d0
      have r1 := r0.below hnx
      have s1 := s0.below hnx
      obtain ⟨ua, uc, rfl, ru⟩ := r1
      obtain ⟨va, vc, rfl, rv⟩ := s1
      have HU : Hid (ReadsH wr (.slice ua (R.getD k []).length uc) (R.getD k [])) := Lib.hid ⟨ua, uc, rfl, ru⟩
      have HV : Hid (ReadsH wr (.slice va (R.getD k []).length vc) (R.getD k [])) := Lib.hid ⟨va, vc, rfl, rv⟩
      have HRK := Lib.hid (HR.out k hlt)
      have hwr : w.heap.size ≤ wr.heap.size := hnx.size
      have hkl : (k : Int) < (len : Int) := by omega
      obtain ⟨xs, hxs⟩ : ∃ xs, R.getD k [] = xs := ⟨_, rfl⟩
      rw [hxs] at HU HV HRK c0' d0'
      clear c0 d0 r0 s0 ru rv hnx hxs
      go_wp2_with fail
      go_still_tail 8, (by kernel_rfl)
      change wpList _ _ _ _ _ wr.drew
      have HBD : Hid (Below w.heap.size w wr.drew) := Lib.hid HB.out.drew
      have HUD : Hid (ReadsH wr.drew (.slice ua xs.length uc) xs) := Lib.hid (HU.out.below (Below.refl _ _).drew)
      have HVD : Hid (ReadsH wr.drew (.slice va xs.length vc) xs) := Lib.hid (HV.out.below (Below.refl _ _).drew)
      have hwd : w.heap.size ≤ wr.drew.heap.size := hwr
      generalize wr.drew = wd at HBD HUD HVD hwd ⊢
      go_wp2_with fail
      refine (eqH_any _ _ xs xs _ HUD.out HVD.out HRK.out HRK.out).mono ?_
      rintro e w2 ⟨rfl, b2⟩
      rw [eqB_true rfl]
      have HB2 : Hid (Below w.heap.size w w2) := Lib.hid (HBD.out.trans (b2.mono hwd))
      clear b2
      go_wp2_with fail
      go_roundw
      case rel => exact ⟨k + 1, by omega, by go_num, HB2.out⟩
      case measure => simp [intOf]; omega
    · clear hnx
      go_wp2_with fail
      go_ret
      exact ⟨rfl, HB.out⟩

set_option maxHeartbeats 1000000 in
theorem eqM_empty (a c : Option Addr) (cap cap2 : Nat) (w : World) :
    Calls Tryd.prog 74 #[.slice a 0 cap, .slice c 0 cap2] w fun e w' => e = .returned (.bool true) ∧ Below w.heap.size w w' := by
  go_enter Tryd.func74, Tryd.ntmps74
  go_wp2
  refine wp_loop_rounds 1 ?_
  rw [rounds_succ]
  go_wp2
  go_ret
  exact ⟨rfl, Below.refl _ _⟩

/-- eqInt16SS on two slices that read as the same rows. -/
theorem eqM_any (v u : Value) (R : List (List Int)) (w : World) (hv : ReadsM w v R) (hu : ReadsM w u R) (hx : R.length ≤ 1048576) (hr : ∀ j, j < R.length → (R.getD j []).length ≤ 1048576) :
    Calls Tryd.prog 74 #[v, u] w fun e w' => e = .returned (.bool true) ∧ Below w.heap.size w w' := by
  obtain ⟨a, cap, rfl, ha⟩ := hv
  obtain ⟨c, cap2, rfl, hc⟩ := hu
  by_cases h0 : R = []
  · subst h0
    exact eqM_empty a c cap cap2 w
  · obtain ⟨b1, rfl, c1⟩ := ha h0
    obtain ⟨b2, rfl, c2⟩ := hc h0
    exact eqM_row b1 b2 R.length cap cap2 R rfl hx hr w c1 c2

set_option maxHeartbeats 2000000 in
set_option maxRecDepth 100000 in
/-- eqTable on two tables that read the same. -/
theorem eqT_any (v u : Value) (S : List Int) (R : List (List Int)) (w : World) (hv : ReadsT w v S R) (hu : ReadsT w u S R) (hs : S.length ≤ 1048576) (hx : R.length ≤ 1048576) (hr : ∀ j, j < R.length → (R.getD j []).length ≤ 1048576) :
    Calls Tryd.prog 23 #[v, u] w fun e w' => e = .returned (.bool true) ∧ Below w.heap.size w w' := by
  obtain ⟨v1, v2, rfl, hv1, hv2⟩ := hv
  obtain ⟨u1, u2, rfl, hu1, hu2⟩ := hu
  have H1 := Lib.hid hv1
  have H2 := Lib.hid hv2
  have H3 := Lib.hid hu1
  have H4 := Lib.hid hu2
  have HS := Lib.hid hs
  have HX := Lib.hid hx
  have HR := Lib.hid hr
  clear hv1 hv2 hu1 hu2 hs hx hr
  go_enter Tryd.func23, Tryd.ntmps23
  go_wp2_with fail
  refine (eqH_any _ _ S S _ (H1.out.below (by repeat (first | exact Below.refl _ _ | refine Below.setCell ?_ (by first | (simp; done) | (simp; omega)) _ | refine Below.alloc ?_ (by first | (simp; done) | (simp; omega) | omega) _))) (H3.out.below (by repeat (first | exact Below.refl _ _ | refine Below.setCell ?_ (by first | (simp; done) | (simp; omega)) _ | refine Below.alloc ?_ (by first | (simp; done) | (simp; omega) | omega) _))) HS.out HS.out).mono ?_
  rintro e w2 ⟨rfl, b2⟩
  rw [eqB_true rfl]
  have q0 := ((Blk2.new (n := w.heap.size) (by simp) _ _ _).alloc _).below b2
  have q1 := ((Blk2.new (n := w.heap.size + 1) (by simp) _ _ _)).below b2
  have c2 : Below w.heap.size w w2 := Below.trans (by repeat (first | exact Below.refl _ _ | refine Below.setCell ?_ (by first | (simp; done) | (simp; omega)) _ | refine Below.alloc ?_ (by first | (simp; done) | (simp; omega) | omega) _)) (b2.mono (by simp; omega))
  have z1 := q0.at1
  have y1 := q1.at1
  have HC := Lib.hid c2
  clear q0 q1 c2 b2
  go_wp2_with fail
  refine (eqM_any _ _ R _ (H2.out.below HC.out) (H4.out.below HC.out) HX.out HR.out).mono ?_
  rintro e w3 ⟨rfl, b3⟩
  go_wp2_with fail
  go_ret
  exact ⟨rfl, blink HC.out b3⟩
end Go.Proofs.YtbclmafplaipaaaDoor
