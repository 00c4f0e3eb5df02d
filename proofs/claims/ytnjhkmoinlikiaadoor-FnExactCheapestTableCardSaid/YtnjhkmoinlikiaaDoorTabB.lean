/-
  Contracts of the laws' own helpers over tables: their size, their copy, and that a table equals its copy.
-/
import Derived.Test.YtnjhkmoinlikiaaDoorTabA
namespace Go.Proofs.YtnjhkmoinlikiaaDoor
open Go Go.RowKit
set_option linter.unusedVariables false

/-- A table that came in: its two slices. -/
structure IsTab (w : World) (v : Value) (S : List Int) (R : List (List Int)) : Prop where
  ex : ∃ a len cap z b m c2, v = .agg #[.slice a len cap, .slice b m c2] ∧ IsRow .i16 w a len cap z ∧ z.take len = S ∧ IsRows w b m c2 R
theorem IsTab.below {w w' : World} {v : Value} {S : List Int} {R : List (List Int)} (h : IsTab w v S R) (hb : Below w.heap.size w w') : IsTab w' v S R := by
  obtain ⟨a, len, cap, z, b, m, c2, rfl, h1, h2, h3⟩ := h.ex
  exact ⟨a, len, cap, z, b, m, c2, rfl, h1.below hb, h2, h3.below hb⟩

/-- A table of the call's own. -/
def OwnT (B : Nat) (w : World) (v : Value) (S : List Int) (R : List (List Int)) : Prop :=
  ∃ (u1 u2 : Value) (B2 : Nat), v = .agg #[u1, u2] ∧ OwnH B w u1 S ∧ OwnM B2 w u2 R ∧ B ≤ B2 ∧ ∀ p, u1.ownBlock = some p → p < B2
theorem OwnT.below {B : Nat} {w w' : World} {v : Value} {S : List Int} {R : List (List Int)} (h : OwnT B w v S R) (hb : Below w.heap.size w w') : OwnT B w' v S R := by
  obtain ⟨u1, u2, B2, rfl, h1, h2, h3, h4⟩ := h
  exact ⟨u1, u2, B2, rfl, h1.below hb, h2.below hb, h3, h4⟩
theorem OwnT.mono {B B' : Nat} {w : World} {v : Value} {S : List Int} {R : List (List Int)} (h : OwnT B w v S R) (hB : B' ≤ B) : OwnT B' w v S R := by
  obtain ⟨u1, u2, B2, rfl, h1, h2, h3, h4⟩ := h
  exact ⟨u1, u2, B2, rfl, h1.mono hB, h2, by omega, h4⟩
/-- A table reads as steps and rows of prices. -/
def ReadsT (w : World) (v : Value) (S : List Int) (R : List (List Int)) : Prop := ∃ u1 u2, v = .agg #[u1, u2] ∧ ReadsH w u1 S ∧ ReadsM w u2 R
theorem ReadsT.below {w w' : World} {v : Value} {S : List Int} {R : List (List Int)} (h : ReadsT w v S R) (hb : Below w.heap.size w w') : ReadsT w' v S R := by
  obtain ⟨u1, u2, rfl, h1, h2⟩ := h
  exact ⟨u1, u2, rfl, h1.below hb, h2.below hb⟩
theorem OwnT.reads {B : Nat} {w : World} {v : Value} {S : List Int} {R : List (List Int)} (h : OwnT B w v S R) : ReadsT w v S R := by
  obtain ⟨u1, u2, B2, rfl, h1, h2, h3, h4⟩ := h
  exact ⟨u1, u2, rfl, h1.reads, h2.reads⟩

/-- What is left of l when a table has been taken off. -/
def szT (l : Int) (S : List Int) (R : List (List Int)) : Int := if 0 ≤ l - S.length then szM (l - S.length) R else -1
theorem szT_le {l : Int} {S : List Int} {R : List (List Int)} (h : 0 ≤ szT l S R) : (S.length : Int) ≤ l ∧ (R.length : Int) ≤ l ∧ ∀ j, j < R.length → ((R.getD j []).length : Int) ≤ l := by
  unfold szT at h
  split at h
  · unfold szM at h
    split at h
    · refine ⟨by omega, by omega, fun j hj => ?_⟩
      have := row_le_tot R j hj
      omega
    · omega
  · omega

set_option maxHeartbeats 2000000 in
set_option maxRecDepth 100000 in
theorem szT_any (v : Value) (S : List Int) (R : List (List Int)) (l : Int) (h0 : 0 ≤ l) (h1 : l ≤ 1048576) (w : World) (h : IsTab w v S R) :
    Calls Tryd.prog 9 #[v, .int .i64 l] w fun e w' => e = .returned (.int .i64 (szT l S R)) ∧ Below w.heap.size w w' := by
  obtain ⟨a, len, cap, z, b, m, c2, rfl, hr, hS, hR⟩ := h.ex
  have hlen : S.length = len := by rw [← hS]; exact hr.len_le
  have HL := Lib.hid hlen
  have HO := Lib.hid hr.len_ok
  have HR := Lib.hid hR
  clear hr hS hR h hlen
  by_cases hf : 0 ≤ l - (len : Int)
  · rw [show szT l S R = szM (l - len) R by rw [szT, HL.out, if_pos hf]]
    have t0 : decide (l - (len : Int) < 0) = false := by simp; omega
    go_enter Tryd.func9, Tryd.ntmps9
    go_wp2_with fail
    refine (szH_any a len cap l h0 h1 HO.out _).mono ?_
    rintro e w1 ⟨rfl, rfl⟩
    rw [show szH l len = l - len from if_pos (by omega)]
    by_cases hg : 0 ≤ szM (l - len) R
    · have t1 : decide (szM (l - len) R < 0) = false := by simp; omega
      go_wp2_with fail
      refine (szM_any b m c2 R _ hf (by omega) _ (HR.out.below (by repeat (first | exact Below.refl _ _ | refine Below.setCell ?_ (by first | (simp; done) | (simp; omega)) _ | refine Below.alloc ?_ (by first | (simp; done) | (simp; omega) | omega) _)))).mono ?_
      rintro e w2 ⟨rfl, b2⟩
      go_wp2_with fail
      go_ret
      exact ⟨rfl, ((Below.refl _ _).alloc (Nat.le_refl _) _).trans (b2.mono (by simp))⟩
    · have t1 : decide (szM (l - len) R < 0) = true := by simp; omega
      have hm1 : szM (l - len) R = -1 := by unfold szM at hg ⊢; split <;> simp_all <;> omega
      have HM1 := Lib.hid hm1
      clear hm1
      go_wp2_with fail
      refine (szM_any b m c2 R _ hf (by omega) _ (HR.out.below (by repeat (first | exact Below.refl _ _ | refine Below.setCell ?_ (by first | (simp; done) | (simp; omega)) _ | refine Below.alloc ?_ (by first | (simp; done) | (simp; omega) | omega) _)))).mono ?_
      rintro e w2 ⟨rfl, b2⟩
      go_wp2_with fail
      go_ret
      exact ⟨ret_int HM1.out.symm, ((Below.refl _ _).alloc (Nat.le_refl _) _).trans (b2.mono (by simp))⟩
  · rw [show szT l S R = -1 by rw [szT, HL.out, if_neg hf]]
    go_enter Tryd.func9, Tryd.ntmps9
    go_wp2_with fail
    refine (szH_any a len cap l h0 h1 HO.out _).mono ?_
    rintro e w1 ⟨rfl, rfl⟩
    rw [show szH l len = -1 from if_neg (by omega)]
    go_wp2_with fail
    go_ret
    exact ⟨rfl, (Below.refl _ _).alloc (Nat.le_refl _) _⟩

set_option maxHeartbeats 2000000 in
set_option maxRecDepth 100000 in
theorem toT_any (v : Value) (S : List Int) (R : List (List Int)) (w : World) (h : IsTab w v S R) (hS1 : S.length ≤ 1048576) (hR1 : R.length ≤ 1048576) (hR2 : ∀ j, j < R.length → (R.getD j []).length ≤ 1048576) :
    Calls Tryd.prog 14 #[v] w fun e w' => ∃ u, e = .returned u ∧ OwnT w.heap.size w' u S R ∧ Below w.heap.size w w' := by
  obtain ⟨a, len, cap, z, b, m, c2, rfl, hr, hS, hR⟩ := h.ex
  have hlen : S.length = len := by rw [← hS]; exact hr.len_le
  have hm := hR.len_eq
  have HS := Lib.hid hS
  have HM := Lib.hid hm
  have HR := Lib.hid hR
  have HRW := Lib.hid hr
  have H1 := Lib.hid hR2
  have hle : len ≤ 1048576 := by omega
  have hme : m ≤ 1048576 := by omega
  clear hr hS hR h hlen hm hR2 hS1 hR1
  go_enter Tryd.func14, Tryd.ntmps14
  go_wp2_with fail
  refine (toH_as a len cap z _ HS _ (HRW.out.below (by repeat (first | exact Below.refl _ _ | refine Below.setCell ?_ (by first | (simp; done) | (simp; omega)) _ | refine Below.alloc ?_ (by first | (simp; done) | (simp; omega) | omega) _))) hle).mono ?_
  rintro e w2 ⟨rfl, o1, b1⟩
  have q0 := (((Blk2.new (n := w.heap.size) (by simp) _ _ _).alloc _).alloc _).below b1
  have q1 := (((Blk2.new (n := w.heap.size + 1) (by simp) _ _ _).alloc _)).below b1
  have q2 := (Blk2.new (n := w.heap.size + 1 + 1) (by simp) _ _ _).below b1
  have c1 : Below w.heap.size w w2 := Below.trans (by repeat (first | exact Below.refl _ _ | refine Below.setCell ?_ (by first | (simp; done) | (simp; omega)) _ | refine Below.alloc ?_ (by first | (simp; done) | (simp; omega) | omega) _)) (b1.mono (by simp; omega))
  have z1 := q0.at1
  have y0 := q2.at0
  have y1 := q2.at1
  have f0 := q2.frozen 0
  have HQ1 := Lib.hid q1
  have HQ2 := Lib.hid q2
  have HC1 := Lib.hid c1
  have hsz : w.heap.size + 1 + 1 + 1 ≤ w2.heap.size := by have := b1.size; simp at this; omega
  simp only [World.size_alloc] at o1
  have hz1 : w.heap.size + 1 + 1 + 1 < w2.heap.size := (o1.block _ rfl).2
  have HO1 := Lib.hid o1
  clear q0 q1 q2 c1 o1 b1
  go_wp2_with fail
  refine (toM_any b m c2 R _ (HR.out.below (HC1.out.setCell (by simp; omega) _)) hme (by have h := H1.out; have h2 := HM.out; intro j hj; exact h j (by omega))).mono ?_
  rintro e w3 ⟨rfl, o2, b2⟩
  have q1 := (HQ1.out.other ⟨w.heap.size + 1 + 1, 0, none⟩ _ (by simp)).below b2
  have q2 := (HQ2.out.set0 _).below b2
  have c2' : Below w.heap.size w w3 := Below.trans (HC1.out.setCell (p := ⟨w.heap.size + 1 + 1, 0, none⟩) (by simp; omega) _) (b2.mono (by simp; omega))
  have z0 := q1.at0
  have z1' := q1.at1
  have g0 := q1.frozen 0
  have g1 := q1.frozen 1
  have x0 := q2.at0
  have x1 := q2.at1
  have f1 := q2.frozen 1
  have HQ := Lib.hid q1
  have HC := Lib.hid c2'
  have ho1 := (HO1.out.other ⟨w.heap.size + 1 + 1, 0, none⟩ _ (by simp)).below b2
  simp only [World.size_setCell] at o2
  have hsz3 : w.heap.size + 1 + 1 + 1 < w3.heap.size := by have := b2.size; simp at this; omega
  have HO := Lib.hid ho1
  have HP := Lib.hid o2
  clear q1 q2 c2' ho1 o2 b2 z1 y0 y1 f0
  go_wp2_with fail
  have R1 := (((HQ.out.other ⟨w.heap.size + 1 + 1, 1, none⟩ (.slice (some ⟨w2.heap.size, 0, none⟩) m m) (by simp)).set0 (.slice (some ⟨w.heap.size + 1 + 1 + 1, 0, none⟩) len len)).set1 (.slice (some ⟨w2.heap.size, 0, none⟩) m m))
  have e0 := R1.at0
  have e1 := R1.at1
  refine bodyPost_ret (v := .agg #[.slice (some ⟨w.heap.size + 1 + 1 + 1, 0, none⟩) len len, .slice (some ⟨w2.heap.size, 0, none⟩) m m]) (by simp [results, Tryd.results14, go_sem, e0, e1]) rfl ⟨_, rfl, ⟨_, _, w2.heap.size, rfl, ?_, ?_, by omega, fun p hp => by simp [Value.ownBlock] at hp; omega⟩, ((HC.out.setCell (by simp; omega) _).setCell (by simp) _).setCell (by simp) _⟩
  · exact (((HO.out.other _ _ (by first | (simp; done) | (simp; omega))).other _ _ (by first | (simp; done) | (simp; omega))).other _ _ (by first | (simp; done) | (simp; omega))).mono (by omega)
  · exact (((HP.out.other _ _ (by first | (simp; done) | (simp; omega))).other _ _ (by first | (simp; done) | (simp; omega))).other _ _ (by first | (simp; done) | (simp; omega)))

set_option maxHeartbeats 2000000 in
set_option maxRecDepth 100000 in
theorem eqM_row (b c len cap cap2 : Nat) (R : List (List Int)) (hl : R.length = len) (hm : len ≤ 1048576) (hr : ∀ j, j < len → (R.getD j []).length ≤ 1048576) (w : World)
    (hcx : ∀ j, j < R.length → ∃ u, w.cell? ⟨b, j, none⟩ = some u ∧ ReadsH w u (R.getD j [])) (hcy : ∀ j, j < R.length → ∃ u, w.cell? ⟨c, j, none⟩ = some u ∧ ReadsH w u (R.getD j [])) :
    Calls Tryd.prog 29 #[.slice (some ⟨b, 0, none⟩) len cap, .slice (some ⟨c, 0, none⟩) len cap2] w fun e w' => e = .returned (.bool true) ∧ Below w.heap.size w w' := by
  have HL := Lib.hid hl
  have HX := Lib.hid hcx
  have HY := Lib.hid hcy
  have HR := Lib.hid hr
  clear hl hcx hcy hr
  go_enter Tryd.func29, Tryd.ntmps29
  go_wp2_with fail
  go_loopw [5] (fun i wr => ∃ k : Nat, k ≤ len ∧ i = .int .i64 k ∧ Below w.heap.size w wr) (fun i _ => len - (intOf i).toNat)
  case atStart => exact ⟨0, Nat.zero_le _, rfl, Below.refl _ _⟩
  case round =>
    obtain ⟨k, hk, rfl, hnx⟩ := hrel
    have HB := Lib.hid hnx
    by_cases hlt : k < len
    · obtain ⟨u, c0, r0⟩ := HX.out k (by have := HL.out; omega)
      obtain ⟨v, d0, s0⟩ := HY.out k (by have := HL.out; omega)
      have c0' : wr.cell? ⟨b, k, none⟩ = some u := by rw [hnx.cell (p := ⟨b, k, none⟩) (World.block_lt_of_cell? w _ c0)]; exact c0
      have d0' : wr.cell? ⟨c, k, none⟩ = some v := by rw [hnx.cell (p := ⟨c, k, none⟩) (World.block_lt_of_cell? w _ d0)]; exact d0
      have r1 := r0.below hnx
      have s1 := s0.below hnx
      obtain ⟨ua, uc, rfl, ru⟩ := r1
      obtain ⟨va, vc, rfl, rv⟩ := s1
      have HU : Hid (ReadsH wr (.slice ua (R.getD k []).length uc) (R.getD k [])) := Lib.hid ⟨ua, uc, rfl, ru⟩
      have HV : Hid (ReadsH wr (.slice va (R.getD k []).length vc) (R.getD k [])) := Lib.hid ⟨va, vc, rfl, rv⟩
      have HRK := Lib.hid (HR.out k hlt)
      have hwr : w.heap.size ≤ wr.heap.size := hnx.size
      have hkl : (k : Int) < (len : Int) := by omega
      obtain ⟨xs, hxs⟩ : ∃ xs, R.getD k [] = xs := ⟨_, rfl⟩
      rw [hxs] at HU HV HRK c0' d0'
      clear c0 d0 r0 s0 ru rv hnx hxs
      go_wp2_with fail
      go_still_tail 8, (by kernel_rfl)
      change wpList _ _ _ _ _ wr.drew
      have HBD : Hid (Below w.heap.size w wr.drew) := Lib.hid HB.out.drew
      have HUD : Hid (ReadsH wr.drew (.slice ua xs.length uc) xs) := Lib.hid (HU.out.below (Below.refl _ _).drew)
      have HVD : Hid (ReadsH wr.drew (.slice va xs.length vc) xs) := Lib.hid (HV.out.below (Below.refl _ _).drew)
      have hwd : w.heap.size ≤ wr.drew.heap.size := hwr
      generalize wr.drew = wd at HBD HUD HVD hwd ⊢
      go_wp2_with fail
      refine (eqH_any _ _ xs xs _ HUD.out HVD.out HRK.out HRK.out).mono ?_
      rintro e w2 ⟨rfl, b2⟩
      rw [eqB_true rfl]
      have HB2 : Hid (Below w.heap.size w w2) := Lib.hid (HBD.out.trans (b2.mono hwd))
      clear b2
      go_wp2_with fail
      go_roundw
      case rel => exact ⟨k + 1, by omega, by go_num, HB2.out⟩
      case measure => simp [intOf]; omega
    · clear hnx
      go_wp2_with fail
      go_ret
      exact ⟨rfl, HB.out⟩

set_option maxHeartbeats 1000000 in
theorem eqM_empty (a c : Option Addr) (cap cap2 : Nat) (w : World) :
    Calls Tryd.prog 29 #[.slice a 0 cap, .slice c 0 cap2] w fun e w' => e = .returned (.bool true) ∧ Below w.heap.size w w' := by
  go_enter Tryd.func29, Tryd.ntmps29
  go_wp2
  refine wp_loop_rounds 1 ?_
  rw [rounds_succ]
  go_wp2
  go_ret
  exact ⟨rfl, Below.refl _ _⟩

/-- eqInt16SS on two slices that read as the same rows. -/
theorem eqM_any (v u : Value) (R : List (List Int)) (w : World) (hv : ReadsM w v R) (hu : ReadsM w u R) (hx : R.length ≤ 1048576) (hr : ∀ j, j < R.length → (R.getD j []).length ≤ 1048576) :
    Calls Tryd.prog 29 #[v, u] w fun e w' => e = .returned (.bool true) ∧ Below w.heap.size w w' := by
  obtain ⟨a, cap, rfl, ha⟩ := hv
  obtain ⟨c, cap2, rfl, hc⟩ := hu
  by_cases h0 : R = []
  · subst h0
    exact eqM_empty a c cap cap2 w
  · obtain ⟨b1, rfl, c1⟩ := ha h0
    obtain ⟨b2, rfl, c2⟩ := hc h0
    exact eqM_row b1 b2 R.length cap cap2 R rfl hx hr w c1 c2

set_option maxHeartbeats 2000000 in
set_option maxRecDepth 100000 in
/-- eqTable on two tables that read the same. -/
theorem eqT_any (v u : Value) (S : List Int) (R : List (List Int)) (w : World) (hv : ReadsT w v S R) (hu : ReadsT w u S R) (hs : S.length ≤ 1048576) (hx : R.length ≤ 1048576) (hr : ∀ j, j < R.length → (R.getD j []).length ≤ 1048576) :
    Calls Tryd.prog 18 #[v, u] w fun e w' => e = .returned (.bool true) ∧ Below w.heap.size w w' := by
  obtain ⟨v1, v2, rfl, hv1, hv2⟩ := hv
  obtain ⟨u1, u2, rfl, hu1, hu2⟩ := hu
  have H1 := Lib.hid hv1
  have H2 := Lib.hid hv2
  have H3 := Lib.hid hu1
  have H4 := Lib.hid hu2
  have HS := Lib.hid hs
  have HX := Lib.hid hx
  have HR := Lib.hid hr
  clear hv1 hv2 hu1 hu2 hs hx hr
  go_enter Tryd.func18, Tryd.ntmps18
  go_wp2_with fail
  refine (eqH_any _ _ S S _ (H1.out.below (by repeat (first | exact Below.refl _ _ | refine Below.setCell ?_ (by first | (simp; done) | (simp; omega)) _ | refine Below.alloc ?_ (by first | (simp; done) | (simp; omega) | omega) _))) (H3.out.below (by repeat (first | exact Below.refl _ _ | refine Below.setCell ?_ (by first | (simp; done) | (simp; omega)) _ | refine Below.alloc ?_ (by first | (simp; done) | (simp; omega) | omega) _))) HS.out HS.out).mono ?_
  rintro e w2 ⟨rfl, b2⟩
  rw [eqB_true rfl]
  have q0 := ((Blk2.new (n := w.heap.size) (by simp) _ _ _).alloc _).below b2
  have q1 := ((Blk2.new (n := w.heap.size + 1) (by simp) _ _ _)).below b2
  have c2 : Below w.heap.size w w2 := Below.trans (by repeat (first | exact Below.refl _ _ | refine Below.setCell ?_ (by first | (simp; done) | (simp; omega)) _ | refine Below.alloc ?_ (by first | (simp; done) | (simp; omega) | omega) _)) (b2.mono (by simp; omega))
  have z1 := q0.at1
  have y1 := q1.at1
  have HC := Lib.hid c2
  clear q0 q1 c2 b2
  go_wp2_with fail
  refine (eqM_any _ _ R _ (H2.out.below HC.out) (H4.out.below HC.out) HX.out HR.out).mono ?_
  rintro e w3 ⟨rfl, b3⟩
  go_wp2_with fail
  go_ret
  exact ⟨rfl, blink HC.out b3⟩
end Go.Proofs.YtnjhkmoinlikiaaDoor
