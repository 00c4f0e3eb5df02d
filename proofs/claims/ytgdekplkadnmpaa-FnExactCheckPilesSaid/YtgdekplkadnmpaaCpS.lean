/-
  The model's CheckPiles.
-/
import Derived.Test.YtgdekplkadnmpaaCpP
import Derived.Test.YtgdekplkadnmpaaFits2
import Derived.Test.YtgdekplkadnmpaaToJ
import Derived.BigQuiet
import Derived.Deep.RegionHeld3
namespace Go.Proofs.Ytgdekplkadnmpaa
open Go Go.RowKit
set_option linter.unusedVariables false

/-- The lexical walk for a region that is written out, at any class of worlds. -/
theorem cp_region_class (C : World → Prop) {P : Program} {id : Nat} {Q : Exit → Act → World → Prop} {a : Act} {w : World} {l : List Oper} (hm : P.follows .mixedOrders = true) (hB : Region.lexB .any l.toArray = true) (hC : C w.drew)
    (h : wpQuiet P l.toArray C (fun a' => ∀ w', C w' → Q .normal a' w') l a) : (Code.region id l.toArray true).wp P Q a w :=
  wp_region_quiet (C := C) hm hB hC (by simpa using h)
macro "cq_mv" : tactic => `(tactic| first | go_big_quiet_skip | (go_big_quiet_want; go_big_quiet_op; first | go_big_quiet_on | (refine ⟨_, fun _ _ => rfl, ?_⟩; go_big_quiet_on) | (refine ⟨_, by intros; rfl, ?_⟩; go_big_quiet_on)))
macro "cq_ld " v:term:max : tactic => `(tactic| (go_big_quiet_want; refine ⟨$v, fun V hV => ?_, ?_⟩; (focus (obtain ⟨⟨z1, z2, z3, z4, z5, z6, z7, z8⟩, hb⟩ := hV; go_simp)); simp only [Act.put, List.setIfInBounds_toArray, List.set_cons_zero, List.set_cons_succ]; go_big_quiet_on))

set_option maxHeartbeats 8000000 in
set_option maxRecDepth 100000 in
theorem spld_any (b g len cap capq k : Nat) (ps : List Tri) (qs : List Int) (hl : ps.length = len) (hql : qs.length = len) (h10 : len ≤ 10) (hk : k < len) (w : World) (hc : CellsB w b ps) (hq : Cells w g qs) :
    Calls Try.prog 13 #[.slice (some ⟨b, 0, none⟩) len cap, .slice (some ⟨g, 0, none⟩) (k + 1) capq] w fun e w' => e = .returned (.bool (pldB ps qs k)) ∧ Below w.heap.size w w' := by
  have HQ := Lib.hid hq
  have HC := Lib.hid hc
  have HL := Lib.hid hl
  have HQL := Lib.hid hql
  clear hc hq hl hql
  go_enter Try.func13, Try.ntmps13
  go_wp2_with fail
  go_loopw [6] (fun i wr => ∃ m : Nat, m ≤ k ∧ i = .int .i64 m ∧ getTo ps qs k m ∧ Below w.heap.size w wr) (fun i _ => k - (intOf i).toNat)
  case atStart => exact ⟨0, Nat.zero_le _, rfl, getTo.zero ps qs k, Below.refl _ _⟩
  case round =>
    obtain ⟨m, hm, rfl, hg, hnx⟩ := hrel
    obtain ⟨wo, rfl⟩ : ∃ V, V = wr := ⟨wr, rfl⟩
    have HG := Lib.hid hg
    have HB := Lib.hid hnx
    by_cases hlt : m < k
    · have hml : (m : Int) < (k : Int) := by omega
      have cq := (HQ.out.below hnx) m (by rw [HQL.out]; omega)
      have ck := (HQ.out.below hnx) k (by rw [HQL.out]; omega)
      obtain ⟨c0, c1, c2⟩ := (HC.out.below hnx) m (by rw [HL.out]; omega)
      obtain ⟨d0, d1, d2⟩ := (HC.out.below hnx) k (by rw [HL.out]; omega)
      have HON : Hid (getsOn ps qs k m ↔ (qs.getD m 0 = qs.getD k 0 → (fitB (ps.getD m (0, 0, 0)).1 (ps.getD m (0, 0, 0)).2.1 (ps.getD m (0, 0, 0)).2.2 (ps.getD k (0, 0, 0)).1 (ps.getD k (0, 0, 0)).2.1 (ps.getD k (0, 0, 0)).2.2 || fitB (ps.getD k (0, 0, 0)).1 (ps.getD k (0, 0, 0)).2.1 (ps.getD k (0, 0, 0)).2.2 (ps.getD m (0, 0, 0)).1 (ps.getD m (0, 0, 0)).2.1 (ps.getD m (0, 0, 0)).2.2) = true)) := Lib.hid Iff.rfl
      obtain ⟨y, hy⟩ : ∃ y, qs.getD m 0 = y := ⟨_, rfl⟩
      obtain ⟨x, hx⟩ : ∃ x, qs.getD k 0 = x := ⟨_, rfl⟩
      obtain ⟨p, hp⟩ : ∃ p, ps.getD m (0, 0, 0) = p := ⟨_, rfl⟩
      obtain ⟨q, hq⟩ : ∃ q, ps.getD k (0, 0, 0) = q := ⟨_, rfl⟩
      rw [hy] at cq HON
      rw [hx] at ck HON
      rw [hp] at c0 c1 c2 HON
      rw [hq] at d0 d1 d2 HON
      obtain ⟨x0, x1, x2⟩ := p
      obtain ⟨y0, y1, y2⟩ := q
      simp only at c0 c1 c2 d0 d1 d2 HON
      have hmk : (m : Int) < (k : Int) + 1 := by omega
      have hkk : (k : Int) < (k : Int) + 1 := by omega
      have hkk2 : k < k + 1 := by omega
      have hmk2 : m < k + 1 := by omega
      have hkl2 : k < len := hk
      have hml2 : m < len := by omega
      have hkl : (k : Int) < (len : Int) := by omega
      have hmll : (m : Int) < (len : Int) := by omega
      have hm0 : (0 : Int) ≤ (m : Int) := by omega
      have hk0 : (0 : Int) ≤ (k : Int) := by omega
      have hk10 : (k : Int) ≤ 10 := by omega
      have hkw : IntKind.i64.wrap (k : Int) = (k : Int) := IntWalk.i64_in _ (by omega)
      have hbs : b < wo.heap.size := World.block_lt_of_cell? wo _ c0
      have hgs : g < wo.heap.size := World.block_lt_of_cell? wo _ cq
      clear hy hx hp hq hg hnx
      by_cases e : y = x
      rotate_left
      · have t1 : (y == x) = false := by simp [e]
        have HS := Lib.hid (HG.out.succ (HON.out.2 (fun h => absurd h e)))
        clear e
        go_wp2_with fail
        go_quiet (fail)
        have HND := Lib.hid (blink HB.out (bdrewN (w := wo) nq))
        go_wp2_with fail
        go_roundw
        case rel => exact ⟨m + 1, by omega, by go_num, HS.out, HND.out⟩
        case measure => simp [intOf]; omega
      have t1 : (y == x) = true := by simp [e]
      obtain ⟨r1, hr1⟩ : ∃ r, fitB x0 x1 x2 y0 y1 y2 = r := ⟨_, rfl⟩
      obtain ⟨r2, hr2⟩ : ∃ r, fitB y0 y1 y2 x0 x1 x2 = r := ⟨_, rfl⟩
      rw [hr1, hr2] at HON
      have HF1 := Lib.hid hr1
      have HF2 := Lib.hid hr2
      have SD : wo.drew.cell? ⟨g, m, none⟩ = some (.int .i64 y) ∧ wo.drew.cell? ⟨g, k, none⟩ = some (.int .i64 x) ∧ wo.drew.cell? ⟨b, m * 3, none⟩ = some (.int .i8 x0) ∧ wo.drew.cell? ⟨b, m * 3 + 1, none⟩ = some (.int .i8 x1) ∧ wo.drew.cell? ⟨b, m * 3 + 2, none⟩ = some (.int .i8 x2) ∧ wo.drew.cell? ⟨b, k * 3, none⟩ = some (.int .i8 y0) ∧ wo.drew.cell? ⟨b, k * 3 + 1, none⟩ = some (.int .i8 y1) ∧ wo.drew.cell? ⟨b, k * 3 + 2, none⟩ = some (.int .i8 y2) := ⟨cq, ck, c0, c1, c2, d0, d1, d2⟩
      have HE := Lib.hid e
      clear hr1 hr2 e
      cases r1 with
      | true =>
        have HS := Lib.hid (HG.out.succ (HON.out.2 (fun _ => rfl)))
        have HKEEP : Hid (∀ V V' : World, ((V.cell? ⟨g, m, none⟩ = some (.int .i64 y) ∧ V.cell? ⟨g, k, none⟩ = some (.int .i64 x) ∧ V.cell? ⟨b, m * 3, none⟩ = some (.int .i8 x0) ∧ V.cell? ⟨b, m * 3 + 1, none⟩ = some (.int .i8 x1) ∧ V.cell? ⟨b, m * 3 + 2, none⟩ = some (.int .i8 x2) ∧ V.cell? ⟨b, k * 3, none⟩ = some (.int .i8 y0) ∧ V.cell? ⟨b, k * 3 + 1, none⟩ = some (.int .i8 y1) ∧ V.cell? ⟨b, k * 3 + 2, none⟩ = some (.int .i8 y2)) ∧ Below wo.heap.size wo V) → Below V.heap.size V V' → ((V'.cell? ⟨g, m, none⟩ = some (.int .i64 y) ∧ V'.cell? ⟨g, k, none⟩ = some (.int .i64 x) ∧ V'.cell? ⟨b, m * 3, none⟩ = some (.int .i8 x0) ∧ V'.cell? ⟨b, m * 3 + 1, none⟩ = some (.int .i8 x1) ∧ V'.cell? ⟨b, m * 3 + 2, none⟩ = some (.int .i8 x2) ∧ V'.cell? ⟨b, k * 3, none⟩ = some (.int .i8 y0) ∧ V'.cell? ⟨b, k * 3 + 1, none⟩ = some (.int .i8 y1) ∧ V'.cell? ⟨b, k * 3 + 2, none⟩ = some (.int .i8 y2)) ∧ Below wo.heap.size wo V')) := Lib.hid (by
          rintro V V' ⟨⟨z1, z2, z3, z4, z5, z6, z7, z8⟩, hb⟩ h'
          have hbs2 : b < V.heap.size := Nat.lt_of_lt_of_le hbs hb.size
          have hgs2 : g < V.heap.size := Nat.lt_of_lt_of_le hgs hb.size
          exact ⟨⟨(h'.cell (p := ⟨g, m, none⟩) hgs2).trans z1, (h'.cell (p := ⟨g, k, none⟩) hgs2).trans z2, (h'.cell (p := ⟨b, m * 3, none⟩) hbs2).trans z3, (h'.cell (p := ⟨b, m * 3 + 1, none⟩) hbs2).trans z4, (h'.cell (p := ⟨b, m * 3 + 2, none⟩) hbs2).trans z5, (h'.cell (p := ⟨b, k * 3, none⟩) hbs2).trans z6, (h'.cell (p := ⟨b, k * 3 + 1, none⟩) hbs2).trans z7, (h'.cell (p := ⟨b, k * 3 + 2, none⟩) hbs2).trans z8⟩, blink hb h'⟩)
        go_wp2_with fail
        refine cp_region_class (fun V => (V.cell? ⟨g, m, none⟩ = some (.int .i64 y) ∧ V.cell? ⟨g, k, none⟩ = some (.int .i64 x) ∧ V.cell? ⟨b, m * 3, none⟩ = some (.int .i8 x0) ∧ V.cell? ⟨b, m * 3 + 1, none⟩ = some (.int .i8 x1) ∧ V.cell? ⟨b, m * 3 + 2, none⟩ = some (.int .i8 x2) ∧ V.cell? ⟨b, k * 3, none⟩ = some (.int .i8 y0) ∧ V.cell? ⟨b, k * 3 + 1, none⟩ = some (.int .i8 y1) ∧ V.cell? ⟨b, k * 3 + 2, none⟩ = some (.int .i8 y2)) ∧ Below wo.heap.size wo V) (by kernel_rfl) (by kernel_rfl) ⟨SD, (Below.refl _ _).drew⟩ ?_
        clear SD
        cq_mv
        cq_mv
        cq_mv
        cq_ld (.int .i64 y)
        cq_mv
        cq_mv
        cq_mv
        cq_ld (.int .i64 x)
        cq_mv
        cq_mv
        cq_mv
        cq_mv
        cq_mv
        cq_ld (.agg #[.int .i8 x0, .int .i8 x1, .int .i8 x2])
        cq_mv
        cq_mv
        cq_mv
        cq_ld (.agg #[.int .i8 y0, .int .i8 y1, .int .i8 y2])
        go_big_quiet_want
        rename_i K hK
        go_simp
        refine ⟨.bool true, fun V h1 h2 h3 h4 h5 h6 h7 h8 h9 => (sfit_any x0 x1 x2 y0 y1 y2 V).mono (fun e w' hh => ⟨by rw [hh.1, HF1.out], HKEEP.out V w' ⟨⟨h1, h2, h3, h4, h5, h6, h7, h8⟩, h9⟩ hh.2⟩), hK _ ?_⟩
        clear hK K
        repeat cq_mv
        refine wpQuiet_nil ?_
        rintro V ⟨_, bz⟩
        have HBZ := Lib.hid (blink HB.out bz)
        clear bz
        go_wp2_with fail
        go_roundw
        case rel => exact ⟨m + 1, by omega, by go_num, HS.out, HBZ.out⟩
        case measure => simp [intOf]; omega
      | false =>
        cases r2 with
        | true =>
          have HS := Lib.hid (HG.out.succ (HON.out.2 (fun _ => rfl)))
          go_wp2_with fail
          go_region_held3 (fun v => v.cell? ⟨g, m, none⟩ = some (.int .i64 y) ∧ v.cell? ⟨g, k, none⟩ = some (.int .i64 x) ∧ v.cell? ⟨b, m * 3, none⟩ = some (.int .i8 x0) ∧ v.cell? ⟨b, m * 3 + 1, none⟩ = some (.int .i8 x1) ∧ v.cell? ⟨b, m * 3 + 2, none⟩ = some (.int .i8 x2) ∧ v.cell? ⟨b, k * 3, none⟩ = some (.int .i8 y0) ∧ v.cell? ⟨b, k * 3 + 1, none⟩ = some (.int .i8 y1) ∧ v.cell? ⟨b, k * 3 + 2, none⟩ = some (.int .i8 y2)) (first | (with_reducible exact zS2) | (with_reducible exact zS) | (with_reducible exact SD))
            (first | (((with_reducible refine (sfit_any x0 x1 x2 y0 y1 y2 wo.drew).mono ?_); rintro e z ⟨rfl, bz⟩; rw [HF1.out]; have zS : z.cell? ⟨g, m, none⟩ = some (.int .i64 y) ∧ z.cell? ⟨g, k, none⟩ = some (.int .i64 x) ∧ z.cell? ⟨b, m * 3, none⟩ = some (.int .i8 x0) ∧ z.cell? ⟨b, m * 3 + 1, none⟩ = some (.int .i8 x1) ∧ z.cell? ⟨b, m * 3 + 2, none⟩ = some (.int .i8 x2) ∧ z.cell? ⟨b, k * 3, none⟩ = some (.int .i8 y0) ∧ z.cell? ⟨b, k * 3 + 1, none⟩ = some (.int .i8 y1) ∧ z.cell? ⟨b, k * 3 + 2, none⟩ = some (.int .i8 y2) := ⟨(bz.cell (p := ⟨g, m, none⟩) hgs).trans SD.1, (bz.cell (p := ⟨g, k, none⟩) hgs).trans SD.2.1, (bz.cell (p := ⟨b, m * 3, none⟩) hbs).trans SD.2.2.1, (bz.cell (p := ⟨b, m * 3 + 1, none⟩) hbs).trans SD.2.2.2.1, (bz.cell (p := ⟨b, m * 3 + 2, none⟩) hbs).trans SD.2.2.2.2.1, (bz.cell (p := ⟨b, k * 3, none⟩) hbs).trans SD.2.2.2.2.2.1, (bz.cell (p := ⟨b, k * 3 + 1, none⟩) hbs).trans SD.2.2.2.2.2.2.1, (bz.cell (p := ⟨b, k * 3 + 2, none⟩) hbs).trans SD.2.2.2.2.2.2.2⟩; have hbs2 : b < z.heap.size := Nat.lt_of_lt_of_le hbs bz.size; have hgs2 : g < z.heap.size := Nat.lt_of_lt_of_le hgs bz.size)) | (((with_reducible refine (sfit_any y0 y1 y2 x0 x1 x2 z).mono ?_); rintro e z2 ⟨rfl, bz2⟩; rw [HF2.out]; have zS2 : z2.cell? ⟨g, m, none⟩ = some (.int .i64 y) ∧ z2.cell? ⟨g, k, none⟩ = some (.int .i64 x) ∧ z2.cell? ⟨b, m * 3, none⟩ = some (.int .i8 x0) ∧ z2.cell? ⟨b, m * 3 + 1, none⟩ = some (.int .i8 x1) ∧ z2.cell? ⟨b, m * 3 + 2, none⟩ = some (.int .i8 x2) ∧ z2.cell? ⟨b, k * 3, none⟩ = some (.int .i8 y0) ∧ z2.cell? ⟨b, k * 3 + 1, none⟩ = some (.int .i8 y1) ∧ z2.cell? ⟨b, k * 3 + 2, none⟩ = some (.int .i8 y2) := ⟨(bz2.cell (p := ⟨g, m, none⟩) hgs2).trans zS.1, (bz2.cell (p := ⟨g, k, none⟩) hgs2).trans zS.2.1, (bz2.cell (p := ⟨b, m * 3, none⟩) hbs2).trans zS.2.2.1, (bz2.cell (p := ⟨b, m * 3 + 1, none⟩) hbs2).trans zS.2.2.2.1, (bz2.cell (p := ⟨b, m * 3 + 2, none⟩) hbs2).trans zS.2.2.2.2.1, (bz2.cell (p := ⟨b, k * 3, none⟩) hbs2).trans zS.2.2.2.2.2.1, (bz2.cell (p := ⟨b, k * 3 + 1, none⟩) hbs2).trans zS.2.2.2.2.2.2.1, (bz2.cell (p := ⟨b, k * 3 + 2, none⟩) hbs2).trans zS.2.2.2.2.2.2.2⟩)))
          have HBZ := Lib.hid (blink HB.out (((Below.refl wo.heap.size wo).drew.trans bz).trans (bz2.mono bz.size)))
          clear zS zS2 bz bz2 SD
          go_wp2_with fail
          go_roundw
          case rel => exact ⟨m + 1, by omega, by go_num, HS.out, HBZ.out⟩
          case measure => simp [intOf]; omega
        | false =>
          have HF : Hid (pldB ps qs k = false) := Lib.hid (pldB_bad hlt (fun h => by have := HON.out.1 h HE.out; cases this))
          go_wp2_with fail
          go_region_held3 (fun v => v.cell? ⟨g, m, none⟩ = some (.int .i64 y) ∧ v.cell? ⟨g, k, none⟩ = some (.int .i64 x) ∧ v.cell? ⟨b, m * 3, none⟩ = some (.int .i8 x0) ∧ v.cell? ⟨b, m * 3 + 1, none⟩ = some (.int .i8 x1) ∧ v.cell? ⟨b, m * 3 + 2, none⟩ = some (.int .i8 x2) ∧ v.cell? ⟨b, k * 3, none⟩ = some (.int .i8 y0) ∧ v.cell? ⟨b, k * 3 + 1, none⟩ = some (.int .i8 y1) ∧ v.cell? ⟨b, k * 3 + 2, none⟩ = some (.int .i8 y2)) (first | (with_reducible exact zS2) | (with_reducible exact zS) | (with_reducible exact SD))
            (first | (((with_reducible refine (sfit_any x0 x1 x2 y0 y1 y2 wo.drew).mono ?_); rintro e z ⟨rfl, bz⟩; rw [HF1.out]; have zS : z.cell? ⟨g, m, none⟩ = some (.int .i64 y) ∧ z.cell? ⟨g, k, none⟩ = some (.int .i64 x) ∧ z.cell? ⟨b, m * 3, none⟩ = some (.int .i8 x0) ∧ z.cell? ⟨b, m * 3 + 1, none⟩ = some (.int .i8 x1) ∧ z.cell? ⟨b, m * 3 + 2, none⟩ = some (.int .i8 x2) ∧ z.cell? ⟨b, k * 3, none⟩ = some (.int .i8 y0) ∧ z.cell? ⟨b, k * 3 + 1, none⟩ = some (.int .i8 y1) ∧ z.cell? ⟨b, k * 3 + 2, none⟩ = some (.int .i8 y2) := ⟨(bz.cell (p := ⟨g, m, none⟩) hgs).trans SD.1, (bz.cell (p := ⟨g, k, none⟩) hgs).trans SD.2.1, (bz.cell (p := ⟨b, m * 3, none⟩) hbs).trans SD.2.2.1, (bz.cell (p := ⟨b, m * 3 + 1, none⟩) hbs).trans SD.2.2.2.1, (bz.cell (p := ⟨b, m * 3 + 2, none⟩) hbs).trans SD.2.2.2.2.1, (bz.cell (p := ⟨b, k * 3, none⟩) hbs).trans SD.2.2.2.2.2.1, (bz.cell (p := ⟨b, k * 3 + 1, none⟩) hbs).trans SD.2.2.2.2.2.2.1, (bz.cell (p := ⟨b, k * 3 + 2, none⟩) hbs).trans SD.2.2.2.2.2.2.2⟩; have hbs2 : b < z.heap.size := Nat.lt_of_lt_of_le hbs bz.size; have hgs2 : g < z.heap.size := Nat.lt_of_lt_of_le hgs bz.size)) | (((with_reducible refine (sfit_any y0 y1 y2 x0 x1 x2 z).mono ?_); rintro e z2 ⟨rfl, bz2⟩; rw [HF2.out]; have zS2 : z2.cell? ⟨g, m, none⟩ = some (.int .i64 y) ∧ z2.cell? ⟨g, k, none⟩ = some (.int .i64 x) ∧ z2.cell? ⟨b, m * 3, none⟩ = some (.int .i8 x0) ∧ z2.cell? ⟨b, m * 3 + 1, none⟩ = some (.int .i8 x1) ∧ z2.cell? ⟨b, m * 3 + 2, none⟩ = some (.int .i8 x2) ∧ z2.cell? ⟨b, k * 3, none⟩ = some (.int .i8 y0) ∧ z2.cell? ⟨b, k * 3 + 1, none⟩ = some (.int .i8 y1) ∧ z2.cell? ⟨b, k * 3 + 2, none⟩ = some (.int .i8 y2) := ⟨(bz2.cell (p := ⟨g, m, none⟩) hgs2).trans zS.1, (bz2.cell (p := ⟨g, k, none⟩) hgs2).trans zS.2.1, (bz2.cell (p := ⟨b, m * 3, none⟩) hbs2).trans zS.2.2.1, (bz2.cell (p := ⟨b, m * 3 + 1, none⟩) hbs2).trans zS.2.2.2.1, (bz2.cell (p := ⟨b, m * 3 + 2, none⟩) hbs2).trans zS.2.2.2.2.1, (bz2.cell (p := ⟨b, k * 3, none⟩) hbs2).trans zS.2.2.2.2.2.1, (bz2.cell (p := ⟨b, k * 3 + 1, none⟩) hbs2).trans zS.2.2.2.2.2.2.1, (bz2.cell (p := ⟨b, k * 3 + 2, none⟩) hbs2).trans zS.2.2.2.2.2.2.2⟩)))
          have HBZ := Lib.hid (blink HB.out (((Below.refl wo.heap.size wo).drew.trans bz).trans (bz2.mono bz.size)))
          clear zS zS2 bz bz2 SD
          go_wp2_with fail
          go_ret
          exact ⟨ret_bool HF.out.symm, HBZ.out⟩
    · have hk' : m = k := by omega
      have hml : ¬ (m : Int) < (k : Int) := by omega
      have hkw : IntKind.i64.wrap (k : Int) = (k : Int) := IntWalk.i64_in _ (by omega)
      have HT : Hid (pldB ps qs k = true) := Lib.hid (pldB_true (hk' ▸ HG.out))
      clear hk' hg hnx
      go_wp2_with fail
      go_ret
      exact ⟨ret_bool HT.out.symm, HB.out⟩

set_option maxHeartbeats 4000000 in
set_option maxRecDepth 100000 in
theorem scp_any (v : Value) (gq lq : Nat) (ps : List Tri) (qs : List Int) (w : World) (hv : ReadsB w v ps) (hu : ReadsI w (.slice (some ⟨gq, 0, none⟩) lq lq) qs) (hfit : All8 ps) (hx : ps.length ≤ 1048576) (hy : qs.length ≤ 1048576) :
    Calls Try.prog 5 #[v, .slice (some ⟨gq, 0, none⟩) lq lq] w fun e w' => e = .returned (.tuple #[.bool (cpB ps qs), .int .i64 (cpC ps)]) ∧ Below w.heap.size w w' := by
  have HV := Lib.hid hv
  have HU := Lib.hid hu
  have HCK := Lib.hid (svldX_any v ps w hv hfit hx)
  obtain ⟨a, cap, rfl, ha⟩ := hv
  have HLQ : Hid (qs.length = lq) := Lib.hid (by obtain ⟨_, _, e, _⟩ := hu; injection e with e1 e2 e3; exact e2.symm)
  have hc : qs ≠ [] → Cells w gq qs := fun h => by
    obtain ⟨a2, cap2, e, h2⟩ := hu
    obtain ⟨b2, rfl, h3⟩ := h2 h
    injection e with e1 e2 e3
    injection e1 with e1
    injection e1 with e1
    rw [e1]; exact h3
  have HA := Lib.hid ha
  have HC := Lib.hid hc
  obtain ⟨len, hlen⟩ : ∃ n, ps.length = n := ⟨_, rfl⟩
  have HL := Lib.hid hlen
  rw [hlen] at HV HCK hx ⊢
  rw [HLQ.out] at hy
  clear ha hc hlen hu
  cases hvl : vldX ps
  · have HF := Lib.hid (cpB_inv (qs := qs) hvl)
    have HCD : Hid (cpC ps = 1) := Lib.hid (by unfold cpC; rw [hvl]; rfl)
    rw [hvl] at HCK
    clear hvl
    go_enter Try.func5, Try.ntmps5
    go_wp2_with fail
    refine HCK.out.mono ?_
    rintro e w2 ⟨rfl, b2⟩
    have HB2 := Lib.hid b2
    clear b2
    go_wp2_with fail
    go_ret2
    exact ⟨ret_bcP HF.out.symm HCD.out.symm, HB2.out⟩
  · have HCD : Hid (cpC ps = 0) := Lib.hid (by unfold cpC; rw [hvl]; rfl)
    have h10 : len ≤ 10 := by rw [← HL.out]; exact (vldX_spec hvl).1
    have HVL := Lib.hid hvl
    rw [hvl] at HCK
    clear hvl
    by_cases hle : lq = len
    · subst hle
      go_enter Try.func5, Try.ntmps5
      go_wp2_with fail
      refine HCK.out.mono ?_
      rintro e w2 ⟨rfl, b2⟩
      have HB2 := Lib.hid b2
      clear b2
      go_wp2_with fail
      obtain ⟨w3, hw3⟩ : ∃ V, V = w2 := ⟨w2, rfl⟩
      have HB3 : Hid (Below w.heap.size w w3) := Lib.hid (by rw [hw3]; exact HB2.out)
      rw [← hw3]
      clear hw3
      go_loopw [6] (fun i wr => ∃ k : Nat, k ≤ lq ∧ i = .int .i64 k ∧ rowTo ps qs k ∧ Below w3.heap.size w3 wr) (fun i _ => lq - (intOf i).toNat)
      case atStart => exact ⟨0, Nat.zero_le _, rfl, rowTo.zero ps qs, Below.refl _ _⟩
      case round =>
        obtain ⟨k, hk, rfl, hg, hnx⟩ := hrel
        have HG := Lib.hid hg
        have HB := Lib.hid hnx
        by_cases hlt : k < lq
        · have hkl : (k : Int) < (lq : Int) := by omega
          have hk0 : (0 : Int) ≤ (k : Int) := by omega
          obtain ⟨b, rfl, hcb⟩ := HA.out (by intro e; have := HL.out; rw [e] at this; simp at this; omega)
          have hcq := HC.out (by intro e; have := HLQ.out; rw [e] at this; simp at this; omega)
          have hbw := blink HB3.out hnx
          have cq := (hcq.below hbw) k (by rw [HLQ.out]; exact hlt)
          have HJX0 : Hid (Calls Try.prog 13 #[.slice (some ⟨b, 0, none⟩) lq cap, .slice (some ⟨gq, 0, none⟩) (k + 1) lq] wr fun e w' => e = .returned (.bool (pldB ps qs k)) ∧ Below wr.heap.size wr w') := Lib.hid (spld_any b gq lq cap lq k ps qs HL.out HLQ.out h10 hlt wr (hcb.below hbw) (hcq.below hbw))
          have hk1 : (k : Int) + 1 ≤ (lq : Int) := by omega
          have HON : Hid (rowOn ps qs k ↔ (0 ≤ qs.getD k 0 ∧ qs.getD k 0 ≤ 9) ∧ pldB ps qs k = true) := Lib.hid Iff.rfl
          obtain ⟨x, hxx⟩ : ∃ x, qs.getD k 0 = x := ⟨_, rfl⟩
          have HJX := HJX0
          rw [hxx] at cq HON
          obtain ⟨r, hr⟩ : ∃ r, pldB ps qs k = r := ⟨_, rfl⟩
          rw [hr] at HJX HON
          have HBAD : Hid (¬ rowOn ps qs k → cpB ps qs = false) := Lib.hid (fun h => cpB_bad (by rw [HLQ.out]; exact hlt) h)
          clear hxx hr hg hnx hcb hcq hbw HJX0
          by_cases h0 : 0 ≤ x ∧ x ≤ 9
          rotate_left
          · have HIN : Hid (inB x 0 9 = false) := Lib.hid (inB_false h0)
            have HF := Lib.hid (HBAD.out (fun h => h0 (HON.out.1 h).1))
            have HBF := Lib.hid (blink HB3.out HB.out)
            go_wp2_with fail
            refine (in_any x 0 9 wr).mono ?_
            rintro e w4 ⟨rfl, h4⟩
            obtain rfl := h4.symm
            rw [HIN.out]
            go_wp2_with fail
            go_ret2
            exact ⟨ret_bcP HF.out.symm HCD.out.symm, HBF.out⟩
          have HIN : Hid (inB x 0 9 = true) := Lib.hid (inB_true h0)
          have h91 := h0.1
          have h92 := h0.2
          cases r
          · have HF := Lib.hid (HBAD.out (fun h => by have := (HON.out.1 h).2; cases this))
            go_wp2_with fail
            refine (in_any x 0 9 wr).mono ?_
            rintro e w4 ⟨rfl, h4⟩
            obtain rfl := h4.symm
            rw [HIN.out]
            go_wp2_with fail
            refine HJX.out.mono ?_
            rintro e w5 ⟨rfl, b5⟩
            have HBF := Lib.hid (blink HB3.out (blink HB.out b5))
            clear b5
            go_wp2_with fail
            go_ret2
            exact ⟨ret_bcP HF.out.symm HCD.out.symm, HBF.out⟩
          · have HS := Lib.hid (HG.out.succ (HON.out.2 ⟨⟨by omega, by omega⟩, rfl⟩))
            go_wp2_with fail
            refine (in_any x 0 9 wr).mono ?_
            rintro e w4 ⟨rfl, h4⟩
            obtain rfl := h4.symm
            rw [HIN.out]
            go_wp2_with fail
            refine HJX.out.mono ?_
            rintro e w5 ⟨rfl, b5⟩
            have HB5 := Lib.hid (blink HB.out b5)
            clear b5
            go_wp2_with fail
            go_roundw
            case rel => exact ⟨k + 1, by omega, by go_num, HS.out, HB5.out⟩
            case measure => simp [intOf]; omega
        · have hk' : k = lq := by omega
          have hkl : ¬ (k : Int) < (lq : Int) := by omega
          have HT : Hid (cpB ps qs = true) := Lib.hid (cpB_all HVL.out (by rw [HL.out, HLQ.out]) (by rw [HLQ.out, ← hk']; exact HG.out))
          have HBF := Lib.hid (blink HB3.out hnx)
          clear hk' hg hnx
          go_wp2_with fail
          go_ret2
          exact ⟨ret_bcP HT.out.symm HCD.out.symm, HBF.out⟩
    · have HF : Hid (cpB ps qs = false) := Lib.hid (cpB_len (by rw [HL.out, HLQ.out]; exact hle))
      have t1 : ((lq : Int) == (len : Int)) = false := by simp; omega
      have t2 : ((lq : Int) != (len : Int)) = true := by simp; omega
      clear hle
      go_enter Try.func5, Try.ntmps5
      go_wp2_with fail
      refine HCK.out.mono ?_
      rintro e w2 ⟨rfl, b2⟩
      have HB2 := Lib.hid b2
      clear b2
      go_wp2_with fail
      go_ret2
      exact ⟨ret_bcP HF.out.symm HCD.out.symm, HB2.out⟩
end Go.Proofs.Ytgdekplkadnmpaa
