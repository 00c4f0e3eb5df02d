/-
  Rings of those whose parcels are swapped: the model's rings, SwapsFor and ExchangesFor.
-/
import Derived.Test.YtocogipejchneaaDoorSpS
namespace Go.Proofs.YtocogipejchneaaDoor
open Go Go.RowKit
set_option linter.unusedVariables false

theorem info_boolS : (Tryd.prog.info? 4).map (fun i => (i.zero, i.size, i.bytes)) = some (some (.bool false), 1, 1) := by kernel_rfl
theorem info_rowsS : (Tryd.prog.info? 22).map (fun i => (i.zero, i.size, i.bytes)) = some (some (.slice none 0 0), 1, 24) := by kernel_rfl
theorem made_bls (n : Nat) : (madeCells (Value.bool false).cells (n * 1)).toList = (bls (fun _ => false) n).toList := by
  rw [Nat.mul_one]
  unfold bls
  rw [show (madeCells (Value.bool false).cells n).toList = List.replicate n (Value.bool false) from toList_madeCells_one _ _]
  simp [List.map_const']
theorem blk_made {w : World} {B g n : Nat} {T : TypeId} {xs : List Value} (h : w.ownsRow B T 1 (.slice (some ⟨g, 0, none⟩) n n) n xs) : BlkA w g T xs.toArray := by
  rcases h.2 with ⟨e, _⟩ | ⟨g', cap, cur, e, _, hg, _, _, hsz, htk⟩
  · cases e
  · injection e with e1 e2 e3
    injection e1 with e1
    injection e1 with e1
    subst e1
    subst e3
    have : cur.toList = xs := by rw [← htk, List.take_of_length_le (by simp; omega)]
    unfold BlkA
    rw [hg, ← this]
def unS (B : Nat) (w : World) : Nat → Nat
  | 0 => 0
  | n + 1 => unS B w n + (match w.cell? ⟨B, n, none⟩ with
    | some (.bool true) => 0
    | _ => 1)
theorem unS_is {B N : Nat} {w : World} {T : TypeId} {g : Nat → Bool} (h : BlkA w B T (bls g N)) : ∀ n, n ≤ N → unS B w n = cntU g n
  | 0, _ => rfl
  | n + 1, hn => by
    unfold unS cntU
    rw [unS_is h n (by omega), show w.cell? ⟨B, n, none⟩ = some (.bool (g n)) from (h.at n).trans (bls_at g (by omega))]
    cases g n <;> rfl
theorem one_rowS (v : Value) (h : v.oneCell' = true) : ∀ u ∈ [v], u.oneCell' = true := fun u hu => by simp at hu; subst hu; exact h

set_option maxHeartbeats 3200000 in
set_option maxRecDepth 100000 in
theorem srings_any (a b : Option Addr) (n : Nat) (W G : List Int) (w : World) (hn : W.length = n) (hsw : swB W G = true) (hv : ReadsI w (.slice a n n) W) (hu : ReadsI w (.slice b n n) G) :
    Calls Tryd.prog 16 #[.slice a n n, .slice b n n] w fun e w' => ∃ ov us, e = .returned ov ∧ RgOut w.heap.size w' ov us (rgL W G) ∧ Below w.heap.size w w' := by
  obtain ⟨i0, hi, hz0, hz1, hz2⟩ := info_parts info_i64
  obtain ⟨o0, ho0, oz0, oz1, oz2⟩ := info_parts info_rowsS
  obtain ⟨k0, hk0, kz0, kz1, kz2⟩ := info_parts info_boolS
  have HN := Lib.hid hn
  have h9 : n ≤ 9 := by have := (swB_spec hsw).1.2; omega
  have HGN : Hid (G.length = n) := Lib.hid (by have := (swB_spec hsw).1.1; omega)
  have HWR := Lib.hid hv
  have HGR := Lib.hid hu
  have HCW : Hid (0 < n → ∃ bw, a = some ⟨bw, 0, none⟩ ∧ Cells w bw W) := Lib.hid (fun hp => by
    obtain ⟨a', c1, e1, ha⟩ := hv
    injection e1 with e1 e2 e3
    subst e1
    exact ha (by intro e; rw [e] at hn; simp at hn; omega))
  have HCG : Hid (0 < n → ∃ bg, b = some ⟨bg, 0, none⟩ ∧ Cells w bg G) := Lib.hid (fun hp => by
    obtain ⟨a', c1, e1, ha⟩ := hu
    injection e1 with e1 e2 e3
    subst e1
    exact ha (by intro e; have := HGN.out; rw [e] at this; simp at this; omega))
  have HSW := Lib.hid hsw
  have HRG : Hid (rgL W G = (rgM (nxt W G) n n).1.map ints) := Lib.hid (by rw [rgL_M hsw, hn])
  have HLT : Hid (∀ x, x < n → nxt W G x < n) := Lib.hid (fun x hx => by have := nxt_lt hsw (a := x) (by omega); omega)
  have HFX : Hid (∀ x, x < n → (nxt W G x = x ↔ W.getD x 0 = G.getD x 0)) := Lib.hid (fun x hx => nxt_fix hsw (by omega))
  have HMEM : Hid (∀ x, x < n → G.getD x 0 ∈ W) := Lib.hid (fun x hx => ((swB_spec hsw).2 x (by omega)).2.2.2)
  have HNX : Hid (∀ x, nxt W G x = plc W (G.getD x 0)) := Lib.hid (fun x => rfl)
  obtain ⟨nx, hnx⟩ : ∃ f, nxt W G = f := ⟨_, rfl⟩
  rw [hnx] at HRG HLT HFX HNX
  have ho1 := RgOut.empty (lo := w.heap.size) (w := w) (Nat.le_refl _)
  have b1 : Below w.heap.size w (w.alloc (.cells #[] 22)) := (Below.refl _ _).alloc (Nat.le_refl _) _
  obtain ⟨W1, hW1⟩ : ∃ X, w.alloc (.cells #[] 22) = X := ⟨_, rfl⟩
  have HW1 := Lib.hid hW1
  have HS1 : Hid (W1.heap.size = w.heap.size + 1) := Lib.hid (by rw [← hW1]; simp)
  rw [hW1] at ho1 b1
  have HO1 := Lib.hid ho1
  have HB1 := Lib.hid b1
  clear hv hu hsw hnx ho1 b1 hW1 hn
  go_enter Tryd.func16, Tryd.ntmps16
  go_wp2_with (rw [HW1.out]; refine wpList_make_full _ rfl _ _ 40 rfl W1.heap.size 4 k0 (.bool false) 1 Tryd.underlying40 hk0 kz0 kz1 .i64 .i64 _ _ n rfl rfl rfl rfl (by rw [kz2]; omega) (by unfold maxLen; omega) (Nat.le_refl _) ?_; intro w2 hown1 hg1; rw [made_bls] at hown1; have HMD := Lib.hid (blk_made hown1); have HG1 := Lib.hid hg1; clear hown1 hg1)
  have HBL : Hid (BlkA w2 W1.heap.size 4 (bls (fun _ => false) n)) := Lib.hid (by have h := HMD.out; simpa using h)
  have hb2 : Below W1.heap.size W1 w2 := ⟨HG1.out.os, HG1.out.tape, HG1.out.output, HG1.out.size, fun k hk => HG1.out.block k hk (by simp)⟩
  have HB2 := Lib.hid (blink HB1.out hb2)
  have HO2 := Lib.hid (HO1.out.below hb2)
  clear hb2 HMD HG1
  go_wp2_with fail
  obtain ⟨B, hB⟩ : ∃ B, W1.heap.size = B := ⟨_, rfl⟩
  rw [hB] at HBL ⊢
  have hBw : w.heap.size ≤ B := by have := HS1.out; omega
  go_loopw [5, 7] (fun ov iv wr => ∃ (i : Nat) (f : Nat → Bool) (us : List Value) (Rn : List (List Nat)), i ≤ n ∧ iv = .int .i64 i ∧ rgM nx n i = (Rn, f) ∧ RgOut w.heap.size wr ov us (Rn.map ints) ∧ BlkA wr B 4 (bls f n) ∧ Rn.length ≤ i ∧ Below w.heap.size w wr) (fun _ i _ => n - (intOf i).toNat)
  case atStart => exact ⟨0, _, [], [], Nat.zero_le _, rfl, rfl, HO2.out, HBL.out, Nat.le_refl _, HB2.out⟩
  case round =>
    obtain ⟨i, f, us, Rn, hin, rfl, hrg, hro, hbl, hRl, hbw⟩ := hrel
    obtain ⟨wo, hwo⟩ : ∃ wo, wo = wr := ⟨_, rfl⟩
    subst hwo
    have HRGI := Lib.hid hrg
    have HRO := Lib.hid hro
    have HBLO := Lib.hid hbl
    have HBW := Lib.hid hbw
    obtain ⟨la, lc, hlv⟩ := own_isS hro.1
    rw [List.length_map] at hlv
    subst hlv
    obtain ⟨rl, hrl⟩ : ∃ m, Rn.length = m := ⟨_, rfl⟩
    have HRL := Lib.hid hrl
    rw [hrl] at HRO hRl
    rw [hrl]
    by_cases hlt : i < n
    · have hil : (i : Int) < (n : Int) := by omega
      have hi0 : (0 : Int) ≤ (i : Int) := by omega
      obtain ⟨bw, rfl, hcw⟩ := HCW.out (by omega)
      obtain ⟨bg, rfl, hcg⟩ := HCG.out (by omega)
      have HCWx := Lib.hid hcw
      have HCGx := Lib.hid hcg
      have cx : wo.cell? ⟨bw, i, none⟩ = some (.int .i64 (W.getD i 0)) := (hcw.below hbw) i (by rw [HN.out]; exact hlt)
      have cy : wo.cell? ⟨bg, i, none⟩ = some (.int .i64 (G.getD i 0)) := (hcg.below hbw) i (by rw [HGN.out]; exact hlt)
      have cd : wo.cell? ⟨B, i, none⟩ = some (.bool (f i)) := (hbl.at i).trans (bls_at f hlt)
      have HFIX := Lib.hid (HFX.out i hlt)
      obtain ⟨x, hx⟩ : ∃ x, W.getD i 0 = x := ⟨_, rfl⟩
      obtain ⟨y, hy⟩ : ∃ x, G.getD i 0 = x := ⟨_, rfl⟩
      rw [hx] at cx HFIX
      rw [hy] at cy HFIX
      have HSKIP : Hid ((f i = true ∨ nx i = i) → ∀ nq, ∃ (i' : Nat) (f' : Nat → Bool) (us' : List Value) (Rn' : List (List Nat)), i' ≤ n ∧ Value.int .i64 ((i + 1 : Nat) : Int) = .int .i64 i' ∧ rgM nx n i' = (Rn', f') ∧ RgOut w.heap.size (wo.drewN nq) (.slice la rl lc) us' (Rn'.map ints) ∧ BlkA (wo.drewN nq) B 4 (bls f' n) ∧ Rn'.length ≤ i' ∧ Below w.heap.size w (wo.drewN nq)) := Lib.hid (fun h nq =>
        ⟨i + 1, f, us, Rn, by omega, rfl, by rw [rgM_skip (by rw [HRGI.out]; exact h), HRGI.out], HRO.out.below (bdrewN nq), HBLO.out, by have := HRL.out; omega, below_drewN HBW.out nq⟩)
      clear hx hy hbw hbl hro hrg hcw hcg hrl
      cases hf : f i with
      | true =>
        rw [hf] at cd
        have HSK := Lib.hid (HSKIP.out (.inl hf))
        clear hf HSKIP HFIX
        go_wp2_with fail
        go_big_quiet (fail)
        go_wp2_with fail
        go_roundw
        case rel => have h := HSK.out nq; simpa using h
        case measure => simp [intOf]; omega
      | false =>
      rw [hf] at cd
      by_cases hxy : x = y
      · have te : ((x : Int) == y) = true := by rw [hxy]; simp
        have HSK := Lib.hid (HSKIP.out (.inr (HFIX.out.2 hxy)))
        clear hf HSKIP HFIX hxy
        go_wp2_with fail
        go_big_quiet (fail)
        go_wp2_with fail
        go_roundw
        case rel => have h := HSK.out nq; simpa using h
        case measure => simp [intOf]; omega
      have te : ((x : Int) == y) = false := by rw [beq_eq_false_iff_ne]; exact hxy
      have HFF := Lib.hid hf
      have hne : nx i ≠ i := fun e => hxy (HFIX.out.1 e)
      have HNE := Lib.hid hne
      clear hf HSKIP HFIX hxy hne
      go_wp2_with fail
      go_big_quiet (fail)
      go_wp2_with fail
      obtain ⟨wq, hwq⟩ : ∃ X, wo.drewN nq = X := ⟨_, rfl⟩
      have hqs : wq.heap.size = wo.heap.size := by rw [← hwq]; rfl
      have hbq : Below wo.heap.size wo wq := by rw [← hwq]; exact bdrewN nq
      have hw0 := ownI_empty (lo := wq.heap.size) (w := wq) (Nat.le_refl _)
      have hb0 : Below wo.heap.size wo (wq.alloc (.cells #[] 2)) := hbq.alloc (by omega) _
      rw [hwq]
      obtain ⟨W0, hW0⟩ : ∃ X, wq.alloc (.cells #[] 2) = X := ⟨_, rfl⟩
      have hq0 : Hole B wq W0 := by rw [← hW0]; exact (Hole.refl B wq).below ((Below.refl _ _).alloc (Nat.le_refl _) _)
      rw [hW0] at hw0 hb0 ⊢
      rw [hqs] at hw0
      have HRO0 := Lib.hid (HRO.out.below hbq)
      have HBL0 := Lib.hid (HBLO.out.below hbq)
      have HBL1 := Lib.hid (HBLO.out.below hb0)
      have HQ0 := Lib.hid hq0
      have HQS := Lib.hid hqs
      have HBW0 := Lib.hid (blink HBW.out hb0)
      have HRI0 := Lib.hid hw0
      have hs0 : wo.heap.size ≤ W0.heap.size := hb0.size
      have hBo : B < wo.heap.size := HBLO.out.lt
      have HUSL : Hid (∀ j, j < (Rn.map ints).length → ∀ p, (us.getD j nilS).ownBlock = some p → p < wo.heap.size) := Lib.hid (fun j hj p hp => ((HRO.out.2.1 j hj).block p hp).2)
      clear hwq hbq hw0 hb0 hW0 hq0 hqs cx cy cd
      go_loopw [8, 9] (fun rv av wr => ∃ (p k : Nat) (r : List Nat) (g : Nat → Bool), av = .int .i64 p ∧ p < n ∧ cntU g n ≤ k ∧ wlk nx n f i = (r ++ (wlk nx k g p).1, (wlk nx k g p).2) ∧ OwnI wo.heap.size wr rv (ints r) ∧ BlkA wr B 4 (bls g n) ∧ Hole B wq wr ∧ Below w.heap.size w wr) (fun _ _ wr => unS B wr n)
      case atStart => exact ⟨i, n, [], f, rfl, hlt, cntU_le f n, by simp, HRI0.out, HBL1.out, HQ0.out, HBW0.out⟩
      case round =>
        obtain ⟨p, k, r, g, rfl, hp, hck, hwk, hri, hbl, hho, hbw⟩ := hrel
        have HWK := Lib.hid hwk
        have HRI := Lib.hid hri
        have HBL := Lib.hid hbl
        have HHO := Lib.hid hho
        have HBWR := Lib.hid hbw
        have hws : wo.heap.size ≤ wr.heap.size := by have := hho.1; rw [HQS.out] at this; exact this
        have hww : w.heap.size ≤ wr.heap.size := hbw.size
        obtain ⟨ba, bc, hbv⟩ := own_isS hri
        rw [ints_len] at hbv
        subst hbv
        have hrn : r.length ≤ n := by
          have h := congrArg (fun q => q.1.length) hwk
          simp only [List.length_append] at h
          have := wlk_len nx n f i
          omega
        obtain ⟨rn, hrn'⟩ : ∃ m, r.length = m := ⟨_, rfl⟩
        have HRN := Lib.hid hrn'
        rw [hrn'] at hrn HRI
        rw [hrn']
        have cd : wr.cell? ⟨B, p, none⟩ = some (.bool (g p)) := (hbl.at p).trans (bls_at g hp)
        have fd := hbl.frozen p
        have hpn : (p : Int) < (n : Int) := by omega
        have hp0 : (0 : Int) ≤ (p : Int) := by omega
        clear hwk hri hho hrn'
        cases hg : g p with
        | false =>
          rw [hg] at cd
          obtain ⟨k', rfl⟩ : ∃ k', k = k' + 1 := ⟨k - 1, by have := cntU_pos hp hg; omega⟩
          have HCK : Hid (cntU (upd g p) n ≤ k') := Lib.hid (by have := cntU_upd g hg n hp; omega)
          have HWK2 : Hid (wlk nx n f i = ((r ++ [p]) ++ (wlk nx k' (upd g p) (nx p)).1, (wlk nx k' (upd g p) (nx p)).2)) := Lib.hid (by rw [HWK.out, wlk_step nx k' hg]; simp)
          have HNXP := Lib.hid (HLT.out p hp)
          have HCNT : Hid (unS B wr n = cntU (upd g p) n + 1) := Lib.hid (by rw [unS_is HBL.out n (Nat.le_refl _), cntU_upd g hg n hp])
          have hset := (HBL.out.set p (.bool true))
          rw [bls_set g hp] at hset
          have hB0 : B ≠ wr.heap.size := by have := HBL.out.lt; omega
          have HSET := Lib.hid hset
          have HRI1 : Hid ((wr.setCell ⟨B, p, none⟩ (.bool true)).ownsRow wo.heap.size 2 1 (.slice ba rn bc) rn ((ints r).map (Value.int .i64))) := Lib.hid (by
            have h := row_hole (show wr.ownsRow wo.heap.size 2 1 _ _ _ from HRI.out) HBL.out (by decide) ((Hole.refl B wr).set p (.bool true))
            rw [ints_len, HRN.out] at h
            exact h)
          have HHO1 := Lib.hid (HHO.out.set p (.bool true))
          have HBW1 : Hid (Below w.heap.size w (wr.setCell ⟨B, p, none⟩ (.bool true))) := Lib.hid (HBWR.out.setCell (by show w.heap.size ≤ B; exact hBw) _)
          have HRIA := Lib.hid (HRI1.out.alloc (.cells #[.int .i64 (p : Int)] 2))
          have HSETA := Lib.hid (HSET.out.alloc (.cells #[.int .i64 (p : Int)] 2))
          have HHOA := Lib.hid (HHO1.out.below ((Below.refl _ _).alloc (Nat.le_refl _) (.cells #[.int .i64 (p : Int)] 2)))
          have HBWA := Lib.hid (HBW1.out.alloc (by simpa using hww) (.cells #[.int .i64 (p : Int)] 2))
          clear hg hbw hbl hset
          go_wp2_with (at_builtin; refine wpList_append_own _ rfl _ _ 22 rfl wo.heap.size 2 i0 (.int .i64 0) 1 8 Tryd.underlying22 hi hz0 hz1 hz2 rfl (by decide) _ _ _ rfl HRIA.out ⟨wr.heap.size, 0, none⟩ 1 1 [.int .i64 (p : Int)] rfl rfl (by have h := cell_one_new (wr.setCell ⟨B, p, none⟩ (.bool true)) (.int .i64 (p : Int)) 2; simpa using h) (one_rowS _ rfl) ?c3 ?c4 ?c5 ?_)
          case c3 => unfold maxLen; omega
          case c4 => omega
          case c5 => first | omega | (simp; omega)
          intro v' w5 hown' hgrow _
          have hbl5 : BlkA w5 B 4 (bls (upd g p) n) := (hgrow.block B HSETA.out.lt (own_ne_blk HRIA.out HSETA.out (by decide))).trans HSETA.out
          have HBL5 := Lib.hid hbl5
          have HHO5 := Lib.hid (HHOA.out.grown hgrow (fun q hq => by rw [HQS.out]; exact (HRIA.out.lt q hq).1))
          have HBW5 := Lib.hid (HBWA.out.grown hgrow (by simp; omega) (fun q hq => by have h := (HRIA.out.lt q hq).1; have h2 := HBW.out.size; omega))
          have HRI5 : Hid (OwnI wo.heap.size w5 v' (ints (r ++ [p]))) := Lib.hid (by
            unfold OwnI
            rw [ints_snoc, List.map_append, List.length_append, ints_len, HRN.out]
            exact hown')
          have cy : w5.cell? ⟨bg, p, none⟩ = some (.int .i64 (G.getD p 0)) := (HCGx.out.below HBW5.out) p (by rw [HGN.out]; exact hp)
          have HWH : Hid (Calls Tryd.prog 23 #[.slice (some ⟨bw, 0, none⟩) n n, .int .i64 (G.getD p 0)] w5 fun e w' => e = .returned (.int .i64 ((nx p : Nat) : Int)) ∧ Below w5.heap.size w5 w') := Lib.hid (by
            rw [HNX.out]
            exact swhere_any _ W _ w5 (HWR.out.below HBW5.out) (by rw [HN.out]; omega) (HMEM.out p hp))
          obtain ⟨y2, hy2⟩ : ∃ x, G.getD p 0 = x := ⟨_, rfl⟩
          rw [hy2] at cy HWH
          clear hown' hgrow hbl5 hy2 cd fd
          go_wp2_with fail
          refine HWH.out.mono ?_
          rintro e w6 ⟨rfl, b6⟩
          have HBL6 := Lib.hid (HBL5.out.below b6)
          have HHO6 := Lib.hid (HHO5.out.below b6)
          have HBW6 := Lib.hid (blink HBW5.out b6)
          have HRI6 := Lib.hid (HRI5.out.below b6)
          clear b6 cy HWH
          go_wp2_with fail
          go_roundw
          case rel => exact ⟨nx p, k', r ++ [p], upd g p, rfl, HNXP.out, HCK.out, HWK2.out, HRI6.out, HBL6.out, HHO6.out, HBW6.out⟩
          case measure => rw [HCNT.out, unS_is HBL6.out n (Nat.le_refl _)]; omega
        | true =>
          rw [hg] at cd
          have HWK2 : Hid (wlk nx n f i = (r, g)) := Lib.hid (by rw [HWK.out, wlk_seen nx k hg]; simp)
          have hrow : RgOut w.heap.size wr (.slice la rl lc) us (Rn.map ints) := HRO0.out.hole HBL0.out HHO.out
          have HROA := Lib.hid (hrow.below ((Below.refl _ _).alloc (Nat.le_refl _) (.cells #[.slice ba rn bc] 22)))
          have HROW : Hid ((wr.alloc (.cells #[.slice ba rn bc] 22)).ownsRow w.heap.size 22 1 (.slice la rl lc) rl us) := Lib.hid (by have h := HROA.out.1; rw [List.length_map, HRL.out] at h; exact h)
          have HBLA := Lib.hid (HBL.out.alloc (.cells #[.slice ba rn bc] 22))
          have HBWA := Lib.hid (HBWR.out.alloc hww (.cells #[.slice ba rn bc] 22))
          have HRIA : Hid (OwnI w.heap.size (wr.alloc (.cells #[.slice ba rn bc] 22)) (.slice ba rn bc) (ints r)) := Lib.hid ((HRI.out.mono (by have := HBW.out.size; omega)).below ((Below.refl _ _).alloc (Nat.le_refl _) _))
          have HRIB : Hid (∀ q, (Value.slice ba rn bc).ownBlock = some q → wo.heap.size ≤ q) := Lib.hid (fun q hq => (HRI.out.block q hq).1)
          have hrl9 : rl ≤ 9 := by omega
          clear hg hbw hbl hrow fd
          go_wp2_with (at_builtin; refine wpList_append_own_at _ rfl _ _ 23 rfl w.heap.size 22 o0 (.slice none 0 0) 1 24 Tryd.underlying23 ho0 oz0 oz1 oz2 rfl (by decide) _ _ _ rfl HROW.out ⟨wr.heap.size, 0, none⟩ 1 1 [.slice ba rn bc] rfl rfl (cell_one_new _ _ _) (one_rowS _ rfl) ?d3 ?d4 ?d5 ?_)
          case d3 => unfold maxLen; omega
          case d4 => omega
          case d5 => first | omega | (simp; omega)
          intro v' w3 hown' hgrow _ _
          have HO3 : Hid (RgOut w.heap.size w3 v' (us ++ [.slice ba rn bc]) ((Rn ++ [r]).map ints)) := Lib.hid (by
            rw [List.map_append]
            refine RgOut.add HROA.out HRIA.out (fun j hj p' q' hp' hq' => ?_) (by rw [List.length_map, HRL.out]; exact hown') hgrow
            have h1 := HUSL.out j hj p' hp'
            have h2 := HRIB.out q' hq'
            omega)
          have HBL3 : Hid (BlkA w3 B 4 (bls g n)) := Lib.hid ((hgrow.block B HBLA.out.lt (own_ne_blk HROW.out HBLA.out (by decide))).trans HBLA.out)
          have HBW3 := Lib.hid (HBWA.out.grown hgrow (by simp; omega) (fun q hq => (HROW.out.lt q hq).1))
          have HRG3 : Hid (rgM nx n (i + 1) = (Rn ++ [r], g)) := Lib.hid (by rw [rgM_go (by rw [HRGI.out]; exact HFF.out) HNE.out, HRGI.out]; simp only; rw [HWK2.out])
          clear hown' hgrow
          go_wp2_with fail
          go_roundw
          case rel => exact ⟨i + 1, g, _, _, by omega, by go_num, HRG3.out, HO3.out, HBL3.out, by rw [List.length_append, HRL.out]; simp; omega, HBW3.out⟩
          case measure => simp [intOf]; omega
    · have hk : i = n := by omega
      have HFIN : Hid (RgOut w.heap.size wo (.slice la rl lc) us (rgL W G)) := Lib.hid (by have h := HRGI.out; rw [hk] at h; rw [HRG.out, h]; exact HRO.out)
      clear hbw hbl hro hrg hrl hk
      go_wp2_with fail
      go_ret
      exact ⟨_, us, rfl, HFIN.out, HBW.out⟩
end Go.Proofs.YtocogipejchneaaDoor
