/-
  Rings of those whose parcels are swapped: the program's rings.
-/
import Derived.Test.YtocogipejchneaaDoorSpT
namespace Go.Proofs.YtocogipejchneaaDoor
open Go Go.RowKit
set_option linter.unusedVariables false

set_option maxHeartbeats 1600000 in
set_option maxRecDepth 100000 in
theorem iwhere_any (v : Value) (W : List Int) (x : Int) (w : World) (hv : ReadsI w v W) (hx : W.length ≤ 1048576) (hm : x ∈ W) :
    Calls Tryd.prog 30 #[v, .int .i64 x] w fun e w' => e = .returned (.int .i64 ((plc W x : Nat) : Int)) ∧ Below w.heap.size w w' := by
  obtain ⟨a, cap, rfl, ha⟩ := hv
  obtain ⟨b, rfl, hc⟩ := ha (fun e => by rw [e] at hm; cases hm)
  obtain ⟨len, hl⟩ : ∃ n, W.length = n := ⟨_, rfl⟩
  have HL := Lib.hid hl
  have HM := Lib.hid hm
  have HC := Lib.hid hc
  have HP := Lib.hid (plc_at hm)
  rw [hl] at hx ⊢
  clear hl hm hc ha
  go_enter Tryd.func30, Tryd.ntmps30
  go_wp2_with fail
  go_loopw [8] (fun iv wr => ∃ k : Nat, k ≤ len ∧ iv = .int .i64 k ∧ (∀ i, i < k → W.getD i 0 ≠ x) ∧ w = wr) (fun i _ => len - (intOf i).toNat)
  case atStart => exact ⟨0, Nat.zero_le _, rfl, (fun i hi => absurd hi (by omega)), rfl⟩
  case round =>
    obtain ⟨k, hk, rfl, hno, rfl⟩ := hrel
    have HNO := Lib.hid hno
    have hlt : k < len := by
      rcases Nat.lt_or_ge k len with h | h
      · exact h
      · have := HP.out
        rw [HL.out] at this
        exact absurd this.2 (hno _ (by omega))
    have cx : w.cell? ⟨b, k, none⟩ = some (.int .i64 (W.getD k 0)) := HC.out k (by rw [HL.out]; exact hlt)
    obtain ⟨y, hy⟩ : ∃ y, W.getD k 0 = y := ⟨_, rfl⟩
    rw [hy] at cx
    have HY := Lib.hid hy
    have hkl : (k : Int) < (len : Int) := by omega
    have hk0 : (0 : Int) ≤ (k : Int) := by omega
    clear hno hy
    by_cases hxy : x = y
    · subst hxy
      have HE : Hid (plc W x = k) := Lib.hid (plc_first HM.out (by rw [HL.out]; exact hlt) HY.out HNO.out)
      go_wp2_with fail
      go_ret
      exact ⟨by rw [HE.out]; rfl, Below.refl _ _⟩
    · have te : ((x : Int) == y) = false := by rw [beq_eq_false_iff_ne]; exact hxy
      have HN2 : Hid (∀ i, i < k + 1 → W.getD i 0 ≠ x) := Lib.hid (fun i hi => by
        by_cases e : i = k
        · rw [e, HY.out]; exact fun h => hxy h.symm
        · exact HNO.out i (by omega))
      go_wp2_with fail
      go_roundw
      case rel => exact ⟨k + 1, by omega, by go_num, HN2.out, trivial⟩
      case measure => simp [intOf]; omega
theorem row_holeN {B lo n m : Nat} {T : TypeId} {w w' : World} {v : Value} {us : List Value} {cs : Array Value} (h : w.ownsRow lo T n v m us) (hb : BlkA w B 54 cs) (hT : T ≠ 54) (K : Hole B w w') : w'.ownsRow lo T n v m us := row_hole h hb hT K
theorem RgOut.holeN {lo B : Nat} {w w' : World} {ov : Value} {us : List Value} {R : List (List Int)} {cs : Array Value} (h : RgOut lo w ov us R) (hb : BlkA w B 54 cs) (K : Hole B w w') : RgOut lo w' ov us R :=
  ⟨row_hole h.1 hb (by decide) K, fun j hj => row_hole (h.2.1 j hj) hb (by decide) K, h.2.2⟩

set_option maxHeartbeats 3200000 in
set_option maxRecDepth 100000 in
theorem irings_any (a b : Option Addr) (n : Nat) (W G : List Int) (w : World) (hn : W.length = n) (hsw : swB W G = true) (hv : ReadsI w (.slice a n n) W) (hu : ReadsI w (.slice b n n) G) :
    Calls Tryd.prog 19 #[.slice a n n, .slice b n n] w fun e w' => ∃ ov us, e = .returned ov ∧ RgOut w.heap.size w' ov us (rgL W G) ∧ Below w.heap.size w w' := by
  obtain ⟨i0, hi, hz0, hz1, hz2⟩ := info_parts info_i64
  obtain ⟨o0, ho0, oz0, oz1, oz2⟩ := info_parts info_rowsS
  have HN := Lib.hid hn
  have h9 : n ≤ 9 := by have := (swB_spec hsw).1.2; omega
  have HGN : Hid (G.length = n) := Lib.hid (by have := (swB_spec hsw).1.1; omega)
  have HWR := Lib.hid hv
  have HGR := Lib.hid hu
  have HCW : Hid (0 < n → ∃ bw, a = some ⟨bw, 0, none⟩ ∧ Cells w bw W) := Lib.hid (fun hp => by
    obtain ⟨a', c1, e1, ha⟩ := hv
    injection e1 with e1 e2 e3
    subst e1
    exact ha (by intro e; rw [e] at hn; simp at hn; omega))
  have HCG : Hid (0 < n → ∃ bg, b = some ⟨bg, 0, none⟩ ∧ Cells w bg G) := Lib.hid (fun hp => by
    obtain ⟨a', c1, e1, ha⟩ := hu
    injection e1 with e1 e2 e3
    subst e1
    exact ha (by intro e; have := HGN.out; rw [e] at this; simp at this; omega))
  have HSW := Lib.hid hsw
  have HRG : Hid (rgL W G = (rgI (nxt W G) n n).1.map ints) := Lib.hid (by unfold rgL; rw [hn])
  have HLT : Hid (∀ x, x < n → nxt W G x < n) := Lib.hid (fun x hx => by have := nxt_lt hsw (a := x) (by omega); omega)
  have HFX : Hid (∀ x, x < n → (nxt W G x = x ↔ W.getD x 0 = G.getD x 0)) := Lib.hid (fun x hx => nxt_fix hsw (by omega))
  have HMEM : Hid (∀ x, x < n → G.getD x 0 ∈ W) := Lib.hid (fun x hx => ((swB_spec hsw).2 x (by omega)).2.2.2)
  have HNX : Hid (∀ x, nxt W G x = plc W (G.getD x 0)) := Lib.hid (fun x => rfl)
  obtain ⟨nx, hnx⟩ : ∃ f, nxt W G = f := ⟨_, rfl⟩
  rw [hnx] at HRG HLT HFX HNX
  have bl1 : BlkA (w.alloc (.cells (bls (fun _ => false) 9) 54)) w.heap.size 54 (bls (fun _ => false) 9) := BlkA.new rfl _ _
  have b1 : Below w.heap.size w (w.alloc (.cells (bls (fun _ => false) 9) 54)) := (Below.refl _ _).alloc (Nat.le_refl _) _
  obtain ⟨W1, hW1⟩ : ∃ X, w.alloc (.cells #[.bool false, .bool false, .bool false, .bool false, .bool false, .bool false, .bool false, .bool false, .bool false] 54) = X := ⟨_, rfl⟩
  have hW1' : w.alloc (.cells (bls (fun _ => false) 9) 54) = W1 := hW1
  have HW1 := Lib.hid hW1
  rw [hW1'] at bl1 b1
  have HBL1 := Lib.hid bl1
  have HB1 := Lib.hid b1
  clear hv hu hsw hnx bl1 b1 hW1 hW1' hn
  go_enter Tryd.func19, Tryd.ntmps19
  go_wp2_with fail
  rw [HW1.out]
  go_loopw [5, 12] (fun ov iv wr => ∃ (i : Nat) (f : Nat → Bool) (us : List Value) (Rn : List (List Nat)), i ≤ n ∧ iv = .int .i64 i ∧ rgI nx n i = (Rn, f) ∧ RgOut w.heap.size wr ov us (Rn.map ints) ∧ BlkA wr w.heap.size 54 (bls f 9) ∧ Rn.length ≤ i ∧ Below w.heap.size w wr) (fun _ i _ => n - (intOf i).toNat)
  case atStart => exact ⟨0, _, [], [], Nat.zero_le _, rfl, rfl, RgOut.nil _ _, HBL1.out, Nat.le_refl _, HB1.out⟩
  case round =>
    obtain ⟨i, f, us, Rn, hin, rfl, hrg, hro, hbl, hRl, hbw⟩ := hrel
    obtain ⟨wo, hwo⟩ : ∃ wo, wo = wr := ⟨_, rfl⟩
    subst hwo
    have HRGI := Lib.hid hrg
    have HRO := Lib.hid hro
    have HBLO := Lib.hid hbl
    have HBW := Lib.hid hbw
    obtain ⟨la, lc, hlv⟩ := own_isS hro.1
    rw [List.length_map] at hlv
    subst hlv
    obtain ⟨rl, hrl⟩ : ∃ m, Rn.length = m := ⟨_, rfl⟩
    have HRL := Lib.hid hrl
    rw [hrl] at HRO hRl
    rw [hrl]
    by_cases hlt : i < n
    · have hil : (i : Int) < (n : Int) := by omega
      have hi0 : (0 : Int) ≤ (i : Int) := by omega
      obtain ⟨bw, rfl, hcw⟩ := HCW.out (by omega)
      obtain ⟨bg, rfl, hcg⟩ := HCG.out (by omega)
      have HCWx := Lib.hid hcw
      have HCGx := Lib.hid hcg
      clear hbw hbl hro hrg hcw hcg hrl
      have hBo : w.heap.size < wo.heap.size := HBLO.out.lt
      have HUSL : Hid (∀ j, j < (Rn.map ints).length → ∀ p, (us.getD j nilS).ownBlock = some p → p < wo.heap.size) := Lib.hid (fun j hj p hp => ((HRO.out.2.1 j hj).block p hp).2)
      have hi9 : i < 9 := by omega
      go_wp2_with fail
      go_loopw [8, 9] (fun rv av wr => ∃ (p k : Nat) (r : List Nat) (g : Nat → Bool), av = .int .i64 p ∧ p < n ∧ cntU g n ≤ k ∧ wlk nx n f i = (r ++ (wlk nx k g p).1, (wlk nx k g p).2) ∧ OwnI wo.heap.size wr rv (ints r) ∧ BlkA wr w.heap.size 54 (bls g 9) ∧ Hole w.heap.size wo wr ∧ Below w.heap.size w wr) (fun _ _ wr => unS w.heap.size wr n)
      case atStart => exact ⟨i, n, [], f, rfl, hlt, cntU_le f n, by simp, World.ownsRow_nil _ _ _ _, HBLO.out, Hole.refl _ _, HBW.out⟩
      case round =>
        obtain ⟨p, k, r, g, rfl, hp, hck, hwk, hri, hbl, hho, hbw⟩ := hrel
        have HWK := Lib.hid hwk
        have HRI := Lib.hid hri
        have HBL := Lib.hid hbl
        have HHO := Lib.hid hho
        have HBWR := Lib.hid hbw
        have hws : wo.heap.size ≤ wr.heap.size := hho.1
        have hp9 : p < 9 := by omega
        have hp9' : (p : Int) < 9 := by omega
        have hww : w.heap.size ≤ wr.heap.size := hbw.size
        obtain ⟨ba, bc, hbv⟩ := own_isS hri
        rw [ints_len] at hbv
        subst hbv
        have hrn : r.length ≤ n := by
          have h := congrArg (fun q => q.1.length) hwk
          simp only [List.length_append] at h
          have := wlk_len nx n f i
          omega
        obtain ⟨rn, hrn'⟩ : ∃ m, r.length = m := ⟨_, rfl⟩
        have HRN := Lib.hid hrn'
        rw [hrn'] at hrn HRI
        rw [hrn']
        have cd : wr.cell? ⟨w.heap.size, p, none⟩ = some (.bool (g p)) := (hbl.at p).trans (bls_at g (show p < 9 by omega))
        have fd := hbl.frozen p
        have hpn : (p : Int) < (n : Int) := by omega
        have hp0 : (0 : Int) ≤ (p : Int) := by omega
        clear hwk hri hho hrn'
        cases hg : g p with
        | false =>
          rw [hg] at cd
          obtain ⟨k', rfl⟩ : ∃ k', k = k' + 1 := ⟨k - 1, by have := cntU_pos hp hg; omega⟩
          have HCK : Hid (cntU (upd g p) n ≤ k') := Lib.hid (by have := cntU_upd g hg n hp; omega)
          have HWK2 : Hid (wlk nx n f i = ((r ++ [p]) ++ (wlk nx k' (upd g p) (nx p)).1, (wlk nx k' (upd g p) (nx p)).2)) := Lib.hid (by rw [HWK.out, wlk_step nx k' hg]; simp)
          have HNXP := Lib.hid (HLT.out p hp)
          have HCNT : Hid (unS w.heap.size wr n = cntU (upd g p) n + 1) := Lib.hid (by rw [unS_is HBL.out n h9, cntU_upd g hg n hp])
          have hset := (HBL.out.set p (.bool true))
          rw [bls_set g hp9] at hset
          have hB0 : w.heap.size ≠ wr.heap.size := by have := HBL.out.lt; omega
          have HSET := Lib.hid hset
          have HRI1 : Hid ((wr.setCell ⟨w.heap.size, p, none⟩ (.bool true)).ownsRow wo.heap.size 2 1 (.slice ba rn bc) rn ((ints r).map (Value.int .i64))) := Lib.hid (by
            have h := row_hole (show wr.ownsRow wo.heap.size 2 1 _ _ _ from HRI.out) HBL.out (by decide) ((Hole.refl w.heap.size wr).set p (.bool true))
            rw [ints_len, HRN.out] at h
            exact h)
          have HHO1 := Lib.hid (HHO.out.set p (.bool true))
          have HBW1 : Hid (Below w.heap.size w (wr.setCell ⟨w.heap.size, p, none⟩ (.bool true))) := Lib.hid (HBWR.out.setCell (Nat.le_refl _) _)
          have HRIA := Lib.hid (HRI1.out.alloc (.cells #[.int .i64 (p : Int)] 2))
          have HSETA := Lib.hid (HSET.out.alloc (.cells #[.int .i64 (p : Int)] 2))
          have HHOA := Lib.hid (HHO1.out.below ((Below.refl _ _).alloc (Nat.le_refl _) (.cells #[.int .i64 (p : Int)] 2)))
          have HBWA := Lib.hid (HBW1.out.alloc (by simpa using hww) (.cells #[.int .i64 (p : Int)] 2))
          clear hg hbw hbl hset
          go_wp2_with (at_builtin; refine wpList_append_own _ rfl _ _ 22 rfl wo.heap.size 2 i0 (.int .i64 0) 1 8 Tryd.underlying22 hi hz0 hz1 hz2 rfl (by decide) _ _ _ rfl HRIA.out ⟨wr.heap.size, 0, none⟩ 1 1 [.int .i64 (p : Int)] rfl rfl (by have h := cell_one_new (wr.setCell ⟨w.heap.size, p, none⟩ (.bool true)) (.int .i64 (p : Int)) 2; simpa using h) (one_rowS _ rfl) ?c3 ?c4 ?c5 ?_)
          case c3 => unfold maxLen; omega
          case c4 => omega
          case c5 => first | omega | (simp; omega)
          intro v' w5 hown' hgrow _
          have hbl5 : BlkA w5 w.heap.size 54 (bls (upd g p) 9) := (hgrow.block w.heap.size HSETA.out.lt (own_ne_blk HRIA.out HSETA.out (by decide))).trans HSETA.out
          have HBL5 := Lib.hid hbl5
          have HHO5 := Lib.hid (HHOA.out.grown hgrow (fun q hq => (HRIA.out.lt q hq).1))
          have HBW5 := Lib.hid (HBWA.out.grown hgrow (by simp; omega) (fun q hq => by have h := (HRIA.out.lt q hq).1; have h2 := HBW.out.size; omega))
          have HRI5 : Hid (OwnI wo.heap.size w5 v' (ints (r ++ [p]))) := Lib.hid (by
            unfold OwnI
            rw [ints_snoc, List.map_append, List.length_append, ints_len, HRN.out]
            exact hown')
          have cy : w5.cell? ⟨bg, p, none⟩ = some (.int .i64 (G.getD p 0)) := (HCGx.out.below HBW5.out) p (by rw [HGN.out]; exact hp)
          have HWH : Hid (Calls Tryd.prog 30 #[.slice (some ⟨bw, 0, none⟩) n n, .int .i64 (G.getD p 0)] w5 fun e w' => e = .returned (.int .i64 ((nx p : Nat) : Int)) ∧ Below w5.heap.size w5 w') := Lib.hid (by
            rw [HNX.out]
            exact iwhere_any _ W _ w5 (HWR.out.below HBW5.out) (by rw [HN.out]; omega) (HMEM.out p hp))
          obtain ⟨y2, hy2⟩ : ∃ x, G.getD p 0 = x := ⟨_, rfl⟩
          rw [hy2] at cy HWH
          clear hown' hgrow hbl5 hy2 cd fd
          go_wp2_with fail
          refine HWH.out.mono ?_
          rintro e w6 ⟨rfl, b6⟩
          have HBL6 := Lib.hid (HBL5.out.below b6)
          have HHO6 := Lib.hid (HHO5.out.below b6)
          have HBW6 := Lib.hid (blink HBW5.out b6)
          have HRI6 := Lib.hid (HRI5.out.below b6)
          clear b6 cy HWH
          go_wp2_with fail
          go_roundw
          case rel => exact ⟨nx p, k', r ++ [p], upd g p, rfl, HNXP.out, HCK.out, HWK2.out, HRI6.out, HBL6.out, HHO6.out, HBW6.out⟩
          case measure => rw [HCNT.out, unS_is HBL6.out n h9]; omega
        | true =>
          rw [hg] at cd
          have HWK2 : Hid (wlk nx n f i = (r, g)) := Lib.hid (by rw [HWK.out, wlk_seen nx k hg]; simp)
          by_cases h1r : 1 < rn
          rotate_left
          · have t1 : decide ((1 : Int) < (rn : Int)) = false := decide_eq_false (by omega)
            have t1' : decide ((rn : Int) > 1) = false := decide_eq_false (by omega)
            have HRG3 : Hid (rgI nx n (i + 1) = (Rn, g)) := Lib.hid (by rw [rgI_skip (by rw [HRGI.out]; show ¬ 1 < (wlk nx n f i).1.length; rw [HWK2.out]; show ¬ 1 < r.length; rw [HRN.out]; exact h1r), HRGI.out]; show (Rn, (wlk nx n f i).2) = _; rw [HWK2.out])
            have HO3 : Hid (RgOut w.heap.size wr (.slice la rl lc) us (Rn.map ints)) := Lib.hid (HRO.out.holeN HBLO.out HHO.out)
            clear hg hbw hbl fd h1r
            go_wp2_with fail
            go_roundw
            case rel => exact ⟨i + 1, g, us, Rn, by omega, by go_num, HRG3.out, HO3.out, HBL.out, by rw [HRL.out]; omega, HBWR.out⟩
            case measure => simp [intOf]; omega
          have t1 : decide ((1 : Int) < (rn : Int)) = true := decide_eq_true (by omega)
          have t1' : (1 : Int) < (rn : Int) := by omega
          have hrow : RgOut w.heap.size wr (.slice la rl lc) us (Rn.map ints) := HRO.out.holeN HBLO.out HHO.out
          have HROA := Lib.hid (hrow.below ((Below.refl _ _).alloc (Nat.le_refl _) (.cells #[.slice ba rn bc] 22)))
          have HROW : Hid ((wr.alloc (.cells #[.slice ba rn bc] 22)).ownsRow w.heap.size 22 1 (.slice la rl lc) rl us) := Lib.hid (by have h := HROA.out.1; rw [List.length_map, HRL.out] at h; exact h)
          have HBLA := Lib.hid (HBL.out.alloc (.cells #[.slice ba rn bc] 22))
          have HBWA := Lib.hid (HBWR.out.alloc hww (.cells #[.slice ba rn bc] 22))
          have HRIA : Hid (OwnI w.heap.size (wr.alloc (.cells #[.slice ba rn bc] 22)) (.slice ba rn bc) (ints r)) := Lib.hid ((HRI.out.mono (by have := HBW.out.size; omega)).below ((Below.refl _ _).alloc (Nat.le_refl _) _))
          have HRIB : Hid (∀ q, (Value.slice ba rn bc).ownBlock = some q → wo.heap.size ≤ q) := Lib.hid (fun q hq => (HRI.out.block q hq).1)
          have hrl9 : rl ≤ 9 := by omega
          clear hg hbw hbl hrow fd
          go_wp2_with (at_builtin; refine wpList_append_own_at _ rfl _ _ 23 rfl w.heap.size 22 o0 (.slice none 0 0) 1 24 Tryd.underlying23 ho0 oz0 oz1 oz2 rfl (by decide) _ _ _ rfl HROW.out ⟨wr.heap.size, 0, none⟩ 1 1 [.slice ba rn bc] rfl rfl (cell_one_new _ _ _) (one_rowS _ rfl) ?d3 ?d4 ?d5 ?_)
          case d3 => unfold maxLen; omega
          case d4 => omega
          case d5 => first | omega | (simp; omega)
          intro v' w3 hown' hgrow _ _
          have HO3 : Hid (RgOut w.heap.size w3 v' (us ++ [.slice ba rn bc]) ((Rn ++ [r]).map ints)) := Lib.hid (by
            rw [List.map_append]
            refine RgOut.add HROA.out HRIA.out (fun j hj p' q' hp' hq' => ?_) (by rw [List.length_map, HRL.out]; exact hown') hgrow
            have h1 := HUSL.out j hj p' hp'
            have h2 := HRIB.out q' hq'
            omega)
          have HBL3 : Hid (BlkA w3 w.heap.size 54 (bls g 9)) := Lib.hid ((hgrow.block w.heap.size HBLA.out.lt (own_ne_blk HROW.out HBLA.out (by decide))).trans HBLA.out)
          have HBW3 := Lib.hid (HBWA.out.grown hgrow (by simp; omega) (fun q hq => (HROW.out.lt q hq).1))
          have HRG3 : Hid (rgI nx n (i + 1) = (Rn ++ [r], g)) := Lib.hid (by rw [rgI_go (by rw [HRGI.out]; show 1 < (wlk nx n f i).1.length; rw [HWK2.out]; show 1 < r.length; rw [HRN.out]; exact h1r), HRGI.out]; show (Rn ++ [(wlk nx n f i).1], (wlk nx n f i).2) = _; rw [HWK2.out])
          clear hown' hgrow
          go_wp2_with fail
          go_roundw
          case rel => exact ⟨i + 1, g, _, _, by omega, by go_num, HRG3.out, HO3.out, HBL3.out, by rw [List.length_append, HRL.out]; simp; omega, HBW3.out⟩
          case measure => simp [intOf]; omega
    · have hk : i = n := by omega
      have HFIN : Hid (RgOut w.heap.size wo (.slice la rl lc) us (rgL W G)) := Lib.hid (by have h := HRGI.out; rw [hk] at h; rw [HRG.out, h]; exact HRO.out)
      clear hbw hbl hro hrg hrl hk
      go_wp2_with fail
      go_ret
      exact ⟨_, us, rfl, HFIN.out, HBW.out⟩
end Go.Proofs.YtocogipejchneaaDoor
