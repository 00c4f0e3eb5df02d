/-
  Texts of a walk, put together.
-/
import Derived.Test.YtamnojhkfknnoaaMoA
import Derived.Test.YtamnojhkfknnoaaMMostA
import Derived.Test.YtamnojhkfknnoaaNtL
import Derived.Test.YtamnojhkfknnoaaArG
import Derived.Deep.RegionHeld3
import Derived.BigQuiet
import Derived.RangeFuncBox
import Derived.RangeFuncLeaves
import Derived.RangeFuncNested
import Derived.RangeFuncWrites
import Derived.Shelf.Abstract
import Derived.OwnWalkIn
import Derived.TacticsInMore
import Derived.LoopNIn
import Derived.LoopIn
import Derived.Test.YtamnojhkfknnoaaBase
import Derived.Test.YtamnojhkfknnoaaProg
import Derived.Test.YtamnojhkfknnoaaRScan
import Derived.Test.YtamnojhkfknnoaaOwO
import Derived.OrdersIn
import Derived.TacticsIn
import Derived.Test.YtamnojhkfknnoaaIn
import Derived.Test.YtamnojhkfknnoaaMoP
import Derived.Test.YtamnojhkfknnoaaToJ
import Derived.Test.YtamnojhkfknnoaaBlk
import Derived.Test.YtamnojhkfknnoaaOwA
import Derived.Test.YtamnojhkfknnoaaOwF
import Derived.Test.YtamnojhkfknnoaaNtA
import Derived.Test.YtamnojhkfknnoaaTScan
import Derived.Test.YtamnojhkfknnoaaToI
import Derived.Test.YtamnojhkfknnoaaKeepO
import Derived.Test.YtamnojhkfknnoaaEScan
import Derived.Test.YtamnojhkfknnoaaMScan
/-
  The model's MostScans.
-/
namespace Go.Proofs.Ytamnojhkfknnoaa
open Go Go.RowKit
set_option linter.unusedVariables false

noncomputable def goG (sy : Int) (ps : List Lan) (cs : List (Int × Int)) (i k : Nat) : Bool := arrB ps (-1) sy (cs.getD i (0, 0)).1 (cs.getD i (0, 0)).2 (cs.getD k (0, 0)).1 (cs.getD k (0, 0)).2
/-- The answer. -/
noncomputable def moR (st sy : Int) (ps : List Lan) (cs : List (Int × Int)) : List Int := if csC st sy ps cs = 0 then BK (goG sy ps cs) cs.length cs.length else []
/-- The row of lengths. -/
def OwnT (lo : Nat) (w : World) (g m : Nat) (L : List Int) : Prop := w.ownsRow lo 3 1 (.slice (some ⟨g, 0, none⟩) m m) m (L.map (Value.int .i64))
theorem OwnT.below {lo g m : Nat} {w w' : World} {L : List Int} (h : OwnT lo w g m L) (hb : Below w.heap.size w w') : OwnT lo w' g m L := row_same h hb
theorem OwnT.len {lo g m : Nat} {w : World} {L : List Int} (h : OwnT lo w g m L) : L.length = m := by have := h.1; simpa using this
theorem OwnT.cell {lo g m : Nat} {w : World} {L : List Int} (h : OwnT lo w g m L) {j : Nat} (hj : j < m) : w.cell? ⟨g, j, none⟩ = some (.int .i64 (L.getD j 0)) := by
  have hl := h.len
  rw [World.ownsRow.cellAt h j (by omega)]
  simp [List.getD, show j < L.length by omega]
theorem OwnT.frozen {lo g m : Nat} {w : World} {L : List Int} (h : OwnT lo w g m L) (j : Nat) : w.frozen? ⟨g, j, none⟩ = false := by
  rcases h.2 with ⟨e, _⟩ | ⟨g', cap, cur, e, _, hg, _⟩
  · simp at e
  · simp only [Value.slice.injEq, Option.some.injEq, Addr.mk.injEq, and_true, true_and] at e
    rw [e.1]
    exact frozen_of_row w g' j _ _ hg
theorem OwnT.lt {lo g m : Nat} {w : World} {L : List Int} (h : OwnT lo w g m L) : lo ≤ g ∧ g < w.heap.size := World.ownsRow.lt h g rfl
theorem OwnT.put {lo g m : Nat} {w : World} {L : List Int} (h : OwnT lo w g m L) (j : Nat) (x : Int) : OwnT lo (w.setCell ⟨g, j, none⟩ (.int .i64 x)) g m (L.set j x) := by
  unfold OwnT
  rw [List.map_set]
  exact (World.ownsRow.stored h j (.int .i64 x)).1
theorem made_T {w : World} {B g n : Nat} (h : w.ownsRow B 3 1 (.slice (some ⟨g, 0, none⟩) n n) n (madeCells (Value.int .i64 0).cells (n * 1)).toList) : OwnT B w g n (List.replicate n (0 : Int)) := by
  have e : (madeCells (Value.int .i64 0).cells (n * 1)).toList = (List.replicate n (0 : Int)).map (Value.int .i64) := by
    apply List.ext_getElem
    · simp [madeCells]
    · intro i h1 h2
      simp [madeCells, Value.cells, Nat.mod_one]
  unfold OwnT
  rw [← e]; exact h

/-- Nothing that was there turns but block g. -/
def Keeps3 (g : Nat) (w w' : World) : Prop := w.heap.size ≤ w'.heap.size ∧ ∀ b, b < w.heap.size → b ≠ g → w'.heap[b]? = w.heap[b]?
theorem Keeps3.refl (g : Nat) (w : World) : Keeps3 g w w := ⟨Nat.le_refl _, fun _ _ _ => rfl⟩
theorem Keeps3.set {g : Nat} {w w' : World} (h : Keeps3 g w w') (B j : Nat) (u : Value) (hB : B = g) : Keeps3 g w (w'.setCell ⟨B, j, none⟩ u) :=
  ⟨by simpa using h.1, fun b hb hne => (heap_setCell_other w' ⟨B, j, none⟩ b u (by rw [hB]; exact hne)).trans (h.2 b hb hne)⟩
theorem Keeps3.drew {g : Nat} {w w' : World} (h : Keeps3 g w w') : Keeps3 g w w'.drew := h
theorem Keeps3.row {g B n k : Nat} {T : TypeId} {w w' : World} {v : Value} {xs : List Value} (h : Keeps3 g w w') (o : w.ownsRow B T n v k xs) (hne : v.ownBlock ≠ some g) : w'.ownsRow B T n v k xs := by
  refine ⟨o.1, ?_⟩
  rcases o.2 with hn | ⟨g', cap, cur, rfl, hB, hg, rest⟩
  · exact .inl hn
  · exact .inr ⟨g', cap, cur, rfl, hB, by rw [h.2 g' (Array.getElem?_eq_some_iff.1 hg).1 (fun e => hne (by simp [Value.ownBlock, e]))]; exact hg, rest⟩
theorem Keeps3.own {g lo hi : Nat} {w w' : World} {v : Value} {R : List (List Bool)} (h : Keeps3 g w w') (o : OwnG lo hi w v R) (hg : g < lo) : OwnG lo hi w' v R := by
  obtain ⟨us, h1, h2, h3, h4⟩ := o
  exact ⟨us, h.row h1 (fun e => by have := (h1.lt g e).1; omega), fun j hj => h.row (h2 j hj) (fun e => by have := (World.ownsRow.lt (h2 j hj) g e).1; omega), h3, h4⟩
theorem Keeps3.cell {g : Nat} {w w' : World} (h : Keeps3 g w w') {p : Addr} (hb : p.block < w.heap.size) (hne : p.block ≠ g) : w'.cell? p = w.cell? p := World.cell?_of_block (h.2 _ hb hne)

set_option maxHeartbeats 16000000 in
set_option maxRecDepth 100000 in
theorem smost_any (st sy : Int) (v : Value) (g m : Nat) (ps : List Lan) (cs : List (Int × Int)) (w : World) (hn : FitN st sy ps) (hf : FitsSc cs) (hv : ReadsLa w v ps) (hu : ReadsSc w (.slice (some ⟨g, 0, none⟩) m m) cs) (hx : cs.length ≤ 1048576) :
    Calls Try.prog 7 #[netV st sy v, .slice (some ⟨g, 0, none⟩) m m] w (RetL1 w.heap.size w (moR st sy ps cs) (csC st sy ps cs)) := by
  obtain ⟨i0, hi, hz0, hz1, hz2⟩ := info_parts info_i64
  have HM : Hid (cs.length = m) := Lib.hid (by obtain ⟨_, _, e, _⟩ := hu; injection e with e1 e2 e3; exact e2.symm)
  have b0 : Below w.heap.size w (w.alloc (.cells #[.int .i8 st, .int .i16 sy, v] 35)) := (Below.refl _ _).alloc (Nat.le_refl _) _
  have BN0 : BlkA (w.alloc (.cells #[.int .i8 st, .int .i16 sy, v] 35)) w.heap.size 35 (netB st sy v) := BlkA.new rfl _ _
  obtain ⟨W0, hW0⟩ : ∃ W, w.alloc (.cells #[.int .i8 st, .int .i16 sy, v] 35) = W := ⟨_, rfl⟩
  rw [hW0] at b0 BN0
  have hs0 : W0.heap.size = w.heap.size + 1 := by rw [← hW0]; simp
  have ho1 : (W0.alloc (.cells #[] 2)).ownsRow W0.heap.size 2 1 (.slice (some ⟨W0.heap.size, 0, none⟩) 0 0) 0 [] := World.ownsRow_made W0 #[] 0 (Nat.le_refl _) (Nat.zero_le _) rfl
  have b1 : Below W0.heap.size W0 (W0.alloc (.cells #[] 2)) := (Below.refl _ _).alloc (Nat.le_refl _) _
  obtain ⟨W1, hW⟩ : ∃ W, W0.alloc (.cells #[] 2) = W := ⟨_, rfl⟩
  rw [hW] at b1 ho1
  have HB0 := Lib.hid b0
  have HB01 := Lib.hid b1
  have HB1 := Lib.hid (blink b0 b1)
  have HBN := Lib.hid BN0
  have HV1 := Lib.hid (hv.below (blink b0 b1))
  have HU1 := Lib.hid (hu.below (blink b0 b1))
  have HUW := Lib.hid hu
  have HVW := Lib.hid hv
  have HCHK := Lib.hid (sscans_any w.heap.size st sy v ps _ cs true W1 hn (hv.below (blink b0 b1)) (hu.below (blink b0 b1)) hf hx (BN0.below b1))
  rw [Bool.true_and] at HCHK
  rw [hs0] at ho1
  have HO1 : Hid (OwnI W0.heap.size W1 (.slice (some ⟨w.heap.size + 1, 0, none⟩) 0 0) []) := Lib.hid (by rw [hs0]; exact ho1)
  rw [← hW0] at hW
  have HW := Lib.hid hW
  clear hW hW0 b0 b1 BN0 hv hu hn hf ho1 hs0
  go_enter Try.func7, Try.ntmps7
  go_wp2_with fail
  rw [HW.out]
  refine HCHK.out.mono ?_
  rintro e w2 ⟨rfl, b2⟩
  have HB2 := Lib.hid (blink HB1.out b2)
  have HB02 := Lib.hid (blink HB01.out b2)
  have HO2 := Lib.hid (HO1.out.below b2)
  obtain ⟨c, hc⟩ : ∃ c, csC st sy ps cs = c := ⟨_, rfl⟩
  have HC := Lib.hid hc
  rw [show scnC st sy ps (scsB st cs) cs.length = csC st sy ps cs from rfl, hc]
  clear b2 HCHK hc HW HV1 HU1
  by_cases hz : c = 0
  rotate_left
  · have HR : Hid (moR st sy ps cs = []) := Lib.hid (by unfold moR; rw [HC.out, if_neg hz])
    have t1 : (c != 0) = true := by simp [hz]
    have t0 : (c == 0) = false := by simp [hz]
    clear hz
    go_wp2_with fail
    go_ret2
    exact ⟨_, ret_pair HC.out.symm, by rw [HR.out]; exact HO2.out.mono HB0.out.size, HB2.out⟩
  subst hz
  obtain ⟨hvl, hsb, h12⟩ := scnC_ok HC.out
  have hok := vldN_spec hvl
  have hsc : OkScTo st cs cs.length := of_decide_eq_true hsb
  obtain ⟨sn, yn, rfl, rfl⟩ := net_nat hok
  obtain ⟨G, hG⟩ : ∃ G, goG (yn : Int) ps cs = G := ⟨_, rfl⟩
  have HG := Lib.hid hG
  have HR : Hid (moR (sn : Int) (yn : Int) ps cs = gr G (lo G m) m 0 (-1) (NK (lo G m) m)) := Lib.hid (by unfold moR; rw [if_pos HC.out, HM.out, ← most_same, hG])
  have HOK := Lib.hid hok
  have HSC := Lib.hid hsc
  have HS8 : Hid ((sn : Int) ≤ 8) := Lib.hid hok.1.2
  rw [HM.out] at h12
  obtain ⟨j0, hj, hy0, hy1, hy2⟩ := info_parts info_int
  obtain ⟨k0, hk0, hx0, hx1, hx2⟩ := info_parts info_bool
  obtain ⟨l0, hl0, hw0, hw1, hw2⟩ := info_parts info_bools
  have hs2 : W0.heap.size ≤ w2.heap.size := HB02.out.size
  clear hvl hsb hok hsc hG
  go_wp2_with (refine wpList_make_full _ rfl _ _ 55 rfl w2.heap.size 3 j0 (.int .i64 0) 1 Try.underlying55 hj hy0 hy1 .i64 .i64 _ _ m rfl rfl rfl rfl (by rw [hy2]; omega) (by unfold maxLen; omega) (Nat.le_refl _) ?_; intro w3 hown3 hg3; have HT3 := Lib.hid (made_T hown3); have HB23 := Lib.hid ((Below.refl w2.heap.size w2).grown hg3 (Nat.le_refl _) (fun i hi => by cases hi)); clear hown3 hg3)
  have hg4 : OwnG w3.heap.size (w3.alloc (.cells #[] 59)).heap.size (w3.alloc (.cells #[] 59)) (.slice (some ⟨w3.heap.size, 0, none⟩) 0 0) (goRows G m 0) := OwnG.made _ _ _ (Nat.le_refl _) (by simp)
  have b4 : Below w3.heap.size w3 (w3.alloc (.cells #[] 59)) := (Below.refl _ _).alloc (Nat.le_refl _) _
  have HG4 := Lib.hid hg4
  have HB4 := Lib.hid b4
  have HB3 := Lib.hid (blink HB2.out HB23.out)
  clear hg4 b4
  go_loopw [9, 10] (fun gv i wr => ∃ k : Nat, k ≤ m ∧ i = .int .i64 k ∧ OwnG w3.heap.size wr.heap.size wr gv (goRows G m k) ∧ Below w3.heap.size w3 wr) (fun _ i _ => m - (intOf i).toNat)
  case atStart => exact ⟨0, Nat.zero_le _, rfl, HG4.out, HB4.out⟩
  case round =>
    obtain ⟨k, hk, rfl, hown, hnx⟩ := hrel
    obtain ⟨wo, rfl⟩ : ∃ W, W = wr := ⟨_, rfl⟩
    have HNX := Lib.hid hnx
    have HOW := Lib.hid hown
    by_cases hlt : k < m
    · have hkl : (k : Int) < (m : Int) := by omega
      have hk0' : (0 : Int) ≤ (k : Int) := by omega
      have HBW : Hid (Below w.heap.size w wo) := Lib.hid (blink HB3.out hnx)
      have hgc : CellsSc wo g cs := by
        obtain ⟨a', cap', e, h⟩ := HUW.out
        injection e with e1 e2 e3
        obtain ⟨b', e', h'⟩ := h (by intro e; have := HM.out; rw [e] at this; simp at this; omega)
        rw [← e1] at e'
        injection e' with e'
        injection e' with e'
        subst e'
        exact h'.below HBW.out
      have HGC := Lib.hid hgc
      obtain ⟨s1, t1, hst, hs8, ht3⟩ := ok_nats HS8.out HSC.out (i := k) (by rw [HM.out]; exact hlt)
      obtain ⟨c0, c1⟩ := hgc k (by rw [HM.out]; exact hlt)
      have HST := Lib.hid hst
      rw [hst] at c0 c1
      simp only at c0 c1
      have HBEH := Lib.hid (sbehind_any w.heap.size sn yn v ps s1 t1 (-1) HOK.out hs8 ht3 ⟨by omega, by omega⟩ wo (HVW.out.below HBW.out) ((HBN.out.below (blink HB02.out (HB23.out)) : BlkA w3 _ _ _).below hnx))
      clear hst hgc hnx hown
      go_wp2_with fail
      refine HBEH.out.mono ?_
      rintro e w5 ⟨Bt, rfl, hBt, hmk, hb5⟩
      obtain ⟨csM, A, bt, hT, hA⟩ := hmk
      have hr5 : OwnBl w5.heap.size (w5.alloc (.cells #[] 4)) (.slice (some ⟨w5.heap.size, 0, none⟩) 0 0) (goRow G 0 k) := OwnBl.made w5
      have b6 : Below w5.heap.size w5 (w5.alloc (.cells #[] 4)) := (Below.refl _ _).alloc (Nat.le_refl _) _
      have HR5 := Lib.hid hr5
      have HB6 := Lib.hid b6
      have HB5 := Lib.hid hb5
      have HBT := Lib.hid bt
      have HTI := Lib.hid hT
      have HA : Hid (∀ s h : Nat, s < 8 → h ≤ 300 → ∀ q, cs.getD q (0, 0) = ((s : Int), (h : Int)) → A s h = G k q) := Lib.hid (fun s h h1 h2 q hq => by
        have e1 := hA s h h1 h2
        have e2 : G k q = arrB ps (-1) (yn : Int) (s1 : Int) (t1 : Int) (s : Int) (h : Int) := by
          rw [← HG.out]; unfold goG; rw [HST.out, hq]
        rw [e2]
        exact arrB_of e1)
      have HGC5 := Lib.hid (HGC.out.below hb5)
      have HOW5 := Lib.hid (HOW.out.below hb5)
      have HNX5 := Lib.hid (blink HNX.out hb5)
      have hbt5 : Bt < w5.heap.size := bt.lt
      clear hr5 b6 hb5 bt hT hA HBEH c0 c1
      go_wp2_with fail
      go_loopw [12, 13] (fun rv j wr => ∃ q : Nat, q ≤ m ∧ j = .int .i64 q ∧ OwnBl w5.heap.size wr rv (goRow G q k) ∧ Below w5.heap.size w5 wr) (fun _ j _ => m - (intOf j).toNat)
      case atStart => exact ⟨0, Nat.zero_le _, rfl, HR5.out, HB6.out⟩
      case round =>
        obtain ⟨q, hq, rfl, hro, hny⟩ := hrel
        obtain ⟨wi, rfl⟩ : ∃ W, W = wr := ⟨_, rfl⟩
        have HNY := Lib.hid hny
        have HRO := Lib.hid hro
        by_cases hlq : q < m
        · have hql : (q : Int) < (m : Int) := by omega
          have hq0 : (0 : Int) ≤ (q : Int) := by omega
          obtain ⟨s2, t2, hst2, hs28, ht23⟩ := ok_nats HS8.out HSC.out (i := q) (by rw [HM.out]; exact hlq)
          have hgw : CellsSc wi g cs := HGC5.out.below hny
          obtain ⟨c0, c1⟩ := hgw q (by rw [HM.out]; exact hlq)
          have zb : wi.cell? ⟨Bt, s2 * 301 + t2, none⟩ = some (.bool (G k q)) := by
            rw [← HA.out s2 t2 hs28 ht23 q hst2]
            exact ((BlkA.below HBT.out hny).at _).trans (HTI.out.at' s2 t2 hs28 ht23)
          rw [hst2] at c0 c1
          simp only at c0 c1
          obtain ⟨b, hb⟩ : ∃ b, G k q = b := ⟨_, rfl⟩
          rw [hb] at zb
          have HS1 : Hid (goRow G (q + 1) k = goRow G q k ++ [b]) := Lib.hid (by rw [goRow_succ, hb])
          have hrow := hro
          unfold OwnBl at hrow
          rw [goRow_len] at hrow
          have HROW := Lib.hid hrow
          have hs2' : (s2 : Int) < 8 := by omega
          have ht2' : (t2 : Int) < 301 := by omega
          have hs20 : (0 : Int) ≤ (s2 : Int) := by omega
          have ht20 : (0 : Int) ≤ (t2 : Int) := by omega
          have SD : wi.drew.cell? ⟨g, q * 2, none⟩ = some (.int .i8 (s2 : Int)) ∧ wi.drew.cell? ⟨g, q * 2 + 1, none⟩ = some (.int .i16 (t2 : Int)) ∧ wi.drew.cell? ⟨Bt, s2 * 301 + t2, none⟩ = some (.bool b) := ⟨c0, c1, zb⟩
          have hgs : g < wi.heap.size := World.block_lt_of_cell? wi _ c0
          have hbs : Bt < wi.heap.size := World.block_lt_of_cell? wi _ zb
          have BA : ∀ o : Obj, Below wi.heap.size wi (wi.drew.alloc o) := fun o => ((Below.refl _ _).drew).alloc (Nat.le_refl _) _
          have SA : ∀ o : Obj, (wi.drew.alloc o).cell? ⟨g, q * 2, none⟩ = some (.int .i8 (s2 : Int)) ∧ (wi.drew.alloc o).cell? ⟨g, q * 2 + 1, none⟩ = some (.int .i16 (t2 : Int)) ∧ (wi.drew.alloc o).cell? ⟨Bt, s2 * 301 + t2, none⟩ = some (.bool b) := fun o =>
            ⟨((BA o).cell (p := ⟨g, q * 2, none⟩) hgs).trans c0, ((BA o).cell (p := ⟨g, q * 2 + 1, none⟩) hgs).trans c1, ((BA o).cell (p := ⟨Bt, s2 * 301 + t2, none⟩) hbs).trans zb⟩
          have HBA := Lib.hid BA
          have HSA := Lib.hid SA
          have hsz5 : w5.heap.size ≤ wi.heap.size := hny.size
          have hgb5 : g < w5.heap.size := by
            have := HGC5.out q (by rw [HM.out]; exact hlq)
            rw [hst2] at this
            exact World.block_lt_of_cell? w5 _ this.1
          clear hst2 hgw hb hro hny hrow BA c0 c1 zb
          go_wp2_with fail
          go_region_held3 (fun v => v.cell? ⟨g, q * 2, none⟩ = some (.int .i8 (s2 : Int)) ∧ v.cell? ⟨g, q * 2 + 1, none⟩ = some (.int .i16 (t2 : Int)) ∧ v.cell? ⟨Bt, s2 * 301 + t2, none⟩ = some (.bool b)) (first | (with_reducible exact zS) | (with_reducible exact SD) | (exact HSA.out _))
            ((refine step_append_bool rfl _ _ rfl w5.heap.size q _ _ b wi.heap.size rfl rfl (row_same HROW.out (HBA.out _)) (heap_alloc_new wi.drew _) (by omega) (Nat.le_trans hsz5 (HBA.out _).size) ?_; intro v' z hz1 hz2; have zS : z.cell? ⟨g, q * 2, none⟩ = some (.int .i8 (s2 : Int)) ∧ z.cell? ⟨g, q * 2 + 1, none⟩ = some (.int .i16 (t2 : Int)) ∧ z.cell? ⟨Bt, s2 * 301 + t2, none⟩ = some (.bool b) := by
                have hbz : Below w5.heap.size (wi.drew.alloc (.cells #[.bool b] 4)) z := (Below.refl _ _).grown hz2 (Nat.le_trans hsz5 (HBA.out _).size) (fun i hi => (HROW.out.lt i hi).1)
                exact ⟨(hbz.cell (p := ⟨g, q * 2, none⟩) hgb5).trans (HSA.out _).1, (hbz.cell (p := ⟨g, q * 2 + 1, none⟩) hgb5).trans (HSA.out _).2.1, (hbz.cell (p := ⟨Bt, s2 * 301 + t2, none⟩) hbt5).trans (HSA.out _).2.2⟩))
          have HRO2 : Hid (OwnBl w5.heap.size z v' (goRow G (q + 1) k)) := Lib.hid (by unfold OwnBl; rw [HS1.out, List.length_append, goRow_len, List.map_append]; exact hz1)
          have HNY2 : Hid (Below w5.heap.size w5 z) := Lib.hid (((HNY.out.drew).alloc hsz5 _).grown hz2 (Nat.le_trans hsz5 (HBA.out _).size) (fun i hi => (HROW.out.lt i hi).1))
          clear zS hz1 hz2 SD
          go_wp2_with fail
          go_roundw
          case rel => exact ⟨q + 1, by omega, by go_num, HRO2.out, HNY2.out⟩
          case measure => (simp [intOf]; try omega)
        · have hq' : q = m := by omega
          subst hq'
          have hql : ¬ (q : Int) < (q : Int) := by omega
          have hrow := hro
          unfold OwnBl at hrow
          rw [goRow_len] at hrow
          obtain ⟨gr1, cr, rfl, hgr, hgr2⟩ := World.ownsRow.form hrow (by omega)
          obtain ⟨us, o1, o2, o3, o4⟩ := HOW5.out.below hny
          have hs35 : w3.heap.size ≤ w5.heap.size := HNX5.out.size
          have hs5i : w5.heap.size ≤ wi.heap.size := hny.size
          have HN3 := Lib.hid (blink HNX5.out hny)
          have ba : Below wi.heap.size wi (wi.alloc (.cells #[.slice (some ⟨gr1, 0, none⟩) q cr] 59)) := (Below.refl _ _).alloc (Nat.le_refl _) _
          have O1 := row_same o1 ba
          rw [goRows_len] at O1
          have HO1' := Lib.hid O1
          have HU := Lib.hid ((OwnBl.below hro ba).mono hs35)
          have HO2' : Hid (∀ j, j < (goRows G q k).length → OwnBl w3.heap.size (wi.alloc (.cells #[.slice (some ⟨gr1, 0, none⟩) q cr] 59)) (us.getD j nilG) ((goRows G q k).getD j [])) := Lib.hid (fun j hj => (o2 j hj).below ba)
          have hk1 : k ≤ 12 := by omega
          clear hro hny hrow o1 o2 o3 o4 ba O1
          go_wp2_with (at_builtin; refine wpList_append_own _ rfl _ _ 56 rfl w3.heap.size 59 l0 nilG 1 24 Try.underlying56 hl0 hw0 hw1 hw2 rfl (by decide) _ _ _ rfl HO1'.out ⟨wi.heap.size, 0, none⟩ 1 1 [.slice (some ⟨gr1, 0, none⟩) q cr] rfl rfl ?c1 ?c2 ?c3 ?c4 ?c5 ?_)
          case c2 => rfl
          case c3 => unfold maxLen; omega
          case c4 => omega
          case c5 => first | omega | (simp; omega)
          intro v' w9 hown' hgrow _
          have HG9 : Hid (OwnG w3.heap.size w9.heap.size w9 v' (goRows G q (k + 1))) := Lib.hid (by
            rw [goRows_succ]
            have h1 := HO1'.out
            rw [show k = (goRows G q k).length from (goRows_len G q k).symm] at h1 hown'
            exact OwnG.push h1 HO2'.out HU.out hown' hgrow (Nat.le_refl _))
          have HN9 : Hid (Below w3.heap.size w3 w9) := Lib.hid ((HN3.out.alloc (by omega) _).grown hgrow (by simp; omega) (fun i hi => (HO1'.out.lt i hi).1))
          clear hown' hgrow
          go_wp2_with fail
          go_roundw
          case rel => exact ⟨k + 1, by omega, by go_num, HG9.out, HN9.out⟩
          case measure => (simp [intOf]; try omega)
    · have hkm : k = m := by omega
      subst hkm
      have hkl : ¬ (k : Int) < (k : Int) := by omega
      have HTO := Lib.hid (HT3.out.below hnx)
      have HBO := Lib.hid (blink HB23.out hnx)
      have HGO : Hid (OwnG w3.heap.size wo.heap.size wo _ (goRows G k k)) := Lib.hid hown
      have hs23 : w2.heap.size < w3.heap.size := HT3.out.lt.2
      have hs3o : w3.heap.size ≤ wo.heap.size := hnx.size
      have HOU := Lib.hid (HO2.out.below HBO.out)
      clear hown hnx
      go_wp2_with fail
      go_loopw [14] (fun i wr => ∃ (d : Nat) (L : List Int), d ≤ k ∧ i = .int .i64 ((d : Int) - 1) ∧ (∀ j, d ≤ j → j < k → L.getD j 0 = (lo G k j : Int)) ∧ OwnT w2.heap.size wr w2.heap.size k L ∧ Keeps3 w2.heap.size wo wr ∧ Below w2.heap.size w2 wr) (fun i _ => (intOf i + 1).toNat)
      case atStart => exact ⟨k, _, Nat.le_refl _, rfl, fun j h1 h2 => by omega, HTO.out, Keeps3.refl _ _, HBO.out⟩
      case round =>
        obtain ⟨d, L, hd, rfl, hL, hT, hK, hBl⟩ := hrel
        have HBL := Lib.hid hBl
        have HT := Lib.hid hT
        have HK := Lib.hid hK
        have HL := Lib.hid hL
        by_cases hd0 : 0 < d
        · obtain ⟨e, rfl⟩ : ∃ e, d = e + 1 := ⟨d - 1, by omega⟩
          have he : (((e + 1 : Nat) : Int) - 1) = (e : Int) := by omega
          rw [he]
          have hek : e < k := by omega
          have heki : (e : Int) < (k : Int) := by omega
          have he0 : (0 : Int) ≤ (e : Int) := by omega
          have hfr := hT.frozen e
          have hcl := hT.cell hek
          have HWR : Hid (IntKind.i64.wrap ((e : Int) + 1) = ((e + 1 : Nat) : Int)) := Lib.hid (by rw [show (e : Int) + 1 = ((e + 1 : Nat) : Int) by omega]; exact IntWalk.i64_in _ (by omega))
          have hwr := HWR.out
          have HT1 := Lib.hid (hT.put e 1)
          have HK1 := Lib.hid (HK.out.set (w2.heap.size) e (.int .i64 1) rfl)
          have HBL1 := Lib.hid (HBL.out.setCell (p := ⟨w2.heap.size, e, none⟩) (Nat.le_refl _) (.int .i64 1))
          clear hT hK hL hBl
          go_wp2_with fail
          go_loopw [15] (fun x wr => ∃ j : Nat, e + 1 + j ≤ k ∧ x = .int .i64 ((e + 1 + j : Nat) : Int) ∧ OwnT w2.heap.size wr w2.heap.size k (L.set e ((LK G (lo G k) e j : Nat) : Int)) ∧ Keeps3 w2.heap.size wo wr ∧ Below w2.heap.size w2 wr) (fun x _ => k - (intOf x).toNat)
          case atStart => exact ⟨0, by omega, by go_num, HT1.out, HK1.out, HBL1.out⟩
          case round =>
            obtain ⟨j, hj', rfl, hT, hK, hBl⟩ := hrel
            have HBL4 := Lib.hid hBl
            obtain ⟨c, hc⟩ : ∃ c, e + 1 + j = c := ⟨_, rfl⟩
            have HCJ := Lib.hid hc
            rw [hc] at hj' ⊢
            have HT4 := Lib.hid hT
            have HK4 := Lib.hid hK
            by_cases hck : c < k
            · have hcki : (c : Int) < (k : Int) := by omega
              have hc0 : (0 : Int) ≤ (c : Int) := by omega
              obtain ⟨g2, cap2, gj, cj, rfl, q1, q2, q3, q4⟩ := HGO.out.goes hek hck
              have z1 := (hK.cell (p := ⟨g2, e, none⟩) (World.block_lt_of_cell? wo _ q1) (by simp only; omega)).trans q1
              have z2 := (hK.cell (p := ⟨gj, c, none⟩) (World.block_lt_of_cell? wo _ q2) (by simp only; omega)).trans q2
              have hfr := hT.frozen e
              have y1 := hT.cell hek
              have y2 := hT.cell hck
              have hLl : e < L.length := by have := hT.len; simp at this; omega
              rw [show (L.set e ((LK G (lo G k) e j : Nat) : Int)).getD e 0 = ((LK G (lo G k) e j : Nat) : Int) by simp [List.getD, hLl]] at y1
              rw [show (L.set e ((LK G (lo G k) e j : Nat) : Int)).getD c 0 = (lo G k c : Int) by
                rw [← HL.out c (by omega) hck]
                simp [List.getD, show ¬ e = c by omega]] at y2
              have HY := Lib.hid (LK_yes (G := G) (l := lo G k) (i := e) (j := j))
              have HN := Lib.hid (LK_no (G := G) (l := lo G k) (i := e) (j := j))
              have hb1 := lo_le (G := G) k c
              have hb2 : LK G (lo G k) e j ≤ k + 1 := LK_le fun i _ => lo_le (G := G) k _
              rw [hc] at HY HN
              have HP := Lib.hid (fun (x : Int) => hT.put e x)
              have HKP := Lib.hid (fun (x : Int) => (hK.set (w2.heap.size) e (.int .i64 x) rfl).drew)
              have HBP := Lib.hid (fun (x : Int) => (hBl.setCell (p := ⟨w2.heap.size, e, none⟩) (Nat.le_refl _) (.int .i64 x)).drew)
              obtain ⟨x, hx1⟩ : ∃ x, LK G (lo G k) e j = x := ⟨_, rfl⟩
              obtain ⟨y, hy1'⟩ : ∃ y, lo G k c = y := ⟨_, rfl⟩
              rw [hx1] at y1 HY HN hb2
              rw [hy1'] at y2 HY hb1
              have hwy : IntKind.i64.wrap ((y : Int) + 1) = (y : Int) + 1 := IntWalk.i64_in _ (by omega)
              have hwc : IntKind.i64.wrap ((c : Int) + 1) = ((c + 1 : Nat) : Int) := by rw [show (c : Int) + 1 = ((c + 1 : Nat) : Int) by omega]; exact IntWalk.i64_in _ (by omega)
              clear hT hK hBl q1 q2 hc
              cases hG : G e c
              · rw [hG] at z2
                have HN2 := Lib.hid (HN.out hG)
                clear hG
                go_wp2_with fail
                go_roundw
                case rel => exact ⟨j + 1, by have := HCJ.out; omega, by have := HCJ.out; go_num, by rw [HN2.out, ← hx1]; exact HT4.out, HK4.out, HBL4.out⟩
                case measure => (simp [intOf]; try omega)
              · rw [hG] at z2
                have HY2 := Lib.hid (HY.out hG)
                clear hG
                go_wp2_with fail
                go_region
                have hmx : (if (x : Int) < (y : Int) + 1 then (y : Int) + 1 else (x : Int)) = ((LK G (lo G k) e (j + 1) : Nat) : Int) := by
                  rw [HY2.out, Nat.max_def]; split <;> split <;> omega
                have HTN := Lib.hid (HP.out (((LK G (lo G k) e (j + 1) : Nat) : Int)))
                have HKN := Lib.hid (HKP.out (((LK G (lo G k) e (j + 1) : Nat) : Int)))
                have HBN' := Lib.hid (HBP.out (((LK G (lo G k) e (j + 1) : Nat) : Int)))
                rw [hmx]
                clear hmx
                go_wp2_with fail
                go_roundw
                case rel => exact ⟨j + 1, by have := HCJ.out; omega, by have := HCJ.out; go_num, by have h := HTN.out; rw [List.set_set] at h; exact h, HKN.out, HBN'.out⟩
                case measure => (simp [intOf]; try omega)
            · have hck' : c = k := by omega
              have HLE : Hid (LK G (lo G k) e j = lo G k e) := Lib.hid (by rw [lo_eq hek]; congr 1; have := HCJ.out; omega)
              have hcki : ¬ (c : Int) < (k : Int) := by omega
              have hwe : IntKind.i64.wrap ((e : Int) - 1) = (e : Int) - 1 := IntWalk.i64_in _ (by omega)
              have hLl : e < L.length := by have := hT.len; simp at this; omega
              have HL2 : Hid (∀ j', e ≤ j' → j' < k → (L.set e (lo G k e : Int)).getD j' 0 = (lo G k j' : Int)) := Lib.hid (fun j' h1 h2 => by
                by_cases h : e = j'
                · subst h; simp [List.getD, hLl]
                · have := HL.out j' (by omega) h2
                  simpa [List.getD, h] using this)
              have HT5 := HT4
              rw [HLE.out] at HT5
              clear hT hK hBl hc hck'
              go_wp2_with fail
              go_roundw
              case rel => exact ⟨e, _, by omega, by go_num, HL2.out, HT5.out, HK4.out, HBL4.out⟩
              case measure => (simp [intOf]; try omega)
        · obtain rfl : d = 0 := by omega
          have hd1 : ¬ (0 : Int) ≤ ((0 : Nat) : Int) - 1 := by omega
          have hd2 : ¬ (0 : Int) ≤ (0 : Int) - 1 := by omega
          obtain ⟨wp, hwp⟩ : ∃ W, W = wr := ⟨_, rfl⟩
          subst hwp
          clear hT hK hL hBl
          go_wp2_with fail
          go_loopw [16, 17] (fun nd i wr => ∃ q : Nat, q ≤ k ∧ i = .int .i64 q ∧ nd = .int .i64 (NK (lo G k) q : Int) ∧ wp = wr) (fun _ i _ => k - (intOf i).toNat)
          case atStart => exact ⟨0, Nat.zero_le _, rfl, rfl, rfl⟩
          case round =>
            obtain ⟨q, hq, rfl, rfl, rfl⟩ := hrel
            by_cases hqk : q < k
            · have hqi : (q : Int) < (k : Int) := by omega
              have hq0 : (0 : Int) ≤ (q : Int) := by omega
              have y1 := HT.out.cell hqk
              rw [HL.out q (Nat.zero_le _) hqk] at y1
              have hmx : (if (NK (lo G k) q : Int) < (lo G k q : Int) then (lo G k q : Int) else (NK (lo G k) q : Int)) = ((NK (lo G k) (q + 1) : Nat) : Int) := by
                by_cases h : (NK (lo G k) q : Int) < (lo G k q : Int)
                · rw [if_pos h, NK, Nat.max_eq_right (by omega)]
                · rw [if_neg h, NK, Nat.max_eq_left (by omega)]
              go_wp2_with fail
              try rw [hmx]
              go_roundw
              case rel => exact ⟨q + 1, by omega, by go_num, by first | rfl | (rw [hmx]) | go_num, by first | rfl | trivial⟩
              case measure => (simp [intOf]; try omega)
            · obtain rfl : q = k := by omega
              have hqi : ¬ (q : Int) < (q : Int) := by omega
              have HT6 := HT
              have HG6 : Hid (OwnG w3.heap.size wo.heap.size wp _ (goRows G q q)) := Lib.hid (HK.out.own HGO.out hs23)
              have HO6 : Hid (OwnI W0.heap.size wp (.slice (some ⟨w.heap.size + 1, 0, none⟩) 0 0) []) := Lib.hid (HK.out.row (show wo.ownsRow W0.heap.size 2 1 _ 0 _ from HOU.out) (fun e => by
                have := (OwnI.block HO2.out _ e).2
                omega))
              have HB6 : Hid (Below W0.heap.size W0 wp) := Lib.hid (blink HB02.out HBL.out)
              obtain ⟨R0, hR0⟩ : ∃ R0, gr G (lo G q) q 0 (-1) (NK (lo G q) q) = R0 := ⟨_, rfl⟩
              have HNK : Hid (NK (lo G q) q ≤ q) := Lib.hid (NK_le fun i _ => lo_le q i)
              have HR0 := Lib.hid hR0
              have HRR : Hid (moR (sn : Int) (yn : Int) ps cs = R0) := Lib.hid (by rw [HR.out]; exact hR0)
              obtain ⟨need0, hnd0⟩ : ∃ x, NK (lo G q) q = x := ⟨_, rfl⟩
              rw [hnd0] at HR0 HNK ⊢
              clear hR0 hnd0
              go_wp2_with fail
              go_loopw [6, 16, 18, 19] (fun ov nd la i wr => ∃ (p need : Nat) (last : Int) (os : List Int), p ≤ q ∧ i = .int .i64 p ∧ nd = .int .i64 need ∧ la = .int .i64 last ∧ (last = -1 ∨ (0 ≤ last ∧ last < q)) ∧ need ≤ q ∧ os ++ gr G (lo G q) (q - p) p last need = R0 ∧ os.length ≤ p ∧ OwnI W0.heap.size wr ov os ∧ OwnT w2.heap.size wr w2.heap.size q L ∧ OwnG w3.heap.size wo.heap.size wr _ (goRows G q q) ∧ Below W0.heap.size W0 wr) (fun _ _ _ i _ => q - (intOf i).toNat)
              case atStart => exact ⟨0, need0, -1, [], Nat.zero_le _, rfl, rfl, rfl, .inl rfl, HNK.out, HR0.out, Nat.le_refl _, HO6.out, HT6.out, HG6.out, HB6.out⟩
              case round =>
                obtain ⟨p, need, last, os, hp, rfl, rfl, rfl, hla, hne, hgr, hol, hoo, hT, hGg, hBb⟩ := hrel
                by_cases hpq : p < q
                · have hpi : (p : Int) < (q : Int) := by omega
                  have hp0 : (0 : Int) ≤ (p : Int) := by omega
                  obtain ⟨f, hf⟩ : ∃ f, q - p = f + 1 := ⟨q - p - 1, by omega⟩
                  have hf1 : q - (p + 1) = f := by omega
                  rw [hf, gr] at hgr
                  by_cases hn0 : need = 0
                  · subst hn0
                    rw [if_pos rfl, List.append_nil] at hgr
                    have hfin := hgr
                    have HOF : Hid (OwnI W0.heap.size wr _ (moR (sn : Int) (yn : Int) ps cs)) := Lib.hid (by rw [HRR.out, ← hfin]; exact hoo)
                    have HBF : Hid (Below w.heap.size w wr) := Lib.hid (blink HB0.out hBb)
                    clear hT hGg hBb hoo hfin hgr
                    go_wp2_with fail
                    go_ret2
                    exact ⟨_, ret_pair HC.out.symm, HOF.out.mono HB0.out.size, HBF.out⟩
                  · rw [if_neg hn0] at hgr
                    have hni : (0 : Int) < (need : Int) := by omega
                    have y1 := hT.cell hpq
                    rw [HL.out p (Nat.zero_le _) hpq] at y1
                    by_cases hln : lo G q p = need
                    · have tln : ((lo G q p : Int) == (need : Int)) = true := by simp [hln]
                      by_cases hl0 : last < 0
                      · rw [if_pos ⟨hln, .inl hl0⟩] at hgr
                        have tl0 : decide (last < 0) = true := decide_eq_true hl0
                        have HGN : Hid (os ++ ((p : Int) :: gr G (lo G q) (q - (p + 1)) (p + 1) (p : Int) (need - 1)) = R0) := Lib.hid (by rw [hf1]; exact hgr)
                        have hown : wr.ownsRow W0.heap.size 2 1 _ _ _ := hoo
                        have hs8 : W0.heap.size ≤ wr.heap.size := hBb.size
                        have ba : Below wr.heap.size wr (wr.alloc (.cells #[.int .i64 (p : Int)] 2)) := (Below.refl _ _).alloc (Nat.le_refl _) _
                        have HOA := Lib.hid (row_same hown ba)
                        have HTA := Lib.hid (OwnT.below hT ba)
                        have HGA := Lib.hid (OwnG.below hGg ba)
                        have HBA := Lib.hid (hBb.alloc hs8 (.cells #[.int .i64 (p : Int)] 2))
                        have hwn : IntKind.i64.wrap ((need : Int) - 1) = ((need - 1 : Nat) : Int) := by rw [show (need : Int) - 1 = ((need - 1 : Nat) : Int) by omega]; exact IntWalk.i64_in _ (by omega)
                        clear hT hGg hBb hoo hgr hown ba
                        go_wp2_with (at_builtin; refine wpList_append_own _ rfl _ _ 30 rfl W0.heap.size 2 i0 (.int .i64 0) 1 8 Try.underlying30 hi hz0 hz1 hz2 rfl (by decide) _ _ _ rfl HOA.out ⟨wr.heap.size, 0, none⟩ 1 1 [.int .i64 (p : Int)] rfl rfl ?d1 ?d2 ?d3 ?d4 ?d5 ?_)
                        case d1 =>
                          intro j u hj
                          match j, hj with
                          | 0, hj => simp at hj; subst hj; simp [Addr.add]
                        case d2 => intro u hu; simp at hu; subst hu; rfl
                        case d3 => unfold maxLen; omega
                        case d4 => omega
                        case d5 => first | omega | (simp; omega)
                        intro v' w9 hown' hgrow _
                        have HON : Hid (OwnI W0.heap.size w9 v' (os ++ [(p : Int)])) := Lib.hid (by unfold OwnI; rw [List.map_append, List.length_append]; exact hown')
                        have HTN : Hid (OwnT w2.heap.size w9 w2.heap.size q L) := Lib.hid (World.ownsRow.kept HTA.out hgrow (.inr (fun e => row_types (by decide) HTA.out HOA.out w2.heap.size rfl (by rw [← e]; rfl))))
                        have HGN9 := Lib.hid (HGA.out.apart HOA.out (by decide) (by decide) hgrow)
                        have HBN9 : Hid (Below W0.heap.size W0 w9) := Lib.hid (HBA.out.grown hgrow (by simp; omega) (fun i hi => (HOA.out.lt i hi).1))
                        clear hown' hgrow
                        go_wp2_with fail
                        go_roundw
                        case rel => exact ⟨p + 1, need - 1, (p : Int), os ++ [(p : Int)], by omega, by go_num, by go_num, rfl, .inr ⟨by omega, by omega⟩, by omega, by rw [List.append_assoc]; exact HGN.out, by simp; omega, HON.out, HTN.out, HGN9.out, HBN9.out⟩
                        case measure => (simp [intOf]; try omega)
                      · obtain ⟨a, rfl⟩ : ∃ a : Nat, last = (a : Int) := ⟨last.toNat, by omega⟩
                        have haq : a < q := by omega
                        have hai : (a : Int) < (q : Int) := by omega
                        have ha0 : (0 : Int) ≤ (a : Int) := by omega
                        have tl0 : decide ((a : Int) < 0) = false := decide_eq_false hl0
                        obtain ⟨g2, cap2, gj, cj, rfl, z1, z2, _, _⟩ := hGg.goes haq hpq
                        cases hG : G a p
                        · rw [hG] at z2
                          rw [if_neg (fun h => by
                            rcases h.2 with b | b
                            · omega
                            · rw [Int.toNat_natCast, hG] at b; cases b)] at hgr
                          have HGN : Hid (os ++ gr G (lo G q) (q - (p + 1)) (p + 1) (a : Int) need = R0) := Lib.hid (by rw [hf1]; exact hgr)
                          have HOO := Lib.hid hoo
                          have HTT := Lib.hid hT
                          have HGG := Lib.hid hGg
                          have HBB := Lib.hid hBb
                          clear hT hGg hBb hoo hgr
                          go_wp2_with fail
                          go_roundw
                          case rel => exact ⟨p + 1, need, (a : Int), os, by omega, by go_num, rfl, rfl, hla, hne, HGN.out, by omega, HOO.out, HTT.out, HGG.out, HBB.out⟩
                          case measure => (simp [intOf]; try omega)
                        · rw [hG] at z2
                          rw [if_pos ⟨hln, .inr (by rw [Int.toNat_natCast]; exact hG)⟩] at hgr
                          have HGN : Hid (os ++ ((p : Int) :: gr G (lo G q) (q - (p + 1)) (p + 1) (p : Int) (need - 1)) = R0) := Lib.hid (by rw [hf1]; exact hgr)
                          have hown : wr.ownsRow W0.heap.size 2 1 _ _ _ := hoo
                          have hs8 : W0.heap.size ≤ wr.heap.size := hBb.size
                          have ba : Below wr.heap.size wr (wr.alloc (.cells #[.int .i64 (p : Int)] 2)) := (Below.refl _ _).alloc (Nat.le_refl _) _
                          have HOA := Lib.hid (row_same hown ba)
                          have HTA := Lib.hid (OwnT.below hT ba)
                          have HGA := Lib.hid (OwnG.below hGg ba)
                          have HBA := Lib.hid (hBb.alloc hs8 (.cells #[.int .i64 (p : Int)] 2))
                          have hwn : IntKind.i64.wrap ((need : Int) - 1) = ((need - 1 : Nat) : Int) := by rw [show (need : Int) - 1 = ((need - 1 : Nat) : Int) by omega]; exact IntWalk.i64_in _ (by omega)
                          clear hT hGg hBb hoo hgr hown ba
                          go_wp2_with (at_builtin; refine wpList_append_own _ rfl _ _ 30 rfl W0.heap.size 2 i0 (.int .i64 0) 1 8 Try.underlying30 hi hz0 hz1 hz2 rfl (by decide) _ _ _ rfl HOA.out ⟨wr.heap.size, 0, none⟩ 1 1 [.int .i64 (p : Int)] rfl rfl ?f1 ?f2 ?f3 ?f4 ?f5 ?_)
                          case f2 => first | rfl | (intro u hu; simp at hu; subst hu; rfl)
                          case f3 => unfold maxLen; omega
                          case f4 => omega
                          case f5 => first | omega | (simp; omega)
                          intro v' w9 hown' hgrow _
                          have HON : Hid (OwnI W0.heap.size w9 v' (os ++ [(p : Int)])) := Lib.hid (by unfold OwnI; rw [List.map_append, List.length_append]; exact hown')
                          have HTN : Hid (OwnT w2.heap.size w9 w2.heap.size q L) := Lib.hid (World.ownsRow.kept HTA.out hgrow (.inr (fun e => row_types (by decide) HTA.out HOA.out w2.heap.size rfl (by rw [← e]; rfl))))
                          have HGN9 := Lib.hid (HGA.out.apart HOA.out (by decide) (by decide) hgrow)
                          have HBN9 : Hid (Below W0.heap.size W0 w9) := Lib.hid (HBA.out.grown hgrow (by simp; omega) (fun i hi => (HOA.out.lt i hi).1))
                          clear hown' hgrow
                          go_wp2_with fail
                          go_roundw
                          case rel => exact ⟨p + 1, need - 1, (p : Int), os ++ [(p : Int)], by omega, by go_num, by go_num, rfl, .inr ⟨by omega, by omega⟩, by omega, by rw [List.append_assoc]; exact HGN.out, by simp; omega, HON.out, HTN.out, HGN9.out, HBN9.out⟩
                          case measure => (simp [intOf]; try omega)
                    · have tln : ((lo G q p : Int) == (need : Int)) = false := by simp; omega
                      rw [if_neg (fun h => hln h.1)] at hgr
                      have HGN : Hid (os ++ gr G (lo G q) (q - (p + 1)) (p + 1) last need = R0) := Lib.hid (by rw [hf1]; exact hgr)
                      have HOO := Lib.hid hoo
                      have HTT := Lib.hid hT
                      have HGG := Lib.hid hGg
                      have HBB := Lib.hid hBb
                      clear hT hGg hBb hoo hgr
                      go_wp2_with fail
                      go_roundw
                      case rel => exact ⟨p + 1, need, last, os, by omega, by go_num, rfl, rfl, hla, hne, HGN.out, by omega, HOO.out, HTT.out, HGG.out, HBB.out⟩
                      case measure => (simp [intOf]; try omega)
                · obtain rfl : p = q := by omega
                  have hpi : ¬ (p : Int) < (p : Int) := by omega
                  rw [Nat.sub_self, gr, List.append_nil] at hgr
                  have hfin := hgr
                  have HOF : Hid (OwnI W0.heap.size wr _ (moR (sn : Int) (yn : Int) ps cs)) := Lib.hid (by rw [HRR.out, ← hfin]; exact hoo)
                  have HBF : Hid (Below w.heap.size w wr) := Lib.hid (blink HB0.out hBb)
                  clear hT hGg hBb hoo hfin hgr
                  go_wp2_with fail
                  go_ret2
                  exact ⟨_, ret_pair HC.out.symm, HOF.out.mono HB0.out.size, HBF.out⟩
end Go.Proofs.Ytamnojhkfknnoaa
/-
  What a round of a range over a function has to keep; rounds told by their numbers.
-/
namespace Go.Proofs.Ytamnojhkfknnoaa
open Go Go.RowKit Go.Shelf
set_option linter.unusedVariables false

/-- What a round has to keep: the iterator's own box and the row that it reads. -/
def Keeps2 (c b : Nat) (W W' : World) : Prop := W'.heap[c]? = W.heap[c]? ∧ W'.heap[b]? = W.heap[b]?
theorem Keeps2.refl (c b : Nat) (W : World) : Keeps2 c b W W := ⟨rfl, rfl⟩
theorem Keeps2.trans {c b : Nat} {A B C : World} (h : Keeps2 c b A B) (k : Keeps2 c b B C) : Keeps2 c b A C := ⟨k.1.trans h.1, k.2.trans h.2⟩
theorem Keeps2.put {c b : Nat} {w : World} (hc : c < w.heap.size) (hb : b < w.heap.size) (W : World) (l : Nat) (o o' : Obj) (hl : w.heap.size ≤ l) (_h : W.heap[l]? = some o) (_ : o.isCells = false) (_ : o.isWalk = false) : Keeps2 c b W (W.putObj l o') :=
  ⟨World.putObj_heap_other (by omega), World.putObj_heap_other (by omega)⟩
theorem Keeps2.box {c b : Nat} {W W' : World} (h : Keeps2 c b W W') {v : Value} (hv : W.cell? ⟨c, 0, none⟩ = some v) : W'.cell? ⟨c, 0, none⟩ = some v := (World.cell?_of_block (w := W) (a := ⟨c, 0, none⟩) h.1).trans hv
theorem Keeps2.row {c b j : Nat} {W W' : World} (h : Keeps2 c b W W') {v : Value} (hv : W.cell? ⟨b, j, none⟩ = some v) : W'.cell? ⟨b, j, none⟩ = some v := (World.cell?_of_block (w := W) (a := ⟨b, j, none⟩) h.2).trans hv

/-- What has come when k rounds are over. -/
def came {α : Type} (f : Nat → α) (k : Nat) : List α := (List.range k).map f
theorem came_succ {α : Type} (f : Nat → α) (k : Nat) : came f (k + 1) = came f k ++ [f k] := by simp [came, List.range_succ]
theorem came_length {α : Type} (f : Nat → α) (k : Nat) : (came f k).length = k := by simp [came]
/-- The rounds are told by their numbers: round j hands over the j-th from the end. -/
def rnd {n : Nat} (h : 0 < n) (j : Nat) : Fin n := ⟨j % n, Nat.mod_lt _ h⟩
theorem rnd_val {n : Nat} (h : 0 < n) {j : Nat} (hj : j < n) : (rnd h j).1 = j := Nat.mod_eq_of_lt hj

end Go.Proofs.Ytamnojhkfknnoaa
/-
  The contract of slices.Backward at []Scan: the scans come from the last one to the first one, each with its index.
-/
namespace Go.Proofs.Ytamnojhkfknnoaa
open Go Go.RowKit Go.Shelf
set_option linter.unusedVariables false
attribute [local go_sem] Oper.semAt_some

abbrev scZ (q : Int × Int) : Value := .agg #[.int .i8 q.1, .int .i16 q.2]
set_option maxRecDepth 100000 in
set_option maxHeartbeats 2000000 in
theorem backZ1_in (F : Fence) (n : Nat) (hF : F.fn 51) (hro : F.round = none) (hn : 1 ≤ n) (l Bs b cap : Nat) (zs : List (Int × Int)) (hz : zs.length ≤ 1048576) (hpos : 0 < zs.length) (J Jx : List (Fin zs.length) → World → Prop)
    (hY : ∀ pre x W, J pre W → pre.length < zs.length → YieldAt F (n - 1) Try.prog l #[.int .i64 ((zs.length - 1 - x.1 : Nat) : Int), scZ (zs.getD (zs.length - 1 - x.1) (0, 0))] W fun e W' =>
      (e = .returned (.bool true) ∧ J (pre ++ [x]) W' ∧ Keeps2 Bs b W W') ∨ (e = .returned (.bool false) ∧ Jx (pre ++ [x]) W'))
    (W : World) (hBs : W.cell? ⟨Bs, 0, none⟩ = some (.slice (some ⟨b, 0, none⟩) zs.length cap)) (hc : CellsSc W b zs) (h0 : J [] W) :
    CallsIn F n Try.prog 51 #[.func (.yield l) #[] #[], .pointer (some ⟨Bs, 0, none⟩)] W fun e W' => (∃ v, e = .returned v) ∧
      ((∃ ys, ys = came (rnd hpos) zs.length ∧ J ys W') ∨ (∃ pre, (∃ k, k ≤ zs.length ∧ pre = came (rnd hpos) k) ∧ Jx pre W')) := by
  refine callsIn_of_wp Try.func51 rfl hF ?_ hro
  simp only [Try.ntmps51, List.size_toArray, List.length_cons, List.length_nil, Nat.reduceAdd, Nat.reduceSub, Array.replicate_succ, Array.replicate_zero, List.push_toArray, List.append_toArray, List.nil_append, List.cons_append]
  gi_wp2
  gi_loopw [3] (fun i wr => ∃ k : Nat, k ≤ zs.length ∧ i = .int .i64 ((zs.length : Int) - 1 - k) ∧ J (came (rnd hpos) k) wr ∧ Keeps2 Bs b W wr)
    (fun i _ => (intOf i + 1).toNat)
  case atStart => exact ⟨0, Nat.zero_le _, by simp, h0, Keeps2.refl _ _ _⟩
  case round =>
    obtain ⟨k, hk, rfl, hJs, hnx⟩ := hrel
    by_cases hlt : k < zs.length
    · have cs : wr.cell? ⟨Bs, 0, none⟩ = some (.slice (some ⟨b, 0, none⟩) zs.length cap) := hnx.box hBs
      obtain ⟨j, hj⟩ : ∃ j : Nat, zs.length - 1 - k = j := ⟨_, rfl⟩
      have hjl : j < zs.length := by omega
      have cx : wr.cell? ⟨b, j * 2, none⟩ = some (.int .i8 (zs.getD j (0, 0)).1) := hnx.row (hc j hjl).1
      have cy : wr.cell? ⟨b, j * 2 + 1, none⟩ = some (.int .i16 (zs.getD j (0, 0)).2) := hnx.row (hc j hjl).2
      obtain ⟨x, hx⟩ : ∃ x, zs.getD j (0, 0) = x := ⟨_, rfl⟩
      rw [hx] at cx cy
      obtain ⟨x0, x1⟩ := x
      simp only at cx cy
      have hrk := rnd_val hpos hlt
      have hji : (zs.length : Int) - 1 - k = (j : Int) := by omega
      rw [hji]
      obtain ⟨fn, tmps, assign, body, hy, hR⟩ := hY _ (rnd hpos k) wr hJs (by rw [came_length]; exact hlt)
      rw [hrk, hj, hx] at hy
      have HJI := Lib.hid hji
      have HJ := Lib.hid hj
      have hjl2 : (j : Int) < (zs.length : Int) := by omega
      clear hrk hji hj hx
      gi_wp2
      refine hR.mono ?_
      rintro e W3 (⟨rfl, hJ3, hk3⟩ | ⟨rfl, hJx3⟩)
      · gi_wp2
        go_roundw
        case rel => exact ⟨k + 1, by omega, by have := HJI.out; go_num, by rw [came_succ]; exact hJ3, hnx.trans hk3⟩
        case measure => simp [intOf]; try omega
      · gi_wp2
        refine bodyPost_ret (results_none rfl _ _ _) rfl ?_
        exact ⟨⟨_, rfl⟩, .inr ⟨_, ⟨k + 1, by omega, rfl⟩, by rw [came_succ]; exact hJx3⟩⟩
    · obtain rfl : k = zs.length := by omega
      have e1 : (zs.length : Int) - 1 - (zs.length : Nat) = -1 := by omega
      rw [e1]
      clear e1
      gi_wp2
      go_end0
      exact ⟨⟨_, rfl⟩, .inl ⟨_, rfl, hJs⟩⟩

set_option maxHeartbeats 1000000 in
theorem backZ_in (F : Fence) (n : Nat) (hF : F.fn 27) (hro : F.round = none) (a : Option Addr) (len cap : Nat) (w : World) :
    CallsIn F n Try.prog 27 #[.slice a len cap] w fun e w' => e = .returned (.func (.func 51) #[] #[.pointer (some ⟨w.heap.size, 0, none⟩)]) ∧ w' = w.alloc (.cells #[.slice a len cap] 37) := by
  refine callsIn_of_wp Try.func27 rfl hF ?_ hro
  simp only [Try.ntmps27, List.size_toArray, List.length_cons, List.length_nil, Nat.reduceAdd, Nat.reduceSub, Array.replicate_succ, Array.replicate_zero, List.push_toArray, List.append_toArray, List.nil_append, List.cons_append]
  gi_wp2
  go_ret
  exact ⟨rfl, rfl⟩

theorem backZ_stops (F : Fence) (n : Nat) (hF : F.fn 51) (hro : F.round = none) (hn : 1 ≤ n) (Bs b cap : Nat) (zs : List (Int × Int)) (hz : zs.length ≤ 1048576) (hpos : 0 < zs.length) (w : World) (hBs : Bs < w.heap.size)
    (hc : w.cell? ⟨Bs, 0, none⟩ = some (.slice (some ⟨b, 0, none⟩) zs.length cap)) (hI : CellsSc w b zs) :
    SeqStopsK F n Try.prog 51 #[.pointer (some ⟨Bs, 0, none⟩)] (fun x : Fin zs.length => #[.int .i64 ((zs.length - 1 - x.1 : Nat) : Int), scZ (zs.getD (zs.length - 1 - x.1) (0, 0))]) (Keeps2 Bs b) (fun ys => ys = came (rnd hpos) zs.length) (fun pre => ∃ k, k ≤ zs.length ∧ pre = came (rnd hpos) k) zs.length w := fun l J Jx W hW _ _ hY h0 =>
  backZ1_in F n hF hro hn l Bs b cap zs hz hpos J Jx hY W ((hW.cell (p := ⟨Bs, 0, none⟩) hBs).trans hc) (hI.below hW) h0
end Go.Proofs.Ytamnojhkfknnoaa
/-
  slices.Backward at []Scan, the rounds told by their numbers.
-/
namespace Go.Proofs.Ytamnojhkfknnoaa
open Go Go.RowKit Go.Shelf
set_option linter.unusedVariables false
attribute [local go_sem] Oper.semAt_some

set_option maxRecDepth 100000 in
set_option maxHeartbeats 2000000 in
theorem backO1_in (F : Fence) (n : Nat) (hF : F.fn 51) (hro : F.round = none) (hn : 1 ≤ n) (l Bs b cap : Nat) (zs : List (Int × Int)) (hz : zs.length ≤ 1048576) (J : Nat → World → Prop)
    (hY : ∀ k W, J k W → k < zs.length → YieldAt F (n - 1) Try.prog l #[.int .i64 ((zs.length - 1 - k : Nat) : Int), scZ (zs.getD (zs.length - 1 - k) (0, 0))] W fun e W' =>
      e = .returned (.bool true) ∧ J (k + 1) W' ∧ Keeps2 Bs b W W')
    (W : World) (hBs : W.cell? ⟨Bs, 0, none⟩ = some (.slice (some ⟨b, 0, none⟩) zs.length cap)) (hc : CellsSc W b zs) (h0 : J 0 W) :
    CallsIn F n Try.prog 51 #[.func (.yield l) #[] #[], .pointer (some ⟨Bs, 0, none⟩)] W fun e W' => (∃ v, e = .returned v) ∧ J zs.length W' := by
  refine callsIn_of_wp Try.func51 rfl hF ?_ hro
  simp only [Try.ntmps51, List.size_toArray, List.length_cons, List.length_nil, Nat.reduceAdd, Nat.reduceSub, Array.replicate_succ, Array.replicate_zero, List.push_toArray, List.append_toArray, List.nil_append, List.cons_append]
  gi_wp2
  gi_loopw [3] (fun i wr => ∃ k : Nat, k ≤ zs.length ∧ i = .int .i64 ((zs.length : Int) - 1 - k) ∧ J k wr ∧ Keeps2 Bs b W wr)
    (fun i _ => (intOf i + 1).toNat)
  case atStart => exact ⟨0, Nat.zero_le _, by simp, h0, Keeps2.refl _ _ _⟩
  case round =>
    obtain ⟨k, hk, rfl, hJs, hnx⟩ := hrel
    by_cases hlt : k < zs.length
    · have cs : wr.cell? ⟨Bs, 0, none⟩ = some (.slice (some ⟨b, 0, none⟩) zs.length cap) := hnx.box hBs
      obtain ⟨j, hj⟩ : ∃ j : Nat, zs.length - 1 - k = j := ⟨_, rfl⟩
      have hjl : j < zs.length := by omega
      have cx : wr.cell? ⟨b, j * 2, none⟩ = some (.int .i8 (zs.getD j (0, 0)).1) := hnx.row (hc j hjl).1
      have cy : wr.cell? ⟨b, j * 2 + 1, none⟩ = some (.int .i16 (zs.getD j (0, 0)).2) := hnx.row (hc j hjl).2
      obtain ⟨x, hx⟩ : ∃ x, zs.getD j (0, 0) = x := ⟨_, rfl⟩
      rw [hx] at cx cy
      obtain ⟨x0, x1⟩ := x
      simp only at cx cy
      have hji : (zs.length : Int) - 1 - k = (j : Int) := by omega
      rw [hji]
      obtain ⟨fn, tmps, assign, body, hy, hR⟩ := hY k wr hJs hlt
      rw [hj, hx] at hy
      have HJI := Lib.hid hji
      have HJ := Lib.hid hj
      have hjl2 : (j : Int) < (zs.length : Int) := by omega
      clear hji hj hx
      gi_wp2
      refine hR.mono ?_
      rintro e W3 ⟨rfl, hJ3, hk3⟩
      gi_wp2
      go_roundw
      case rel => exact ⟨k + 1, by omega, by have := HJI.out; go_num, hJ3, hnx.trans hk3⟩
      case measure => simp [intOf]; try omega
    · obtain rfl : k = zs.length := by omega
      have e1 : (zs.length : Int) - 1 - (zs.length : Nat) = -1 := by omega
      rw [e1]
      clear e1
      gi_wp2
      go_end0
      exact ⟨⟨_, rfl⟩, hJs⟩

theorem backO_ord (m : Nat) (F : Fence) (n : Nat) (hF : F.fn 51) (hro : F.round = none) (hn : 1 ≤ n) (Bs b cap : Nat) (zs : List (Int × Int)) (hm : zs.length = m) (hz : m ≤ 1048576) (w : World) (hBs : Bs < w.heap.size)
    (hc : w.cell? ⟨Bs, 0, none⟩ = some (.slice (some ⟨b, 0, none⟩) m cap)) (hI : CellsSc w b zs) :
    SeqOrdK F n Try.prog 51 #[.pointer (some ⟨Bs, 0, none⟩)] (fun k => #[.int .i64 ((m - 1 - k : Nat) : Int), scZ (zs.getD (m - 1 - k) (0, 0))]) (Keeps2 Bs b) m w := fun l J W hW _ hY h0 => by
  subst hm
  exact backO1_in F n hF hro hn l Bs b cap zs hz J hY W ((hW.cell (p := ⟨Bs, 0, none⟩) hBs).trans hc) (hI.below hW) h0
end Go.Proofs.Ytamnojhkfknnoaa
/-
  What the rounds of the program's MostScans write, and what holds between them.
-/
namespace Go.Proofs.Ytamnojhkfknnoaa
open Go Go.RowKit Go.Shelf
set_option linter.unusedVariables false

/-- Of what was there nothing turns but the blocks a, b, c. -/
def OnlyB (a b c : Nat) (W W' : World) : Prop := Below a W W' ∧ ∀ k, k < W.heap.size → k ≠ a → k ≠ b → k ≠ c → W'.heap[k]? = W.heap[k]?
theorem OnlyB.refl (a b c : Nat) (W : World) : OnlyB a b c W W := ⟨Below.refl _ _, fun _ _ _ _ _ => rfl⟩
theorem OnlyB.size {a b c : Nat} {W W' : World} (h : OnlyB a b c W W') : W.heap.size ≤ W'.heap.size := h.1.size
theorem OnlyB.trans {a b c : Nat} {W W' W'' : World} (h : OnlyB a b c W W') (k : OnlyB a b c W' W'') : OnlyB a b c W W'' :=
  ⟨h.1.trans k.1, fun i hi h1 h2 h3 => (k.2 i (Nat.lt_of_lt_of_le hi h.1.size) h1 h2 h3).trans (h.2 i hi h1 h2 h3)⟩
theorem OnlyB.of_below {a b c : Nat} {W W' : World} (h : Below W.heap.size W W') (ha : a ≤ W.heap.size) : OnlyB a b c W W' := ⟨h.mono ha, fun k hk _ _ _ => h.block k hk⟩
theorem OnlyB.of_kept {a b c : Nat} {W W' : World} (h : KeptBut a W W') : OnlyB a b c W W' := ⟨h.1, fun k hk h1 _ _ => h.2.2 k hk h1⟩
theorem OnlyB.set {a b c : Nat} {W W' : World} (h : OnlyB a b c W W') (p : Addr) (u : Value) (hp : p.block = b ∨ p.block = c) (hab : a ≤ b) (hac : a ≤ c) : OnlyB a b c W (W'.setCell p u) :=
  ⟨h.1.setCell (by omega) u, fun k hk h1 h2 h3 => (heap_setCell_other W' p k u (by omega)).trans (h.2 k hk h1 h2 h3)⟩
theorem OnlyB.cell {a b c : Nat} {W W' : World} (h : OnlyB a b c W W') {p : Addr} (hk : p.block < W.heap.size) (h1 : p.block ≠ a) (h2 : p.block ≠ b) (h3 : p.block ≠ c) : W'.cell? p = W.cell? p := World.cell?_of_block (h.2 _ hk h1 h2 h3)
theorem OnlyB.from {a b c B : Nat} {W W' : World} (h : OnlyB a b c W W') (ha : a < B) (hb : b < B) (hc : c < B) : KeepsFrom B W W' :=
  ⟨h.1.size, fun k o hB hk _ => (h.2 k (Array.getElem?_eq_some_iff.1 hk).1 (by omega) (by omega) (by omega)).trans hk⟩
theorem OnlyB.keeps2 {a b c x y : Nat} {W W' : World} (h : OnlyB a b c W W') (hx : x < W.heap.size) (hy : y < W.heap.size) (x1 : x ≠ a) (x2 : x ≠ b) (x3 : x ≠ c) (y1 : y ≠ a) (y2 : y ≠ b) (y3 : y ≠ c) : Keeps2 x y W W' := ⟨h.2 x hx x1 x2 x3, h.2 y hy y1 y2 y3⟩
theorem OnlyB.blkA {a b c B : Nat} {T : TypeId} {vs : Array Value} {W W' : World} (h : OnlyB a b c W W') (hb : BlkA W B T vs) (h1 : B ≠ a) (h2 : B ≠ b) (h3 : B ≠ c) : BlkA W' B T vs := (h.2 B (BlkA.lt hb) h1 h2 h3).trans hb

/-- What holds between the rounds: the best list so far, the best lists from the scans that have been, the tracker's map. -/
def MoInv (W8 : World) (M Bb Rb yn m : Nat) (ps : List Lan) (cs : List (Int × Int)) (q : Nat) (W : World) : Prop :=
  (∃ v, BlkA W Bb 30 #[v] ∧ OwnI Rb W v (BK (goG (yn : Int) ps cs) m q)) ∧ OwnBF Rb W Rb m (bl (goG (yn : Int) ps cs) m) (m - q) ∧
  (∃ D, ownsT W M (13 * q) D ∧ KTr yn ps D) ∧ OnlyB M Bb Rb W8 W

theorem moInv_own (W8 : World) (M Bb Rb yn m : Nat) (ps : List Lan) (cs : List (Int × Int)) (hM : M < W8.heap.size) : OwnFrom W8.heap.size (MoInv W8 M Bb Rb yn m ps cs) := by
  rintro q A B row ⟨⟨v, h1, h2⟩, ⟨us, h3, h4⟩, ⟨D, h5, h6⟩, h7⟩ hg hr
  refine ⟨⟨v, blkA_kept h1 hg (fun r e => (hr r e).2), row_kept h2 hg (fun r e => (hr r e).2)⟩, ⟨us, row_kept h3 hg (fun r e => (hr r e).2), fun k a b => row_kept (h4 k a b) hg (fun r e => (hr r e).2)⟩, ⟨D, ?_, h6⟩, ?_⟩
  · obtain ⟨es, clock, q1, q2, q3, q4⟩ := h5
    refine ⟨es, clock, ?_, q2, q3, q4⟩
    rw [hg.block M (Array.getElem?_eq_some_iff.1 q1).1 (fun e => by have := (hr M e.symm).1; omega)]
    exact q1
  · refine ⟨h7.1.grown hg (Nat.le_trans (Nat.le_of_lt hM) h7.1.size) (fun k e => by have := (hr k e).1; omega), fun k hk k1 k2 k3 => ?_⟩
    exact (hg.block k (Nat.lt_of_lt_of_le hk h7.1.size) (fun e => by have := (hr k e.symm).1; omega)).trans (h7.2 k hk k1 k2 k3)

theorem OwnBF.any {base Rb m d : Nat} {w : World} {f : Nat → List Int} (h : OwnBF base w Rb m f d) {k : Nat} (hk : k < m) : ∃ u, w.cell? ⟨Rb, k, none⟩ = some u := by
  obtain ⟨us, h1, h2⟩ := h
  have hus : us.length = m := by simpa using h1.1
  exact ⟨us[k]'(by omega), by rw [World.ownsRow.cellAt h1 k (by omega), List.getElem?_eq_getElem (by omega)]⟩
/-- A row of numbers of the call's own stays, if it is none of the blocks that turn. -/
theorem OnlyB.ownI {a b c B : Nat} {W W' : World} {v : Value} {xs : List Int} (h : OnlyB a b c W W') (o : OwnI B W v xs) (h1 : ∀ p, v.ownBlock = some p → p ≠ a ∧ p ≠ b ∧ p ≠ c) : OwnI B W' v xs := by
  refine ⟨o.1, ?_⟩
  rcases o.2 with hn | ⟨g', cap, cur, rfl, hB, hg, rest⟩
  · exact .inl hn
  · obtain ⟨q1, q2, q3⟩ := h1 g' rfl
    exact .inr ⟨g', cap, cur, rfl, hB, by rw [h.2 g' (Array.getElem?_eq_some_iff.1 hg).1 q1 q2 q3]; exact hg, rest⟩
end Go.Proofs.Ytamnojhkfknnoaa
/-
  The same law inside a fence: a region that draws its order, in one walk, whatever the order; also in a round of a range over a function.
-/
namespace Go.Proofs.Ytamnojhkfknnoaa
open Go
set_option linter.unusedVariables false

def noDef (o : Oper) : Bool := match o.op with
  | .defer _ => false
  | _ => true
theorem noDef_ne {o : Oper} (h : noDef o = true) : ∀ c, o.op ≠ .defer c := by
  intro c hc
  unfold noDef at h
  rw [hc] at h
  exact absurd h (by simp)
theorem semAt_noDef {o : Oper} (h : noDef o = true) (r : Option Nat) (ρ : Operand → Value) : o.semAt r ρ = execOp ρ o := by
  cases r with
  | none => exact Oper.semAt_none _ _
  | some l => exact Oper.semAt_some l ρ o (noDef_ne h)
def relDef (ops : Array Oper) : Bool := ops.toList.all noDef
theorem relDef_at {ops : Array Oper} (h : relDef ops = true) {i : Nat} {o : Oper} (ho : ops[i]? = some o) : noDef o = true :=
  List.all_eq_true.1 h o (Array.mem_toList_iff.2 (Array.mem_of_getElem? ho))

section
variable {F : Fence} {n : Nat} {P : Program} {ops : Array Oper} {C : World → Prop} {St : World → World → Prop} {Q : Exit → Act → World → Prop}

/-- What an operation owes. -/
def relOblI (F : Fence) (n : Nat) (P : Program) (C : World → Prop) (St : World → World → Prop) (R : Rel) (o : Oper) (a : Act) (w : World) : Prop :=
  o.wpIn F n P a w (fun a' w' => ∃ v, a' = a.put o.dst v ∧ C w' ∧ St w w' ∧ R v w') (fun _ _ _ => False)
theorem relOblI_intro {R : Rel} {o : Oper} {a : Act} {w : World} (h : ∀ K : Act → World → Prop, (∀ a' w', (∃ v, a' = a.put o.dst v ∧ C w' ∧ St w w' ∧ R v w') → K a' w') → o.wpIn F n P a w K (fun _ _ _ => False)) : relOblI F n P C St R o a w := h _ (fun _ _ h => h)

/-- The walk in the order of the text. -/
def wpRelI (F : Fence) (n : Nat) (P : Program) (ops : Array Oper) (C : World → Prop) (St : World → World → Prop) (Q : Exit → Act → World → Prop) (tail : List Oper) : List Oper → List Rel → Act → List (World → Prop) → Prop
  | o :: os, R :: Rs, a, E => (∀ v w w', C w → St w w' → R v w → R v w') ∧ (∀ w, C w → (∀ j, (waitsFor o).contains j = true → ∀ e, E[j]? = some e → e w) → relOblI F n P C St R o a w) ∧ ∀ v, wpRelI F n P ops C St Q tail os Rs (a.put o.dst v) (E ++ [R v])
  | _, _, a, E => ∀ w, C w → (∀ (j : Nat) (e : World → Prop), E[j]? = some e → e w) → wpListIn F n P ops Q tail a w

theorem wpRelI_at {tail : List Oper} : ∀ (os : List Oper) (Rs : List Rel) (a : Act) (E : List (World → Prop)), Rs.length = os.length → wpRelI F n P ops C St Q tail os Rs a E → ∀ (vs : Nat → Value) (i : Nat) (o : Oper) (R : Rel), os[i]? = some o → Rs[i]? = some R →
    (∀ v w w', C w → St w w' → R v w → R v w') ∧ ∀ w, C w → (∀ j, (waitsFor o).contains j = true → ∀ e, (E ++ envL Rs vs i)[j]? = some e → e w) → relOblI F n P C St R o (actsL os vs i a) w
  | [], _, _, _, _, _, _, i, _, _, h, _ => by simp at h
  | o :: os, [], _, _, hl, _, _, _, _, _, _, _ => by simp at hl
  | o :: os, R :: Rs, a, E, hl, h, vs, 0, o', R', ho, hR => by
    simp only [List.getElem?_cons_zero, Option.some.injEq] at ho hR
    subst ho; subst hR
    refine ⟨h.1, fun w hw hd => ?_⟩
    simp only [envL, List.append_nil] at hd
    exact h.2.1 w hw hd
  | o :: os, R :: Rs, a, E, hl, h, vs, i + 1, o', R', ho, hR => by
    have h2 := wpRelI_at os Rs (a.put o.dst (vs 0)) (E ++ [R (vs 0)]) (by simpa using hl) (h.2.2 (vs 0)) (fun t => vs (t + 1)) i o' R' (by simpa using ho) (by simpa using hR)
    refine ⟨h2.1, fun w hw hd => ?_⟩
    refine h2.2 w hw fun j hj e he => hd j hj e ?_
    rw [List.append_assoc] at he
    exact he
theorem wpRelI_end {tail : List Oper} : ∀ (os : List Oper) (Rs : List Rel) (a : Act) (E : List (World → Prop)), Rs.length = os.length → wpRelI F n P ops C St Q tail os Rs a E → ∀ (vs : Nat → Value) (w : World), C w → (∀ (j : Nat) (e : World → Prop), (E ++ envL Rs vs os.length)[j]? = some e → e w) → wpListIn F n P ops Q tail (actsL os vs os.length a) w
  | [], _, a, E, hl, h, vs, w, hw, he => by
    unfold wpRelI at h
    exact h w hw fun j e h' => he j e (by simpa [envL] using h')
  | o :: os, [], _, _, hl, _, _, _, _, _ => by simp at hl
  | o :: os, R :: Rs, a, E, hl, h, vs, w, hw, he => by
    refine wpRelI_end os Rs (a.put o.dst (vs 0)) (E ++ [R (vs 0)]) (by simpa using hl) (h.2.2 (vs 0)) (fun t => vs (t + 1)) w hw fun j e h' => he j e ?_
    rw [List.append_assoc] at h'
    exact h'

/-- What an operation owes at one frame it pays at another one that reads the same. -/
theorem oper_otherI {R : Value → World → Prop} {o : Oper} {a b : Act} {w : World} (hnd : noDef o = true) (hab : o.about P w a.eval = o.about P w b.eval) (he : execOp a.eval o = execOp b.eval o) (hs : a.tmps.size = b.tmps.size)
    (h : o.wpIn F n P b w (fun b' w' => ∃ v, b' = b.put o.dst v ∧ R v w') (fun _ _ _ => False)) : o.wpIn F n P a w (fun a' w' => ∃ v, a' = a.put o.dst v ∧ R v w') Q := by
  unfold Oper.wpIn at *
  refine ⟨by rw [hab]; exact h.1, ?_⟩
  have h := h.2
  rw [semAt_noDef hnd] at h ⊢
  rw [he]
  generalize (execOp b.eval o).run P w = r at *
  cases r with
  | ok m w' =>
    cases m <;> simp only [Oper.uponIn] at h ⊢
    case value v => obtain ⟨u, e, hr⟩ := h; exact ⟨u, put_same hs e, hr⟩
    case skip => obtain ⟨u, e, hr⟩ := h; exact ⟨u, put_same hs e, hr⟩
    case defer d =>
      obtain ⟨u, e, _⟩ := h
      generalize o.dst = dd at e
      have e2 := congrArg Act.defers e
      cases dd <;> simp [Act.put] at e2
    case enter f args =>
      refine ⟨h.1, CallsIn.mono h.2 fun e w'' he => ?_⟩
      cases e with
      | returned v => obtain ⟨u, e, hr⟩ := he; exact ⟨u, put_same hs e, hr⟩
      | panicked c => exact he.elim
      | outgrown => unfold LetsOut at *; exact absurd he (by simp)
    case row row args =>
      exact ⟨h.1, RowsIn.mono h.2 fun v w'' he => by obtain ⟨u, e, hr⟩ := he; exact ⟨u, put_same hs e, hr⟩⟩
    case round l f tmps asg bd =>
      refine ⟨h.1, RoundIn.mono h.2 fun e w'' he => ?_⟩
      cases e with
      | returned v => obtain ⟨u, e, hr⟩ := he; exact ⟨u, put_same hs e, hr⟩
      | panicked c => exact he.elim
      | outgrown => unfold LetsOut at *; exact absurd he (by simp)
  | halt x w' => cases x <;> simp only [Oper.uponIn] at h

theorem tail_anyI {m : Nat} (hT : ∀ i, m ≤ i → i < ops.size → relTail ops i = true) (hH : ∀ i o, i < m → ops[i]? = some o → ∀ j ∈ waitsFor o, j < i) : ∀ (l : List Oper) (t fuel : Nat) (listed : Array Bool) (a : Act) (w : World), l = ops.toList.drop t → m ≤ t → listed.size = ops.size →
    (∀ j, j < t → j < ops.size → listed.getD j false = true) → (∀ j, t ≤ j → j < ops.size → listed.getD j true = false) → l.length ≤ fuel → wpListIn F n P ops Q l a w → wpAnyIn F n P .any ops Q fuel listed a w
  | [], t, fuel, listed, a, w, hl, hmt, hsz, h1, h2, hf, h => by
    have hlen : ops.size ≤ t := by
      have : (ops.toList.drop t).length = 0 := by rw [← hl]; rfl
      simp at this; omega
    have hr : Region.ready .any ops listed = [] := by
      refine List.eq_nil_iff_forall_not_mem.2 fun i hi => ?_
      obtain ⟨g1, o, ho, _⟩ := mem_ready.1 hi
      have hlt := (Array.getElem?_eq_some_iff.1 ho).1
      exact getD_tf g1 (h1 i (by omega) hlt)
    cases fuel with
    | zero => exact ⟨hr, h⟩
    | succ f => exact ⟨fun _ => h, fun i hi => by rw [hr] at hi; cases hi⟩
  | o :: rest, t, fuel, listed, a, w, hl, hmt, hsz, h1, h2, hf, h => by
    have ho : ops[t]? = some o := by
      have : (ops.toList.drop t)[0]? = some o := by rw [← hl]; rfl
      simpa using this
    have hlt := (Array.getElem?_eq_some_iff.1 ho).1
    have hwl : ∀ j p, ops[j]? = some p → ∀ k ∈ waitsFor p, k < j := fun j p hp k hk => by
      by_cases hj : j < m
      · exact hH j p hj hp k hk
      · have := hT j (by omega) (Array.getElem?_eq_some_iff.1 hp).1
        unfold relTail at this
        rw [waitsOf_some hp, Bool.and_eq_true] at this
        simpa using (List.all_eq_true.1 this.1) k hk
    have hL : ∀ j, listed.getD j false = true → j < t := fun j hj => by
      by_cases hjs : j < ops.size
      · by_cases hjt : j < t
        · exact hjt
        · exact absurd hj (getD_tf (h2 j (by omega) hjs))
      · have : listed.getD j false = false := by simp [show ¬ j < listed.size by omega]
        rw [this] at hj; cases hj
    cases fuel with
    | zero => simp at hf
    | succ f =>
      have hone : ∀ i ∈ Region.ready .any ops listed, i = t := fun i hi => by
        obtain ⟨g1, p, hp, g2⟩ := mem_ready.1 hi
        have hip := (Array.getElem?_eq_some_iff.1 hp).1
        by_cases hit : i < t
        · exact absurd (h1 i hit hip) (getD_tf g1)
        · by_cases e : i = t
          · exact e
          · have h3 := hT i (by omega) hip
            unfold relTail at h3
            rw [Bool.and_eq_true] at h3
            have h4 := (List.all_eq_true.1 h3.2) t (List.mem_range.2 (by omega))
            have h5 : listed.getD t false = true := reach_listed (L := fun j => listed.getD j false = true) (fun j hj k hk => by
              have hjt := hL j hj
              have hj' : ops[j]? = some ops[j] := Array.getElem?_eq_getElem (by omega)
              rw [waitsOf_some hj'] at hk
              have := hwl j _ hj' k hk
              exact h1 k (by omega) (by omega)) ops.size i t (fun k hk => by
              rw [waitsOf_some hp] at hk
              obtain ⟨e, he, hb, rfl⟩ := of_waits hk
              exact g2 e he hb) h4
            exact absurd h5 (getD_tf (h2 t (Nat.le_refl _) hlt))
      refine ⟨fun hr => ?_, fun i hi => ?_⟩
      · have : t ∈ Region.ready .any ops listed := mem_ready.2 ⟨h2 t (Nat.le_refl _) hlt, o, ho, fun e he hb => by
          have := hwl t o ho e.on (mem_waits he hb)
          exact h1 _ this (by omega)⟩
        rw [hr] at this; cases this
      · have e := hone i hi
        subst e
        have hstep : wpOpIn F n P ops Q i (wpListIn F n P ops Q rest) a w := by unfold wpOpIn; simp only [ho]; exact h
        refine wpOpIn_mono (fun a' w' h' => tail_anyI hT hH rest (i + 1) f _ a' w' ?_ (by omega) (by simpa using hsz) (fun j hj hjs => ?_) (fun j hj hjs => ?_) (by simp at hf; omega) h') hstep
        · have : ops.toList.drop (i + 1) = (ops.toList.drop i).drop 1 := by rw [List.drop_drop]
          rw [this, ← hl]; rfl
        · by_cases e : i = j
          · subst e; simp [show i < listed.size by omega]
          · rw [getD_set_ne false e]; exact h1 j (by omega) hjs
        · rw [getD_set_ne true (by omega)]; exact h2 j (by omega) hjs

theorem rel_anyI {m : Nat} (hnd : relDef ops = true) (hm : m ≤ ops.size) (hT : ∀ i, m ≤ i → i < ops.size → relTail ops i = true) (hR : ∀ i, i < m → relHead ops i = true) {Rs : List Rel} (hl : Rs.length = m) {a0 : Act}
    (hw : wpRelI F n P ops C St Q (ops.toList.drop m) (ops.toList.take m) Rs a0 []) : ∀ (fuel : Nat) (listed : Array Bool) (a : Act) (w : World) (vs : Nat → Value), listed.size = ops.size →
    ops.size ≤ (List.range ops.size).countP (fun j => listed.getD j false) + fuel → (∀ j, m ≤ j → j < ops.size → listed.getD j true = false) → (∀ j, listed.getD j false = true → ∀ k ∈ waitsOf ops j, listed.getD k false = true) → C w →
    (∀ j R, listed.getD j false = true → Rs[j]? = some R → R (vs j) w) → a = fillL (ops.toList.take m) (fun j => listed.getD j false) vs a0 → wpAnyIn F n P .any ops Q fuel listed a w := by
  have htl : (ops.toList.take m).length = m := by simp; omega
  have hH : ∀ i o, i < m → ops[i]? = some o → ∀ j ∈ waitsFor o, j < i := fun i o hi ho => (relHead_spec ho (hR i hi)).2.2.1
  have htk : ∀ i o, i < m → ops[i]? = some o → (ops.toList.take m)[i]? = some o := fun i o hi ho => by
    rw [List.getElem?_take]; simp [hi, ho]
  have hkt : ∀ (i : Nat) (o : Oper), (ops.toList.take m)[i]? = some o → ops[i]? = some o := fun i o h => by
    rw [List.getElem?_take] at h
    split at h
    · simpa using h
    · cases h
  intro fuel
  induction fuel with
  | zero =>
    intro listed a w vs hsz hcnt htail hcl hC hf ha
    have h1 := List.countP_le_length (p := fun j => listed.getD j false) (l := List.range ops.size)
    rw [List.length_range] at h1
    have hall := List.countP_eq_length.1 (show (List.range ops.size).countP (fun j => listed.getD j false) = (List.range ops.size).length by rw [List.length_range]; omega)
    have hmn : m = ops.size := by
      by_cases e : m = ops.size
      · exact e
      · have h2 := hall m (List.mem_range.2 (by omega))
        exact absurd h2 (getD_tf (htail m (Nat.le_refl _) (by omega)))
    refine tail_anyI hT hH _ m 0 listed a w rfl (Nat.le_refl _) hsz (fun j hj hjs => hall j (List.mem_range.2 hjs)) htail (by simp; omega) ?_
    have h3 := wpRelI_end _ Rs a0 [] (by rw [htl, hl]) hw vs w hC (fun j e he => by
      simp only [List.nil_append] at he
      obtain ⟨h4, R, h5, rfl⟩ := envL_get _ _ _ _ _ he
      rw [htl] at h4
      exact hf j R (hall j (List.mem_range.2 (by omega))) h5)
    rw [actsL_fill, htl] at h3
    rw [ha, fillL_congr _ _ (fun j => decide (j < m)) _ _ (fun j hj => by
      rw [htl] at hj
      rw [hall j (List.mem_range.2 (by omega))]; simp [hj])]
    exact h3
  | succ fuel ih =>
    intro listed a w vs hsz hcnt htail hcl hC hf ha
    by_cases hall : ∀ j, j < m → listed.getD j false = true
    · have hc1 : (List.range ops.size).countP (fun j => listed.getD j false) ≤ m := by
        refine Nat.le_trans (List.countP_mono_left fun j hj hjl => ?_) (countP_lt m ops.size).1
        simp only [decide_eq_true_eq]
        by_cases e : j < m
        · exact e
        · exact absurd hjl (getD_tf (htail j (by omega) (List.mem_range.1 hj)))
      refine tail_anyI hT hH _ m _ listed a w rfl (Nat.le_refl _) hsz (fun j hj hjs => hall j hj) htail (by simp; omega) ?_
      have h3 := wpRelI_end _ Rs a0 [] (by rw [htl, hl]) hw vs w hC (fun j e he => by
        simp only [List.nil_append] at he
        obtain ⟨h4, R, h5, rfl⟩ := envL_get _ _ _ _ _ he
        rw [htl] at h4
        exact hf j R (hall j h4) h5)
      rw [actsL_fill, htl] at h3
      rw [ha, fillL_congr _ _ (fun j => decide (j < m)) _ _ (fun j hj => by
        rw [htl] at hj
        rw [hall j hj]; simp [hj])]
      exact h3
    · refine ⟨fun hr => ?_, fun i hi => ?_⟩
      · refine absurd (fun j => ?_) hall
        induction j using Nat.strongRecOn with
        | ind j ihj =>
          intro hj
          refine Classical.byContradiction fun hn => ?_
          have hjo : ops[j]? = some ops[j] := Array.getElem?_eq_getElem (by omega)
          have : j ∈ Region.ready .any ops listed := mem_ready.2 ⟨getD_ff (by omega) hn, _, hjo, fun e he hb => by
            have h1 := hH j _ hj hjo e.on (mem_waits he hb)
            exact ihj _ h1 (by omega)⟩
          rw [hr] at this; cases this
      · obtain ⟨g1, o, ho, g2⟩ := mem_ready.1 hi
        have hin := (Array.getElem?_eq_some_iff.1 ho).1
        have hwl : ∀ k ∈ waitsFor o, listed.getD k false = true := fun k hk => by
          obtain ⟨e, he, hb, rfl⟩ := of_waits hk
          exact g2 e he hb
        by_cases him : i < m
        · obtain ⟨hg, hns, hwi, hds⟩ := relHead_spec ho (hR i him)
          have hRi : Rs[i]? = some (Rs[i]'(by omega)) := List.getElem?_eq_getElem (by omega)
          obtain ⟨R, hRe⟩ : ∃ R, Rs[i]'(by omega) = R := ⟨_, rfl⟩
          rw [hRe] at hRi
          obtain ⟨_, hob⟩ := wpRelI_at _ Rs a0 [] (by rw [htl, hl]) hw vs i o R (htk i o him ho) hRi
          have h1 := hob w hC (fun j hj e he => by
            simp only [List.nil_append] at he
            obtain ⟨_, R', h5, rfl⟩ := envL_get _ _ _ _ _ he
            exact hf j R' (hwl j (by simpa using hj)) h5)
          have hxe : ∀ x ∈ o.op.operands, a.eval x = (actsL (ops.toList.take m) vs i a0).eval x := fun x hx => by
            rw [ha, actsL_fill]
            refine fillL_eval x _ _ _ _ _ _ rfl rfl fun j p d hp hd hxd => ?_
            have hw' := (hds j p d (hkt _ _ hp) hd).2 (by
              subst hxd
              exact List.mem_append_left _ (List.mem_filterMap.2 ⟨.tmp d, by simpa using hx, rfl⟩))
            rw [hwl j hw']; simp [hwi j hw']
          have hev : execOp a.eval o = execOp (actsL (ops.toList.take m) vs i a0).eval o := execOp_congr o (noSel_ne hns) hxe
          have hsz2 : a.tmps.size = (actsL (ops.toList.take m) vs i a0).tmps.size := by rw [ha, actsL_fill, fillL_size, fillL_size]
          have h2 : o.wpIn F n P a w (fun a' w' => ∃ v, a' = a.put o.dst v ∧ (C w' ∧ St w w' ∧ R v w')) Q := oper_otherI (relDef_at hnd ho) (about_congr o w hxe) hev hsz2 h1
          unfold wpOpIn
          simp only [ho]
          rw [if_pos (by simp [Region.wanted, hg])]
          refine Oper.wpIn_mono (fun a' w' h' => ?_) h2
          obtain ⟨v, rfl, hC', hSt, hRv⟩ := h'
          refine ih _ _ w' (fun t => if t = i then v else vs t) (by simpa using hsz) ?_ (fun j hj hjs => ?_) (fun j hj k hk => ?_) hC' (fun j R' hj hRj => ?_) ?_
          · have := countP_upd (p := fun j => listed.getD j false) (q := fun j => (listed.setIfInBounds i true).getD j false) (i := i) (by
                have := getD_tf g1; simpa using this) (by simp [show i < listed.size by omega]) (fun j hj => getD_set_ne false (Ne.symm hj)) (List.range ops.size) List.nodup_range (List.mem_range.2 hin)
            omega
          · rw [getD_set_ne true (by omega)]; exact htail j hj hjs
          · refine getD_set_true ?_
            by_cases e : i = j
            · subst e; rw [waitsOf_some ho] at hk; exact hwl k hk
            · rw [getD_set_ne false e] at hj; exact hcl j hj k hk
          · by_cases e : j = i
            · subst e
              rw [hRi] at hRj
              cases hRj
              simpa using hRv
            · rw [getD_set_ne false (Ne.symm e)] at hj
              simp only [e, if_false]
              have hjm : j < m := by
                by_cases h : j < m
                · exact h
                · have : Rs[j]? = none := List.getElem?_eq_none (by omega)
                  rw [this] at hRj; cases hRj
              have hjo : ops[j]? = some ops[j] := Array.getElem?_eq_getElem (by omega)
              obtain ⟨hst, _⟩ := wpRelI_at _ Rs a0 [] (by rw [htl, hl]) hw vs j _ R' (htk j _ hjm hjo) hRj
              exact hst _ _ _ hC hSt (hf j R' hj hRj)
          · rw [ha]
            refine (fillL_set _ (fun j => listed.getD j false) _ vs a0 i o v (htk i o him ho) (by have := getD_tf g1; simpa using this) (by simp [show i < listed.size by omega]) (fun j hj => getD_set_ne false (Ne.symm hj)) (fun j p t hp hj ht => ?_)).symm
            exact (hds j p t (hkt _ _ hp) ht).1 (Ne.symm hj)
        · refine absurd (fun j hj => ?_) hall
          have h3 := hT i (by omega) hin
          unfold relTail at h3
          rw [Bool.and_eq_true] at h3
          exact reach_listed (L := fun j => listed.getD j false = true) hcl ops.size i j (fun k hk => by rw [waitsOf_some ho] at hk; exact hwl k hk) ((List.all_eq_true.1 h3.2) j (List.mem_range.2 (by omega)))

/-- **One walk, whatever the order.** -/
theorem wpIn_region_rel (m : Nat) (Rs : List Rel) {id : Nat} {a : Act} {w : World} (hm : P.follows .mixedOrders = true) (hB : relOK ops m = true) (hnd : relDef ops = true) (hl : Rs.length = m) (hC : C w.drew)
    (h : wpRelI F n P ops C St Q (ops.toList.drop m) (ops.toList.take m) Rs a []) : (Code.region id ops true).wpIn F n P Q a w := by
  unfold relOK at hB
  rw [Bool.and_eq_true] at hB
  have hm1 : m ≤ ops.size := by simpa using hB.1
  have hall := List.all_eq_true.1 hB.2
  refine wpIn_region_any hm (rel_anyI (C := C) (St := St) hnd hm1 (fun i h1 h2 => ?_) (fun i hi => ?_) hl h ops.size _ a _ (fun _ => undef) (by simp) (by omega) (fun j hj hjs => by simp [hjs]) (fun j hj => ?_) hC (fun j R hj => ?_) ?_)
  · have := hall i (List.mem_range.2 h2)
    rwa [if_neg (by omega)] at this
  · have := hall i (List.mem_range.2 (by omega))
    rwa [if_pos hi] at this
  · by_cases hjs : j < ops.size
    · simp [hjs] at hj
    · simp [hjs] at hj
  · by_cases hjs : j < ops.size
    · simp [hjs] at hj
    · simp [hjs] at hj
  · rw [fillL_congr _ _ (fun _ => false) _ _ (fun j hj => by
      by_cases hjs : j < ops.size
      · simp [hjs]
      · simp [hjs]), fillL_none]
theorem wpRelI_cons {tail : List Oper} {o : Oper} {os : List Oper} {R : Rel} {Rs : List Rel} {a : Act} {E : List (World → Prop)} (h1 : ∀ v w w', C w → St w w' → R v w → R v w') (h2 : ∀ w, C w → (∀ j, (waitsFor o).contains j = true → ∀ e, E[j]? = some e → e w) → relOblI F n P C St R o a w)
    (h3 : ∀ v, wpRelI F n P ops C St Q tail os Rs (a.put o.dst v) (E ++ [R v])) : wpRelI F n P ops C St Q tail (o :: os) (R :: Rs) a E := ⟨h1, h2, h3⟩
theorem wpRelI_nil {tail : List Oper} {a : Act} {E : List (World → Prop)} (h : ∀ w, C w → (∀ (j : Nat) (e : World → Prop), E[j]? = some e → e w) → wpListIn F n P ops Q tail a w) : wpRelI F n P ops C St Q tail [] [] a E := by
  unfold wpRelI; exact h
theorem wpIn_region_relL (C : World → Prop) (St : World → World → Prop) (m : Nat) (Rs : List Rel) {l : List Oper} {id : Nat} {a : Act} {w : World} (hm : P.follows .mixedOrders = true) (hB : relOK l.toArray m = true) (hnd : relDef l.toArray = true) (hl : Rs.length = m) (hC : C w.drew)
    (h : wpRelI F n P l.toArray C St Q (l.drop m) (l.take m) Rs a []) : (Code.region id l.toArray true).wpIn F n P Q a w := wpIn_region_rel m Rs hm hB hnd hl hC h
end
end Go.Proofs.Ytamnojhkfknnoaa
/-
  XRelI's law where operations of the head may be guarded (`&&`, `||`): one that is not wanted yields nothing.
-/
namespace Go.Proofs.Ytamnojhkfknnoaa
open Go
set_option linter.unusedVariables false

def relHeadG (ops : Array Oper) (i : Nat) : Bool := match ops[i]? with
  | none => true
  | some o => noSel o && (waitsFor o).all (fun j => decide (j < i)) &&
      (List.range ops.size).all fun j => match ops[j]? with
        | none => true
        | some p => match p.dst with
          | none => true
          | some d => ((i == j) || (o.dst != some d)) && (!(o.looksAt ops).contains d || (waitsFor o).contains j)
def relOKG (ops : Array Oper) (m : Nat) : Bool := decide (m ≤ ops.size) && (List.range ops.size).all fun i => if i < m then relHeadG ops i else relTail ops i
theorem relHeadG_spec {ops : Array Oper} {i : Nat} {o : Oper} (ho : ops[i]? = some o) (h : relHeadG ops i = true) :
    noSel o = true ∧ (∀ j ∈ waitsFor o, j < i) ∧ ∀ (j : Nat) (p : Oper) (d : Tmp), ops[j]? = some p → p.dst = some d → (i ≠ j → o.dst ≠ some d) ∧ (d ∈ o.looksAt ops → j ∈ waitsFor o) := by
  unfold relHeadG at h
  rw [ho] at h
  simp only [Bool.and_eq_true] at h
  obtain ⟨⟨h2, h3⟩, h4⟩ := h
  refine ⟨h2, fun j hj => by simpa using (List.all_eq_true.1 h3) j hj, fun j p d hp hd => ?_⟩
  have h5 := (List.all_eq_true.1 h4) j (List.mem_range.2 (Array.getElem?_eq_some_iff.1 hp).1)
  simp only [hp, hd, Bool.and_eq_true, Bool.or_eq_true, beq_iff_eq, bne_iff_ne, Bool.not_eq_true', List.contains_eq_mem, decide_eq_false_iff_not, decide_eq_true_eq] at h5
  exact ⟨fun hij => h5.1.resolve_left hij, fun hm => h5.2.resolve_left (fun hn => hn hm)⟩
theorem wanted_same {ops : Array Oper} {o : Oper} {a b : Act} (hs : a.tmps.size = b.tmps.size) (h : ∀ t ∈ o.looksAt ops, a.eval (.tmp t) = b.eval (.tmp t)) : Region.wanted o (yielded ops a.tmps) = Region.wanted o (yielded ops b.tmps) := by
  unfold Region.wanted
  cases hg : o.guard with
  | none => rfl
  | some gw =>
    obtain ⟨g, want⟩ := gw
    have hy : yielded ops a.tmps g = yielded ops b.tmps g := by
      unfold yielded
      cases ht : (ops[g]?).bind (·.dst) with
      | none => rfl
      | some t =>
        have he := h t (by simp [Oper.looksAt, hg, ht])
        simp only [Act.eval] at he
        have : a.tmps[t]? = b.tmps[t]? := by
          by_cases hl : t < b.tmps.size
          · have hl' : t < a.tmps.size := by rw [hs]; exact hl
            simp [hl, hl'] at he ⊢
            exact he
          · simp [hl, hs]
        simp only [Option.bind_some, this]
    simp only [hy]

section
variable {F : Fence} {n : Nat} {P : Program} {ops : Array Oper} {T : Nat} {fl : Nat → Bool} {C : Nat → World → Prop} {St : World → World → Prop} {Q : Exit → Act → World → Prop}

/-- What an operation owes; where it is not wanted, its slot is emptied. -/
def relOblG (F : Fence) (n : Nat) (P : Program) (ops : Array Oper) (C : World → Prop) (St : World → World → Prop) (R : Rel) (o : Oper) (a : Act) (w : World) : Prop :=
  if Region.wanted o (yielded ops a.tmps) = true then relOblI F n P C St R o a w else (∀ f, o.about P w a.eval = some f → F.fn f) ∧ C w ∧ St w w ∧ R undef w

/-- The walk in the order of the text. -/
def wpRelG (F : Fence) (n : Nat) (P : Program) (ops : Array Oper) (T : Nat) (fl : Nat → Bool) (C : Nat → World → Prop) (St : World → World → Prop) (Q : Exit → Act → World → Prop) (tail : List Oper) : List Oper → List Rel → Act → List (World → Prop) → Prop
  | o :: os, R :: Rs, a, E => (∀ v w w' k, C k w → St w w' → R v w → R v w') ∧ (∀ k w, k + (fl E.length).toNat ≤ T → C k w → (∀ j, (waitsFor o).contains j = true → ∀ e, E[j]? = some e → e w) → relOblG F n P ops (C (k + (fl E.length).toNat)) St R o a w) ∧ ∀ v, wpRelG F n P ops T fl C St Q tail os Rs (a.put o.dst v) (E ++ [R v])
  | _, _, a, E => ∀ w, C T w → (∀ (j : Nat) (e : World → Prop), E[j]? = some e → e w) → wpListIn F n P ops Q tail a w

theorem wpRelG_at {tail : List Oper} : ∀ (os : List Oper) (Rs : List Rel) (a : Act) (E : List (World → Prop)), Rs.length = os.length → wpRelG F n P ops T fl C St Q tail os Rs a E → ∀ (vs : Nat → Value) (i : Nat) (o : Oper) (R : Rel), os[i]? = some o → Rs[i]? = some R →
    (∀ v w w' k, C k w → St w w' → R v w → R v w') ∧ ∀ k w, k + (fl (E.length + i)).toNat ≤ T → C k w → (∀ j, (waitsFor o).contains j = true → ∀ e, (E ++ envL Rs vs i)[j]? = some e → e w) → relOblG F n P ops (C (k + (fl (E.length + i)).toNat)) St R o (actsL os vs i a) w
  | [], _, _, _, _, _, _, i, _, _, h, _ => by simp at h
  | o :: os, [], _, _, hl, _, _, _, _, _, _, _ => by simp at hl
  | o :: os, R :: Rs, a, E, hl, h, vs, 0, o', R', ho, hR => by
    simp only [List.getElem?_cons_zero, Option.some.injEq] at ho hR
    subst ho; subst hR
    refine ⟨h.1, fun k w hk hw hd => ?_⟩
    simp only [envL, List.append_nil] at hd
    exact h.2.1 k w hk hw hd
  | o :: os, R :: Rs, a, E, hl, h, vs, i + 1, o', R', ho, hR => by
    have h2 := wpRelG_at os Rs (a.put o.dst (vs 0)) (E ++ [R (vs 0)]) (by simpa using hl) (h.2.2 (vs 0)) (fun t => vs (t + 1)) i o' R' (by simpa using ho) (by simpa using hR)
    refine ⟨h2.1, fun k w hk hw hd => ?_⟩
    rw [show E.length + (i + 1) = (E ++ [R (vs 0)]).length + i by simp; omega] at hk ⊢
    refine h2.2 k w hk hw fun j hj e he => hd j hj e ?_
    rw [List.append_assoc] at he
    exact he
theorem wpRelG_end {tail : List Oper} : ∀ (os : List Oper) (Rs : List Rel) (a : Act) (E : List (World → Prop)), Rs.length = os.length → wpRelG F n P ops T fl C St Q tail os Rs a E → ∀ (vs : Nat → Value) (w : World), C T w → (∀ (j : Nat) (e : World → Prop), (E ++ envL Rs vs os.length)[j]? = some e → e w) → wpListIn F n P ops Q tail (actsL os vs os.length a) w
  | [], _, a, E, hl, h, vs, w, hw, he => by
    unfold wpRelG at h
    exact h w hw fun j e h' => he j e (by simpa [envL] using h')
  | o :: os, [], _, _, hl, _, _, _, _, _ => by simp at hl
  | o :: os, R :: Rs, a, E, hl, h, vs, w, hw, he => by
    refine wpRelG_end os Rs (a.put o.dst (vs 0)) (E ++ [R (vs 0)]) (by simpa using hl) (h.2.2 (vs 0)) (fun t => vs (t + 1)) w hw fun j e h' => he j e ?_
    rw [List.append_assoc] at h'
    exact h'

theorem rel_anyG {m : Nat} (hTm : (List.range m).countP fl = T) (hnd : relDef ops = true) (hm : m ≤ ops.size) (hT : ∀ i, m ≤ i → i < ops.size → relTail ops i = true) (hR : ∀ i, i < m → relHeadG ops i = true) {Rs : List Rel} (hl : Rs.length = m) {a0 : Act}
    (hw : wpRelG F n P ops T fl C St Q (ops.toList.drop m) (ops.toList.take m) Rs a0 []) : ∀ (fuel : Nat) (listed : Array Bool) (a : Act) (w : World) (vs : Nat → Value), listed.size = ops.size →
    ops.size ≤ (List.range ops.size).countP (fun j => listed.getD j false) + fuel → (∀ j, m ≤ j → j < ops.size → listed.getD j true = false) → (∀ j, listed.getD j false = true → ∀ k ∈ waitsOf ops j, listed.getD k false = true) → C ((List.range m).countP fun j => listed.getD j false && fl j) w →
    (∀ j R, listed.getD j false = true → Rs[j]? = some R → R (vs j) w) → a = fillL (ops.toList.take m) (fun j => listed.getD j false) vs a0 → wpAnyIn F n P .any ops Q fuel listed a w := by
  have htl : (ops.toList.take m).length = m := by simp; omega
  have hH : ∀ i o, i < m → ops[i]? = some o → ∀ j ∈ waitsFor o, j < i := fun i o hi ho => (relHeadG_spec ho (hR i hi)).2.1
  have htk : ∀ i o, i < m → ops[i]? = some o → (ops.toList.take m)[i]? = some o := fun i o hi ho => by
    rw [List.getElem?_take]; simp [hi, ho]
  have hkt : ∀ (i : Nat) (o : Oper), (ops.toList.take m)[i]? = some o → ops[i]? = some o := fun i o h => by
    rw [List.getElem?_take] at h
    split at h
    · simpa using h
    · cases h
  intro fuel
  induction fuel with
  | zero =>
    intro listed a w vs hsz hcnt htail hcl hC hf ha
    have h1 := List.countP_le_length (p := fun j => listed.getD j false) (l := List.range ops.size)
    rw [List.length_range] at h1
    have hall := List.countP_eq_length.1 (show (List.range ops.size).countP (fun j => listed.getD j false) = (List.range ops.size).length by rw [List.length_range]; omega)
    have hmn : m = ops.size := by
      by_cases e : m = ops.size
      · exact e
      · have h2 := hall m (List.mem_range.2 (by omega))
        exact absurd h2 (getD_tf (htail m (Nat.le_refl _) (by omega)))
    refine tail_anyI hT hH _ m 0 listed a w rfl (Nat.le_refl _) hsz (fun j hj hjs => hall j (List.mem_range.2 hjs)) htail (by simp; omega) ?_
    rw [show ((List.range m).countP fun j => listed.getD j false && fl j) = T by
      rw [← hTm]
      exact List.countP_congr fun j hj => by rw [hall j (List.mem_range.2 (by have := List.mem_range.1 hj; omega))]; simp] at hC
    have h3 := wpRelG_end _ Rs a0 [] (by rw [htl, hl]) hw vs w hC (fun j e he => by
      simp only [List.nil_append] at he
      obtain ⟨h4, R, h5, rfl⟩ := envL_get _ _ _ _ _ he
      rw [htl] at h4
      exact hf j R (hall j (List.mem_range.2 (by omega))) h5)
    rw [actsL_fill, htl] at h3
    rw [ha, fillL_congr _ _ (fun j => decide (j < m)) _ _ (fun j hj => by
      rw [htl] at hj
      rw [hall j (List.mem_range.2 (by omega))]; simp [hj])]
    exact h3
  | succ fuel ih =>
    intro listed a w vs hsz hcnt htail hcl hC hf ha
    by_cases hall : ∀ j, j < m → listed.getD j false = true
    · have hc1 : (List.range ops.size).countP (fun j => listed.getD j false) ≤ m := by
        refine Nat.le_trans (List.countP_mono_left fun j hj hjl => ?_) (countP_lt m ops.size).1
        simp only [decide_eq_true_eq]
        by_cases e : j < m
        · exact e
        · exact absurd hjl (getD_tf (htail j (by omega) (List.mem_range.1 hj)))
      refine tail_anyI hT hH _ m _ listed a w rfl (Nat.le_refl _) hsz (fun j hj hjs => hall j hj) htail (by simp; omega) ?_
      rw [show ((List.range m).countP fun j => listed.getD j false && fl j) = T by
        rw [← hTm]
        exact List.countP_congr fun j hj => by rw [hall j (List.mem_range.1 hj)]; simp] at hC
      have h3 := wpRelG_end _ Rs a0 [] (by rw [htl, hl]) hw vs w hC (fun j e he => by
        simp only [List.nil_append] at he
        obtain ⟨h4, R, h5, rfl⟩ := envL_get _ _ _ _ _ he
        rw [htl] at h4
        exact hf j R (hall j h4) h5)
      rw [actsL_fill, htl] at h3
      rw [ha, fillL_congr _ _ (fun j => decide (j < m)) _ _ (fun j hj => by
        rw [htl] at hj
        rw [hall j hj]; simp [hj])]
      exact h3
    · refine ⟨fun hr => ?_, fun i hi => ?_⟩
      · refine absurd (fun j => ?_) hall
        induction j using Nat.strongRecOn with
        | ind j ihj =>
          intro hj
          refine Classical.byContradiction fun hn => ?_
          have hjo : ops[j]? = some ops[j] := Array.getElem?_eq_getElem (by omega)
          have : j ∈ Region.ready .any ops listed := mem_ready.2 ⟨getD_ff (by omega) hn, _, hjo, fun e he hb => by
            have h1 := hH j _ hj hjo e.on (mem_waits he hb)
            exact ihj _ h1 (by omega)⟩
          rw [hr] at this; cases this
      · obtain ⟨g1, o, ho, g2⟩ := mem_ready.1 hi
        have hin := (Array.getElem?_eq_some_iff.1 ho).1
        have hwl : ∀ k ∈ waitsFor o, listed.getD k false = true := fun k hk => by
          obtain ⟨e, he, hb, rfl⟩ := of_waits hk
          exact g2 e he hb
        by_cases him : i < m
        · obtain ⟨hns, hwi, hds⟩ := relHeadG_spec ho (hR i him)
          have hRi : Rs[i]? = some (Rs[i]'(by omega)) := List.getElem?_eq_getElem (by omega)
          obtain ⟨R, hRe⟩ : ∃ R, Rs[i]'(by omega) = R := ⟨_, rfl⟩
          rw [hRe] at hRi
          obtain ⟨_, hob⟩ := wpRelG_at _ Rs a0 [] (by rw [htl, hl]) hw vs i o R (htk i o him ho) hRi
          obtain ⟨k0, hk0⟩ : ∃ k0, ((List.range m).countP fun j => listed.getD j false && fl j) = k0 := ⟨_, rfl⟩
          have hk1 : ((List.range m).countP fun j => (listed.setIfInBounds i true).getD j false && fl j) = k0 + (fl i).toNat := by
            cases hfl : fl i with
            | true =>
              rw [← hk0]
              exact countP_upd (i := i) (by have := getD_tf g1; simp [this]) (by simp [show i < listed.size by omega, hfl]) (fun j hj => by rw [getD_set_ne false (Ne.symm hj)]) (List.range m) List.nodup_range (List.mem_range.2 him)
            | false =>
              rw [← hk0]
              exact List.countP_congr fun j _ => by
                by_cases e : j = i
                · subst e; simp [hfl]
                · rw [getD_set_ne false (Ne.symm e)]
          have hkT : k0 + (fl i).toNat ≤ T := by
            rw [← hk1, ← hTm]
            exact List.countP_mono_left fun j _ h => by simp at h; exact h.2
          rw [hk0] at hC
          simp only [List.length_nil, Nat.zero_add] at hob
          have h1 := hob k0 w hkT hC (fun j hj e he => by
            simp only [List.nil_append] at he
            obtain ⟨_, R', h5, rfl⟩ := envL_get _ _ _ _ _ he
            exact hf j R' (hwl j (by simpa using hj)) h5)
          have hat : ∀ t ∈ o.looksAt ops, a.eval (.tmp t) = (actsL (ops.toList.take m) vs i a0).eval (.tmp t) := fun t ht => by
            rw [ha, actsL_fill]
            refine fillL_eval _ _ _ _ _ _ _ rfl rfl fun j p d hp hd hxd => ?_
            have hw' := (hds j p d (hkt _ _ hp) hd).2 (by injection hxd with hxd; rw [← hxd]; exact ht)
            rw [hwl j hw']; simp [hwi j hw']
          have hxe : ∀ x ∈ o.op.operands, a.eval x = (actsL (ops.toList.take m) vs i a0).eval x := fun x hx => by
            rw [ha, actsL_fill]
            refine fillL_eval x _ _ _ _ _ _ rfl rfl fun j p d hp hd hxd => ?_
            have hw' := (hds j p d (hkt _ _ hp) hd).2 (by
              subst hxd
              exact List.mem_append_left _ (List.mem_filterMap.2 ⟨.tmp d, by simpa using hx, rfl⟩))
            rw [hwl j hw']; simp [hwi j hw']
          have hev : execOp a.eval o = execOp (actsL (ops.toList.take m) vs i a0).eval o := execOp_congr o (noSel_ne hns) hxe
          have hsz2 : a.tmps.size = (actsL (ops.toList.take m) vs i a0).tmps.size := by rw [ha, actsL_fill, fillL_size, fillL_size]
          have hwant := wanted_same (ops := ops) (o := o) hsz2 hat
          have hgo : ∀ a' w', (∃ v, a' = a.put o.dst v ∧ C (k0 + (fl i).toNat) w' ∧ St w w' ∧ R v w') → wpAnyIn F n P .any ops Q fuel (listed.setIfInBounds i true) a' w' := by
           intro a' w' h'
           obtain ⟨v, rfl, hC', hSt, hRv⟩ := h'
           refine ih _ _ w' (fun t => if t = i then v else vs t) (by simpa using hsz) ?_ (fun j hj hjs => ?_) (fun j hj k hk => ?_) (by rw [hk1]; exact hC') (fun j R' hj hRj => ?_) ?_
           · have := countP_upd (p := fun j => listed.getD j false) (q := fun j => (listed.setIfInBounds i true).getD j false) (i := i) (by
                 have := getD_tf g1; simpa using this) (by simp [show i < listed.size by omega]) (fun j hj => getD_set_ne false (Ne.symm hj)) (List.range ops.size) List.nodup_range (List.mem_range.2 hin)
             omega
           · rw [getD_set_ne true (by omega)]; exact htail j hj hjs
           · refine getD_set_true ?_
             by_cases e : i = j
             · subst e; rw [waitsOf_some ho] at hk; exact hwl k hk
             · rw [getD_set_ne false e] at hj; exact hcl j hj k hk
           · by_cases e : j = i
             · subst e
               rw [hRi] at hRj
               cases hRj
               simpa using hRv
             · rw [getD_set_ne false (Ne.symm e)] at hj
               simp only [e, if_false]
               have hjm : j < m := by
                 by_cases h : j < m
                 · exact h
                 · have : Rs[j]? = none := List.getElem?_eq_none (by omega)
                   rw [this] at hRj; cases hRj
               have hjo : ops[j]? = some ops[j] := Array.getElem?_eq_getElem (by omega)
               obtain ⟨hst, _⟩ := wpRelG_at _ Rs a0 [] (by rw [htl, hl]) hw vs j _ R' (htk j _ hjm hjo) hRj
               exact hst _ _ _ _ hC hSt (hf j R' hj hRj)
           · rw [ha]
             refine (fillL_set _ (fun j => listed.getD j false) _ vs a0 i o v (htk i o him ho) (by have := getD_tf g1; simpa using this) (by simp [show i < listed.size by omega]) (fun j hj => getD_set_ne false (Ne.symm hj)) (fun j p t hp hj ht => ?_)).symm
             exact (hds j p t (hkt _ _ hp) ht).1 (Ne.symm hj)
          unfold wpOpIn
          simp only [ho]
          unfold relOblG at h1
          rw [← hwant] at h1
          by_cases hwd : Region.wanted o (yielded ops a.tmps) = true
          · rw [if_pos hwd] at h1 ⊢
            have h2 : o.wpIn F n P a w (fun a' w' => ∃ v, a' = a.put o.dst v ∧ (C (k0 + (fl i).toNat) w' ∧ St w w' ∧ R v w')) Q := oper_otherI (relDef_at hnd ho) (about_congr o w hxe) hev hsz2 h1
            exact Oper.wpIn_mono hgo h2
          · rw [if_neg hwd] at h1 ⊢
            exact ⟨by rw [about_congr o w hxe]; exact h1.1, hgo _ _ ⟨undef, rfl, h1.2.1, h1.2.2.1, h1.2.2.2⟩⟩
        · refine absurd (fun j hj => ?_) hall
          have h3 := hT i (by omega) hin
          unfold relTail at h3
          rw [Bool.and_eq_true] at h3
          exact reach_listed (L := fun j => listed.getD j false = true) hcl ops.size i j (fun k hk => by rw [waitsOf_some ho] at hk; exact hwl k hk) ((List.all_eq_true.1 h3.2) j (List.mem_range.2 (by omega)))

/-- **One walk, whatever the order.** -/
theorem wpIn_region_relG (m : Nat) (Rs : List Rel) (hTm : (List.range m).countP fl = T) {id : Nat} {a : Act} {w : World} (hm : P.follows .mixedOrders = true) (hB : relOKG ops m = true) (hnd : relDef ops = true) (hl : Rs.length = m) (hC : C 0 w.drew)
    (h : wpRelG F n P ops T fl C St Q (ops.toList.drop m) (ops.toList.take m) Rs a []) : (Code.region id ops true).wpIn F n P Q a w := by
  unfold relOKG at hB
  rw [Bool.and_eq_true] at hB
  have hm1 : m ≤ ops.size := by simpa using hB.1
  have hall := List.all_eq_true.1 hB.2
  refine wpIn_region_any hm (rel_anyG (C := C) (St := St) hTm hnd hm1 (fun i h1 h2 => ?_) (fun i hi => ?_) hl h ops.size _ a _ (fun _ => undef) (by simp) (by omega) (fun j hj hjs => by simp [hjs]) (fun j hj => ?_) ?_ (fun j R hj => ?_) ?_)
  · have := hall i (List.mem_range.2 h2)
    rwa [if_neg (by omega)] at this
  · have := hall i (List.mem_range.2 (by omega))
    rwa [if_pos hi] at this
  · by_cases hjs : j < ops.size
    · simp [hjs] at hj
    · simp [hjs] at hj
  · rw [show ((List.range m).countP fun j => (Array.replicate ops.size false).getD j false && fl j) = 0 by
      rw [List.countP_eq_zero]
      intro j _
      by_cases hjs : j < ops.size
      · simp [hjs]
      · simp [hjs]]
    exact hC
  · by_cases hjs : j < ops.size
    · simp [hjs] at hj
    · simp [hjs] at hj
  · rw [fillL_congr _ _ (fun _ => false) _ _ (fun j hj => by
      by_cases hjs : j < ops.size
      · simp [hjs]
      · simp [hjs]), fillL_none]
theorem wpRelG_cons {tail : List Oper} {o : Oper} {os : List Oper} {R : Rel} {Rs : List Rel} {a : Act} {E : List (World → Prop)} (h1 : ∀ v w w' k, C k w → St w w' → R v w → R v w') (h2 : ∀ k w, k + (fl E.length).toNat ≤ T → C k w → (∀ j, (waitsFor o).contains j = true → ∀ e, E[j]? = some e → e w) → relOblG F n P ops (C (k + (fl E.length).toNat)) St R o a w)
    (h3 : ∀ v, wpRelG F n P ops T fl C St Q tail os Rs (a.put o.dst v) (E ++ [R v])) : wpRelG F n P ops T fl C St Q tail (o :: os) (R :: Rs) a E := ⟨h1, h2, h3⟩
theorem wpRelG_nil {tail : List Oper} {a : Act} {E : List (World → Prop)} (h : ∀ w, C T w → (∀ (j : Nat) (e : World → Prop), E[j]? = some e → e w) → wpListIn F n P ops Q tail a w) : wpRelG F n P ops T fl C St Q tail [] [] a E := by
  unfold wpRelG; exact h
theorem wpIn_region_relGL (T : Nat) (fl : Nat → Bool) (C : Nat → World → Prop) (St : World → World → Prop) (m : Nat) (Rs : List Rel) {l : List Oper} {id : Nat} {a : Act} {w : World} (hm : P.follows .mixedOrders = true) (hB : relOKG l.toArray m = true) (hnd : relDef l.toArray = true) (hl : Rs.length = m) (hTm : (List.range m).countP fl = T) (hC : C 0 w.drew)
    (h : wpRelG F n P l.toArray T fl C St Q (l.drop m) (l.take m) Rs a []) : (Code.region id l.toArray true).wpIn F n P Q a w := wpIn_region_relG m Rs hTm hm hB hnd hl hC h
end
end Go.Proofs.Ytamnojhkfknnoaa
/-
  The order of scans (plain): the model's insertion, and that a sorted row of the same scans is its list.
-/
namespace Go.Proofs.Ytamnojhkfknnoaa
open Go Go.RowKit
set_option linter.unusedVariables false

/-- Ahead of: by hour, then by station. -/
def ltS (x y : Int × Int) : Prop := x.2 < y.2 ∨ (x.2 = y.2 ∧ x.1 < y.1)
instance (x y : Int × Int) : Decidable (ltS x y) := inferInstanceAs (Decidable (_ ∨ _))
def leS (x y : Int × Int) : Prop := ¬ ltS y x
theorem leS.trans {x y z : Int × Int} (h : leS x y) (k : leS y z) : leS x z := by unfold leS ltS at *; omega
theorem leS.anti {x y : Int × Int} (h : leS x y) (k : leS y x) : x = y := by
  unfold leS ltS at *
  exact Prod.ext (by omega) (by omega)
theorem ltS.le {x y : Int × Int} (h : ltS x y) : leS x y := by unfold leS ltS at *; omega
def posS (x : Int × Int) (out : List (Int × Int)) : Nat → Nat
  | 0 => 0
  | n + 1 => if ltS x (out.getD n (0, 0)) then posS x out n else n + 1
theorem posS_le (x : Int × Int) (out : List (Int × Int)) : ∀ n, posS x out n ≤ n
  | 0 => Nat.le_refl _
  | n + 1 => by
    unfold posS
    split
    · exact Nat.le_succ_of_le (posS_le x out n)
    · exact Nat.le_refl _
theorem posS_in (x : Int × Int) (out : List (Int × Int)) : ∀ n j, posS x out n ≤ j → j < n → ltS x (out.getD j (0, 0))
  | 0, j, h, hj => by omega
  | n + 1, j, h, hj => by
    unfold posS at h
    split at h
    · rename_i hl
      by_cases e : j = n
      · rw [e]; exact hl
      · exact posS_in x out n j h (by omega)
    · omega
theorem posS_no (x : Int × Int) (out : List (Int × Int)) : ∀ n, 1 ≤ posS x out n → ¬ ltS x (out.getD (posS x out n - 1) (0, 0))
  | 0, h => by unfold posS at h; omega
  | n + 1, h => by
    unfold posS at h ⊢
    split at h
    · rename_i hl; rw [if_pos hl]; exact posS_no x out n h
    · rename_i hl; rw [if_neg hl]; exact hl
def insS (x : Int × Int) (out : List (Int × Int)) : List (Int × Int) := out.take (posS x out out.length) ++ x :: out.drop (posS x out out.length)
theorem insS_perm (x : Int × Int) (out : List (Int × Int)) : (insS x out).Perm (x :: out) := by
  unfold insS
  have h := List.perm_middle (a := x) (l₁ := out.take (posS x out out.length)) (l₂ := out.drop (posS x out out.length))
  rwa [List.take_append_drop] at h
theorem insS_sorted {x : Int × Int} {out : List (Int × Int)} (h : out.Pairwise leS) : (insS x out).Pairwise leS := by
  unfold insS
  have hp := posS_le x out out.length
  rw [List.pairwise_append]
  have hget := List.pairwise_iff_getElem.1 h
  refine ⟨h.sublist (List.take_sublist _ _), ?_, ?_⟩
  · rw [List.pairwise_cons]
    refine ⟨fun y hy => ?_, h.sublist (List.drop_sublist _ _)⟩
    obtain ⟨i, hi, rfl⟩ := List.getElem_of_mem hy
    rw [List.length_drop] at hi
    rw [List.getElem_drop]
    have h1 := posS_in x out out.length (posS x out out.length + i) (by omega) (by omega)
    rw [List.getD, List.getElem?_eq_getElem (by omega)] at h1
    exact ltS.le (by simpa using h1)
  · intro a ha b hb
    obtain ⟨i, hi, rfl⟩ := List.getElem_of_mem ha
    rw [List.length_take] at hi
    rw [List.getElem_take]
    rcases List.mem_cons.1 hb with rfl | hb
    · have h1 := posS_no b out out.length (by omega)
      rw [List.getD, List.getElem?_eq_getElem (by omega)] at h1
      have h2 : leS (out[posS b out out.length - 1]'(by omega)) b := by unfold leS; simpa using h1
      by_cases e : i = posS b out out.length - 1
      · subst e; exact h2
      · exact (hget i (posS b out out.length - 1) (by omega) (by omega) (by omega)).trans h2
    · obtain ⟨j, hj, rfl⟩ := List.getElem_of_mem hb
      rw [List.length_drop] at hj
      rw [List.getElem_drop]
      exact hget i _ (by omega) (by omega) (by omega)
theorem insS_len (x : Int × Int) (out : List (Int × Int)) : (insS x out).length = out.length + 1 := by rw [(insS_perm x out).length_eq]; rfl
/-- The model's list behind k scans. -/
def ssK (ps : List (Int × Int)) : Nat → List (Int × Int)
  | 0 => []
  | k + 1 => insS (ps.getD k (0, 0)) (ssK ps k)
theorem ssK_len (ps : List (Int × Int)) : ∀ k, (ssK ps k).length = k
  | 0 => rfl
  | k + 1 => by rw [ssK, insS_len, ssK_len ps k]
theorem ssK_sorted (ps : List (Int × Int)) : ∀ k, (ssK ps k).Pairwise leS
  | 0 => List.Pairwise.nil
  | k + 1 => insS_sorted (ssK_sorted ps k)
theorem ssK_perm (ps : List (Int × Int)) : ∀ k, k ≤ ps.length → (ssK ps k).Perm (ps.take k)
  | 0, _ => by simp [ssK]
  | k + 1, h => by
    have e : ps.take (k + 1) = ps.take k ++ [ps.getD k (0, 0)] := by rw [List.take_add_one, List.getElem?_eq_getElem (by omega)]; simp [List.getD, show k < ps.length by omega]
    rw [ssK, e]
    refine (insS_perm _ _).trans (((ssK_perm ps k (by omega)).cons _).trans ?_)
    have h2 := (List.perm_append_comm (l₁ := [ps.getD k (0, 0)]) (l₂ := ps.take k))
    exact h2
theorem sortS_one : ∀ (A B : List (Int × Int)), A.Pairwise leS → B.Pairwise leS → A.Perm B → A = B
  | [], B, _, _, h => (List.nil_perm.1 h).symm ▸ rfl
  | a :: A, [], _, _, h => by have := h.length_eq; simp at this
  | a :: A, b :: B, hA, hB, h => by
    rw [List.pairwise_cons] at hA hB
    have e : a = b := by
      have h1 : a ∈ b :: B := h.mem_iff.1 List.mem_cons_self
      have h2 : b ∈ a :: A := h.mem_iff.2 List.mem_cons_self
      rcases List.mem_cons.1 h1 with e1 | e1
      · exact e1
      · rcases List.mem_cons.1 h2 with e2 | e2
        · exact e2.symm
        · exact (hA.1 b e2).anti (hB.1 a e1)
    subst e
    rw [sortS_one A B hA.2 hB.2 (List.perm_cons a |>.1 h)]
theorem sortS_is {ps ms : List (Int × Int)} (hp : ms.Perm ps) (hs : ∀ a b, a < b → b < ps.length → leS (ms.getD a (0, 0)) (ms.getD b (0, 0))) : ms = ssK ps ps.length := by
  have hl := hp.length_eq
  refine sortS_one _ _ ?_ (ssK_sorted _ _) (hp.trans (by have := ssK_perm ps ps.length (Nat.le_refl _); rw [List.take_length] at this; exact this.symm))
  rw [List.pairwise_iff_getElem]
  intro a b ha hb hab
  have h := hs a b hab (by omega)
  simpa [List.getD, ha, hb] using h

/-- How two scans are compared. -/
def cmZ (x y : Int) : Int := if x < y then -1 else if y < x then 1 else 0
def orS (x y : Int) : Int := if x ≠ 0 then x else y
def cmpS (x y : Int × Int) : Int := orS (cmZ x.2 y.2) (cmZ x.1 y.1)
theorem cmZ_neg (x y : Int) : cmZ x y < 0 ↔ x < y := by unfold cmZ; split <;> (try split) <;> omega
theorem cmZ_zero (x y : Int) : cmZ x y = 0 ↔ x = y := by unfold cmZ; split <;> (try split) <;> omega
theorem cmpS_neg (x y : Int × Int) : cmpS x y < 0 ↔ ltS x y := by
  have h1 := cmZ_neg x.2 y.2
  have h2 := cmZ_zero x.2 y.2
  have h3 := cmZ_neg x.1 y.1
  unfold cmpS orS ltS
  split <;> omega

/-! The program's insertion sort: what holds of the first k, and in the midst of a round. -/
def sAt (L : List (Int × Int)) (i : Nat) : Int × Int := L.getD i (0, 0)
def SoTo (L : List (Int × Int)) (k : Nat) : Prop := ∀ a b, a < b → b < k → leS (sAt L a) (sAt L b)
def InTo (L : List (Int × Int)) (k j : Nat) : Prop := (∀ a b, a < b → b ≤ k → a ≠ j → b ≠ j → leS (sAt L a) (sAt L b)) ∧ ∀ b, j < b → b ≤ k → leS (sAt L j) (sAt L b)
def swS (L : List (Int × Int)) (j : Nat) : List (Int × Int) := (L.set j (sAt L (j - 1))).set (j - 1) (sAt L j)
theorem swS_len (L : List (Int × Int)) (j : Nat) : (swS L j).length = L.length := by simp [swS]
theorem swS_perm {L : List (Int × Int)} {j : Nat} (hj : j < L.length) : (swS L j).Perm L := by
  have h := @List.set_set_perm _ L j (j - 1) hj (by omega)
  have e1 : sAt L (j - 1) = L[j - 1] := by simp [sAt, List.getD, show j - 1 < L.length by omega]
  have e2 : sAt L j = L[j] := by simp [sAt, List.getD, hj]
  unfold swS
  rw [e1, e2]
  exact h
theorem swS_get {L : List (Int × Int)} {j c : Nat} (hj : j < L.length) (h1 : 1 ≤ j) : sAt (swS L j) c = if c = j then sAt L (j - 1) else if c = j - 1 then sAt L j else sAt L c := by
  unfold swS
  by_cases e1 : c = j
  · subst e1
    rw [if_pos rfl, sAt, List.getD, List.getElem?_set_ne (by omega)]
    simp [hj]
  · rw [if_neg e1]
    by_cases e2 : c = j - 1
    · subst e2
      rw [if_pos rfl, sAt, List.getD]
      simp [show j - 1 < L.length by omega]
    · rw [if_neg e2, sAt, List.getD, List.getElem?_set_ne (by omega), List.getElem?_set_ne (by omega)]
      rfl
theorem InTo.start {L : List (Int × Int)} {k : Nat} (h : SoTo L k) : InTo L k k :=
  ⟨fun a b hab hb ha hbk => h a b hab (by omega), fun b h1 h2 => by omega⟩
theorem InTo.swap {L : List (Int × Int)} {k j : Nat} (h : InTo L k j) (hj : j < L.length) (h1 : 1 ≤ j) (hl : leS (sAt L j) (sAt L (j - 1))) : InTo (swS L j) k (j - 1) := by
  refine ⟨fun a b hab hb ha hbj => ?_, fun b hb hbk => ?_⟩
  · rw [swS_get hj h1, swS_get hj h1]
    by_cases e1 : a = j
    · rw [if_pos e1, if_neg (by omega), if_neg (by omega)]
      exact h.1 (j - 1) b (by omega) hb (by omega) (by omega)
    · rw [if_neg e1, if_neg ha]
      by_cases e2 : b = j
      · rw [if_pos e2]
        exact h.1 a (j - 1) (by omega) (by omega) e1 (by omega)
      · rw [if_neg e2, if_neg hbj]
        exact h.1 a b hab hb e1 e2
  · rw [swS_get hj h1, swS_get hj h1, if_neg (by omega), if_pos rfl]
    by_cases e : b = j
    · rw [if_pos e]; exact hl
    · rw [if_neg e, if_neg (by omega)]
      exact h.2 b (by omega) hbk
theorem InTo.done {L : List (Int × Int)} {k j : Nat} (h : InTo L k j) (hl : 1 ≤ j → leS (sAt L (j - 1)) (sAt L j)) : SoTo L (k + 1) := fun a b hab hb => by
  by_cases e1 : a = j
  · subst e1; exact h.2 b hab (by omega)
  · by_cases e2 : b = j
    · subst e2
      by_cases e3 : a = b - 1
      · subst e3; exact hl (by omega)
      · exact (h.1 a (b - 1) (by omega) (by omega) e1 (by omega)).trans (hl (by omega))
    · exact h.1 a b hab (by omega) e1 e2
end Go.Proofs.Ytamnojhkfknnoaa
/-
  Which of two rows of numbers is the better one: slices.Compare at int64, isBetter: the program's.
-/
namespace Go.Proofs.Ytamnojhkfknnoaa
open Go Go.RowKit
set_option linter.unusedVariables false

set_option maxHeartbeats 1000000 in
theorem nanS64_any (x : Int) (w : World) : Calls Try.prog 74 #[.int .i64 x] w fun e w' => e = .returned (.bool false) ∧ w = w' := by
  have h : (x != x) = false := by simp
  go_enter Try.func74, Try.ntmps74
  go_wp2
  go_ret
  exact ⟨rfl, rfl⟩
set_option maxHeartbeats 2000000 in
theorem cmpS64_any (x y : Int) (w : World) : Calls Try.prog 70 #[.int .i64 x, .int .i64 y] w fun e w' => e = .returned (.int .i64 (cmZ x y)) ∧ w = w' := by
  rcases Int.lt_trichotomy x y with h | h | h
  · have HE : Hid (cmZ x y = -1) := Lib.hid (by simp [cmZ, h])
    have t1 : decide (x < y) = true := decide_eq_true h
    rw [HE.out]
    go_enter Try.func70, Try.ntmps70
    go_wp2_with (go_at_call 74; refine (nanS64_any _ _).mono ?_; rintro e w2 ⟨rfl, rfl⟩)
    go_ret
    exact ⟨rfl, rfl⟩
  · subst h
    have HE : Hid (cmZ x x = 0) := Lib.hid (by simp [cmZ])
    have t1 : decide (x < x) = false := by simp
    rw [HE.out]
    go_enter Try.func70, Try.ntmps70
    go_wp2_with (go_at_call 74; refine (nanS64_any _ _).mono ?_; rintro e w2 ⟨rfl, rfl⟩)
    go_ret
    exact ⟨rfl, rfl⟩
  · have HE : Hid (cmZ x y = 1) := Lib.hid (by simp [cmZ, h, show ¬ x < y by omega])
    have t1 : decide (x < y) = false := decide_eq_false (by omega)
    have t2 : decide (y < x) = true := decide_eq_true h
    rw [HE.out]
    go_enter Try.func70, Try.ntmps70
    go_wp2_with (go_at_call 74; refine (nanS64_any _ _).mono ?_; rintro e w2 ⟨rfl, rfl⟩)
    go_ret
    exact ⟨rfl, rfl⟩

theorem cmpL_drop {x y : List Int} {k : Nat} (hx : k < x.length) (hy : k < y.length) : cmpL (x.drop k) (y.drop k) = if x.getD k 0 < y.getD k 0 then -1 else if y.getD k 0 < x.getD k 0 then 1 else cmpL (x.drop (k + 1)) (y.drop (k + 1)) := by
  rw [List.drop_eq_getElem_cons hx, List.drop_eq_getElem_cons hy]
  simp only [cmpL, List.getD, List.getElem?_eq_getElem hx, List.getElem?_eq_getElem hy, Option.getD_some]
theorem cmpL_ends {x y : List Int} {k : Nat} (hx : x.length ≤ k) (hy : y.length ≤ k) : cmpL (x.drop k) (y.drop k) = 0 := by
  rw [List.drop_eq_nil_of_le hx, List.drop_eq_nil_of_le hy]; rfl
theorem cmpL_endx {x y : List Int} {k : Nat} (hx : x.length ≤ k) (hy : k < y.length) : cmpL (x.drop k) (y.drop k) = -1 := by
  rw [List.drop_eq_nil_of_le hx, List.drop_eq_getElem_cons hy]; rfl
theorem cmpL_endy {x y : List Int} {k : Nat} (hx : k < x.length) (hy : y.length ≤ k) : cmpL (x.drop k) (y.drop k) = 1 := by
  rw [List.drop_eq_nil_of_le hy, List.drop_eq_getElem_cons hx]; rfl
theorem ret_boB {a b : Bool} (h : a = b) : Ending.returned (.bool a) = .returned (.bool b) := by rw [h]
theorem ret_i64 {a b : Int} (h : a = b) : Ending.returned (.int .i64 a) = .returned (.int .i64 b) := by rw [h]

set_option maxRecDepth 100000 in
set_option maxHeartbeats 4000000 in
theorem scmp_any (u v : Value) (xs ys : List Int) (w : World) (hu : ReadsI w u xs) (hv : ReadsI w v ys) (hx : xs.length ≤ 1048576) (hy : ys.length ≤ 1048576) :
    Calls Try.prog 54 #[u, v] w fun e w' => e = .returned (.int .i64 (cmpL xs ys)) ∧ w = w' := by
  obtain ⟨a, cap, rfl, ha⟩ := hu
  obtain ⟨c, cap2, rfl, hc⟩ := hv
  have HA := Lib.hid ha
  have HC := Lib.hid hc
  obtain ⟨n, hn⟩ : ∃ n, xs.length = n := ⟨_, rfl⟩
  obtain ⟨m, hm⟩ : ∃ m, ys.length = m := ⟨_, rfl⟩
  have HN := Lib.hid hn
  have HM := Lib.hid hm
  rw [hn] at hx ⊢
  rw [hm] at hy ⊢
  have H0 : Hid (cmpL (xs.drop 0) (ys.drop 0) = cmpL xs ys) := Lib.hid rfl
  obtain ⟨R, hR⟩ : ∃ R, cmpL xs ys = R := ⟨_, rfl⟩
  rw [hR] at H0 ⊢
  clear ha hc hn hm hR
  go_enter Try.func54, Try.ntmps54
  go_wp2_with fail
  go_loopw [11] (fun i wr => ∃ k : Nat, k ≤ n ∧ k ≤ m ∧ i = .int .i64 k ∧ cmpL (xs.drop k) (ys.drop k) = R ∧ w = wr) (fun i _ => n - (intOf i).toNat)
  case atStart => exact ⟨0, Nat.zero_le _, Nat.zero_le _, rfl, H0.out, rfl⟩
  case round =>
    obtain ⟨k, hkn, hkm, rfl, hr, rfl⟩ := hrel
    have HR := Lib.hid hr
    clear hr
    by_cases hlt : k < n
    · have hkl : (k : Int) < (n : Int) := by omega
      have hk0 : (0 : Int) ≤ (k : Int) := by omega
      obtain ⟨b, rfl, hb⟩ := HA.out (by intro e; have := HN.out; rw [e] at this; simp at this; omega)
      have c1 := hb k (by rw [HN.out]; exact hlt)
      by_cases hl2 : k < m
      · have hkm2 : (k : Int) < (m : Int) := by omega
        have hkm3 : ¬ (m : Int) ≤ (k : Int) := by omega
        obtain ⟨b2, rfl, hb2⟩ := HC.out (by intro e; have := HM.out; rw [e] at this; simp at this; omega)
        have c2 := hb2 k (by rw [HM.out]; exact hl2)
        have HD := Lib.hid (cmpL_drop (x := xs) (y := ys) (k := k) (by rw [HN.out]; exact hlt) (by rw [HM.out]; exact hl2))
        obtain ⟨x, hxx⟩ : ∃ x, xs.getD k 0 = x := ⟨_, rfl⟩
        obtain ⟨y, hyy⟩ : ∃ y, ys.getD k 0 = y := ⟨_, rfl⟩
        rw [hxx] at c1 HD
        rw [hyy] at c2 HD
        clear hb hb2 hxx hyy
        by_cases e : x = y
        · subst e
          have HZ : Hid (cmZ x x = 0) := Lib.hid (by simp [cmZ])
          have HS : Hid (cmpL (xs.drop (k + 1)) (ys.drop (k + 1)) = R) := Lib.hid (by have := HD.out; simp at this; rw [← this]; exact HR.out)
          go_wp2_with (go_at_call 70; refine (cmpS64_any _ _ _).mono ?_; rintro e w2 ⟨rfl, rfl⟩; rw [HZ.out])
          go_roundw
          case rel => exact ⟨k + 1, by omega, by omega, by go_num, HS.out, trivial⟩
          case measure => simp [intOf]; omega
        · have HZ : Hid (R = cmZ x y) := Lib.hid (by rw [← HR.out, HD.out]; unfold cmZ; split; rfl; split; rfl; omega)
          have HNZ : Hid (cmZ x y ≠ 0) := Lib.hid (by unfold cmZ; split; omega; split; omega; omega)
          obtain ⟨z, hz⟩ : ∃ z, cmZ x y = z := ⟨_, rfl⟩
          have HZ2 := Lib.hid hz
          have hnz : z ≠ 0 := by rw [← hz]; exact HNZ.out
          have t1 : (z != 0) = true := by simp [hnz]
          have t2 : (z == 0) = false := by simp [hnz]
          clear e hz
          go_wp2_with (go_at_call 70; refine (cmpS64_any _ _ _).mono ?_; rintro e w2 ⟨rfl, rfl⟩; rw [HZ2.out])
          go_ret
          exact ⟨ret_i64 (by rw [HZ.out, HZ2.out]), rfl⟩
      · have hkm3 : (m : Int) ≤ (k : Int) := by omega
        have HZ : Hid (R = 1) := Lib.hid (by rw [← HR.out]; exact cmpL_endy (by rw [HN.out]; exact hlt) (by rw [HM.out]; omega))
        clear hb
        go_wp2_with fail
        go_ret
        exact ⟨ret_i64 HZ.out.symm, rfl⟩
    · have hkl : ¬ (k : Int) < (n : Int) := by omega
      by_cases hl2 : n < m
      · have hl3 : (n : Int) < (m : Int) := by omega
        have HZ : Hid (R = -1) := Lib.hid (by rw [← HR.out]; exact cmpL_endx (by rw [HN.out]; omega) (by rw [HM.out]; omega))
        go_wp2_with fail
        go_ret
        exact ⟨ret_i64 HZ.out.symm, rfl⟩
      · have hl3 : ¬ (n : Int) < (m : Int) := by omega
        have HZ : Hid (R = 0) := Lib.hid (by rw [← HR.out]; exact cmpL_ends (by rw [HN.out]; omega) (by rw [HM.out]; omega))
        go_wp2_with fail
        go_ret
        exact ⟨ret_i64 HZ.out.symm, rfl⟩

set_option maxHeartbeats 2000000 in
theorem ibett_any (u v : Value) (xs ys : List Int) (w : World) (hu : ReadsI w u xs) (hv : ReadsI w v ys) (hx : xs.length ≤ 1048576) (hy : ys.length ≤ 1048576) :
    Calls Try.prog 29 #[u, v] w fun e w' => e = .returned (.bool (betL xs ys)) ∧ w = w' := by
  have HSC := Lib.hid (scmp_any u v xs ys w hu hv hx hy)
  obtain ⟨a, cap, rfl, ha⟩ := hu
  obtain ⟨c, cap2, rfl, hc⟩ := hv
  obtain ⟨r, hr⟩ : ∃ r, betL xs ys = r := ⟨_, rfl⟩
  have hb : r = if xs.length ≠ ys.length then decide (xs.length > ys.length) else decide (cmpL xs ys < 0) := hr.symm
  obtain ⟨z, hz⟩ : ∃ z, cmpL xs ys = z := ⟨_, rfl⟩
  rw [hz] at hb HSC
  rw [hr]
  obtain ⟨n, hn⟩ : ∃ n, xs.length = n := ⟨_, rfl⟩
  obtain ⟨m, hm⟩ : ∃ m, ys.length = m := ⟨_, rfl⟩
  rw [hn, hm] at hb HSC
  rw [hn, hm]
  clear ha hc hr hz hn hm hx hy
  by_cases e : n = m
  · subst e
    have t1 : ((n : Int) != (n : Int)) = false := by simp
    have HE : Hid (r = decide (z < 0)) := Lib.hid (by rw [hb]; simp)
    clear hb
    go_enter Try.func29, Try.ntmps29
    go_wp2_with (go_at_call 54; refine HSC.out.mono ?_; rintro e w2 ⟨rfl, rfl⟩)
    go_ret
    exact ⟨ret_boB HE.out.symm, rfl⟩
  · have t1 : ((n : Int) != (m : Int)) = true := by simp; omega
    have HE : Hid (r = decide (m < n)) := Lib.hid (by rw [hb, if_pos e])
    clear hb e
    go_enter Try.func29, Try.ntmps29
    go_wp2_with fail
    go_ret
    exact ⟨ret_boB HE.out.symm, rfl⟩
end Go.Proofs.Ytamnojhkfknnoaa
/-
  What holds while the inner round of the program's MostScans asks its question.
-/
namespace Go.Proofs.Ytamnojhkfknnoaa
open Go Go.RowKit Go.Shelf
set_option linter.unusedVariables false

section
variable {F : Fence} {n : Nat} {P : Program} {ops : Array Oper} {C : World → Prop} {St : World → World → Prop} {R : Rel} {o : Oper} {a : Act} {w : World}
theorem relOblG_yes (h : Region.wanted o (yielded ops a.tmps) = true) (k : relOblI F n P C St R o a w) : relOblG F n P ops C St R o a w := by unfold relOblG; rw [if_pos h]; exact k
theorem relOblG_no (h : Region.wanted o (yielded ops a.tmps) = false) (h1 : ∀ f, F.fn f) (h2 : C w) (h3 : St w w) (h4 : R undef w) : relOblG F n P ops C St R o a w := by unfold relOblG; rw [if_neg (by rw [h]; simp)]; exact ⟨fun f _ => h1 f, h2, h3, h4⟩
end

def VbI (Bb Rb : Nat) (vb : Value) (L3 : List Int) (W : World) : Prop := BlkA W Bb 30 #[vb] ∧ OwnI Rb W vb L3
theorem VbI.below {Bb Rb : Nat} {vb : Value} {L3 : List Int} {W W' : World} (h : VbI Bb Rb vb L3 W) (hb : Below W.heap.size W W') : VbI Bb Rb vb L3 W' := ⟨h.1.below hb, h.2.below hb⟩
theorem VbI.kept {Bb Rb M : Nat} {vb : Value} {L3 : List Int} {W W' : World} (h : VbI Bb Rb vb L3 W) (hb : KeptBut M W W') (hM : M < Rb) (h2 : Bb ≠ M) : VbI Bb Rb vb L3 W' := ⟨h.1.kept hb h2, row_keptBut h.2 hb hM⟩
theorem VbI.store {Bb Rb m d : Nat} {f : Nat → List Int} {vb : Value} {L3 : List Int} {W : World} (h : VbI Bb Rb vb L3 W) (hf : OwnBF Rb W Rb m f d) (i : Nat) (x : Value) (h2 : Bb ≠ Rb) : VbI Bb Rb vb L3 (W.setCell ⟨Rb, i, none⟩ x) := ⟨h.1.other _ _ h2, hf.rowsStay i x h.2⟩
theorem ReadsLa.only {M Bb Rb n B : Nat} {D : DataW Unit} {w W8 W : World} {v : Value} {ls : List Lan} (h : ReadsLa w v ls) (hm : ownsT w M n D) (hb : Below w.heap.size w W8) (ho : OnlyB M Bb Rb W8 W) (h1 : w.heap.size ≤ Bb) (h2 : w.heap.size ≤ Rb) : ReadsLa W v ls := by
  obtain ⟨a, cap, rfl, h⟩ := h
  refine ⟨a, cap, rfl, fun hne => ?_⟩
  obtain ⟨b, e, hc⟩ := h hne
  have go : ∀ (o : Nat) (x : Value), w.cell? ⟨b, o, none⟩ = some x → W.cell? ⟨b, o, none⟩ = some x := fun o x hx => by
    have hlt : b < w.heap.size := World.block_lt_of_cell? w _ hx
    have hne := not_map hm hx
    have h8 : W8.cell? ⟨b, o, none⟩ = some x := (hb.cell (p := ⟨b, o, none⟩) hlt).trans hx
    exact (ho.cell (p := ⟨b, o, none⟩) (World.block_lt_of_cell? W8 _ h8) hne (by simp only; omega) (by simp only; omega)).trans h8
  refine ⟨b, e, fun i hi => ?_⟩
  obtain ⟨q0, q1, q2, q3⟩ := hc i hi
  exact ⟨go _ _ q0, go _ _ q1, go _ _ q2, go _ _ q3⟩
def MoC (w9 : World) (M Bb Rb yn m i n0 : Nat) (ps : List Lan) (F : Nat → List Int) (u v vb : Value) (L1 L2 L3 : List Int) (k : Nat) (W : World) : Prop :=
  W.cell? ⟨Rb, i, none⟩ = some u ∧ OwnI Rb W u L1 ∧ OwnI Rb W v L2 ∧ OwnBF Rb W Rb m F i ∧ (∃ D, ownsT W M (n0 + k) D ∧ KTr yn ps D) ∧ VbI Bb Rb vb L3 W ∧ KeptBut M w9 W
theorem MoC.kept {w9 : World} {M Bb Rb yn m i n0 : Nat} {ps : List Lan} {F : Nat → List Int} {u v vb : Value} {L1 L2 L3 : List Int} {k k' : Nat} {W W' : World} (h : MoC w9 M Bb Rb yn m i n0 ps F u v vb L1 L2 L3 k W) (hM : M < Rb) (hBM : Bb ≠ M) (hb : KeptBut M W W') (hm : ∃ D, ownsT W' M (n0 + k') D ∧ KTr yn ps D) : MoC w9 M Bb Rb yn m i n0 ps F u v vb L1 L2 L3 k' W' := by
  obtain ⟨h1, h2, h3, h4, _, h5, h6⟩ := h
  exact ⟨hb.cell (by omega) h1, row_keptBut h2 hb hM, row_keptBut h3 hb hM, h4.keptBut hb hM, hm, h5.kept hb hM hBM, h6.trans hb⟩
theorem MoC.drew {w9 : World} {M Bb Rb yn m i n0 : Nat} {ps : List Lan} {F : Nat → List Int} {u v vb : Value} {L1 L2 L3 : List Int} {k : Nat} {W : World} (h : MoC w9 M Bb Rb yn m i n0 ps F u v vb L1 L2 L3 k W) (hM : M < Rb) (hBM : Bb ≠ M) : MoC w9 M Bb Rb yn m i n0 ps F u v vb L1 L2 L3 k W.drew := by
  have hb : KeptBut M W W.drew := (KeptBut.refl M W).drew
  obtain ⟨D, hd, hk⟩ := h.2.2.2.2.1
  exact h.kept hM hBM hb ⟨D, ownT_below hd ((Below.refl W.heap.size W).drew) hd.lt, hk⟩
theorem MoC.only {w9 W8 : World} {M Bb Rb yn m i n0 : Nat} {ps : List Lan} {F : Nat → List Int} {u v vb : Value} {L1 L2 L3 : List Int} {k : Nat} {W : World} (h : MoC w9 M Bb Rb yn m i n0 ps F u v vb L1 L2 L3 k W) (h8 : OnlyB M Bb Rb W8 w9) : OnlyB M Bb Rb W8 W := h8.trans (OnlyB.of_kept h.2.2.2.2.2.2)
theorem ownI_is {w : World} {B : Nat} {v : Value} {xs : List Int} (h : OwnI B w v xs) : ∃ a l c, v = .slice a l c := by
  rcases h.2 with ⟨rfl, _⟩ | ⟨g, cap, cur, rfl, _⟩
  · exact ⟨_, _, _, rfl⟩
  · exact ⟨_, _, _, rfl⟩
theorem bl_len {G : Nat → Nat → Bool} {m k : Nat} (h : k < m) : (bl G m k).length ≤ m := by rw [(bl_head h).1]; exact lo_le _ _
theorem BK_len {G : Nat → Nat → Bool} {n : Nat} (hn : 0 < n) : ∀ m, (BK G n m).length ≤ n
  | 0 => by simp [BK]
  | m + 1 => by
    rw [BK]
    split
    · exact bl_len (by omega)
    · exact BK_len hn m
theorem MoInv.below {W8 : World} {M Bb Rb yn m : Nat} {ps : List Lan} {cs : List (Int × Int)} {q : Nat} {X Y : World} (h : MoInv W8 M Bb Rb yn m ps cs q X) (hb : Below X.heap.size X Y) : MoInv W8 M Bb Rb yn m ps cs q Y := by
  obtain ⟨⟨v, h1, h2⟩, h3, ⟨D, h5, h6⟩, h7⟩ := h
  exact ⟨⟨v, h1.below hb, h2.below hb⟩, h3.below hb, ⟨D, ownT_below h5 hb h5.lt, h6⟩, h7.trans (OnlyB.of_below hb (Nat.le_of_lt h5.lt))⟩
theorem kept_set {w : World} (B i : Nat) (u : Value) (h : B < w.heap.size) : KeptBut B w (w.setCell ⟨B, i, none⟩ u) := by
  refine ⟨(Below.refl _ _).setCell (by simp) _, by simp, fun b hb hne => heap_setCell_other w _ b _ (by simpa using hne)⟩
end Go.Proofs.Ytamnojhkfknnoaa
/-
  An append of one number to a row of the call's own: rows that read as told stay as they were.
-/
namespace Go.Proofs.Ytamnojhkfknnoaa
open Go Go.RowKit
set_option linter.unusedVariables false

/-- What an operation keeps: what lay before, and rows that read so. -/
def KpI (base : Nat) (L : List (List Int)) (W W' : World) : Prop := Below base W W' ∧ ∀ v zs, zs ∈ L → OwnI base W v zs → OwnI base W' v zs
theorem kpI_below {base : Nat} {L : List (List Int)} {W W' : World} (h : Below W.heap.size W W') (hb : base ≤ W.heap.size) : KpI base L W W' := ⟨h.mono hb, fun v zs _ ho => ho.below h⟩
theorem ownI_one {base : Nat} {W : World} (y : Int) (hb : base ≤ W.heap.size) : OwnI base (W.alloc (.cells #[.int .i64 y] 2)) (.slice (some ⟨W.heap.size, 0, none⟩) 1 1) [y] :=
  ⟨rfl, .inr ⟨W.heap.size, 1, #[.int .i64 y], rfl, hb, heap_alloc_new W _, Nat.le_refl _, by unfold maxLen; omega, rfl, rfl⟩⟩
theorem ownI_some {base : Nat} {W : World} {v : Value} {xs : List Int} (h : OwnI base W v xs) (h1 : 1 ≤ xs.length) : ∃ g cap, v = .slice (some ⟨g, 0, none⟩) xs.length cap ∧ base ≤ g ∧ Cells W g xs := by
  rcases h.2 with ⟨_, h0⟩ | ⟨g, cap, cur, rfl, hb, hg, q1, q2, q3, q4⟩
  · omega
  · refine ⟨g, cap, rfl, hb, fun i hi => ?_⟩
    rw [World.ownsRow.cellAt h i (by omega)]
    simp [List.getD, hi]
theorem set_two (l : List Value) (n : Nat) (x : Value) (h : n < l.length) : l.take n ++ [x] ++ l.drop (n + 1) = l.set n x := by
  rw [List.set_eq_take_append_cons_drop, if_pos h, List.append_assoc]; rfl

theorem run_append_keep (base : Nat) (v u : Value) (xs : List Int) (x : Int) (W : World) (ty : TypeId) (hv : OwnI base W v xs) (hu : OwnI base W u [x]) (h1 : 1 ≤ xs.length) (h2 : xs.length ≤ 100000) (hb : base ≤ W.heap.size) :
    ∃ v' W', (Builtin.append_ #[30, 30] ty #[v, u]).run Try.prog W = .ok v' W' ∧ OwnI base W' v' (xs ++ [x]) ∧ Below base W W' ∧ ∀ v2 zs, zs.set xs.length x = zs → OwnI base W v2 zs → OwnI base W' v2 zs := by
  obtain ⟨i0, hi, hz0, hz1, hz2⟩ := info_parts info_i64
  obtain ⟨B, c, rfl, hB, hcB⟩ := ownI_some hu (by simp)
  have hnews : ∀ j w, ([Value.int .i64 x] : List Value)[j]? = some w → W.cell? ((⟨B, 0, none⟩ : Addr).add j) = some w := by
    intro j w hj
    rcases j with _ | j
    · simp at hj; subst hj
      have := hcB 0 (by simp)
      simpa [Addr.add] using this
    · simp at hj
  have hvo := hv
  rcases hv.2 with ⟨_, h0⟩ | ⟨g, cap, cur, rfl, hbg, hg, hnc, hcm, hcs, htake⟩
  · omega
  by_cases hroom : xs.length + 1 ≤ cap
  · have hcur : xs.length < cur.toList.length := by
      have h := Array.length_toList (xs := cur)
      omega
    have hr := run_append_room (P := Try.prog) W 30 ty 2 i0 Try.underlying30 hi g xs.length cap cur hg ⟨B, 0, none⟩ 1 c [.int .i64 x] (by rw [hz1]; rfl) hnews (by intro w hw; simp at hw; subst hw; rfl) hroom (by rw [hz1, hcs]; show xs.length * 1 + 1 ≤ cap * 1; omega)
    rw [hz1] at hr
    simp only [Nat.mul_one, List.length_cons, List.length_nil, Nat.zero_add] at hr
    rw [set_two _ _ _ hcur] at hr
    have hgr : W.grownBy (W.setRow g (cur.toList.set xs.length (.int .i64 x)).toArray) (some g) := ⟨rfl, rfl, rfl, by simp [World.setRow], fun k _ hk => setRow_other W g k _ (fun e => hk (by simp [e]))⟩
    have hnew := setRow_heap W g cur (cur.toList.set xs.length (.int .i64 x)).toArray 2 (0, 0) hg
    have hkeep : ∀ v2 zs, zs.set xs.length x = zs → OwnI base W v2 zs → OwnI base (W.setRow g (cur.toList.set xs.length (.int .i64 x)).toArray) v2 zs := by
      intro v2 zs hzs ho
      rcases ho.2 with h | ⟨g2, cap2, cur2, rfl, hb2, hg2, q1, q2, q3, q4⟩
      · exact ⟨ho.1, .inl h⟩
      · by_cases e : g2 = g
        · subst e
          rw [hg] at hg2
          injection hg2 with hg2
          injection hg2 with hg2
          subst hg2
          refine ⟨ho.1, .inr ⟨g2, cap2, _, rfl, hb2, hnew, q1, q2, by simpa using q3, ?_⟩⟩
          rw [List.toList_toArray, List.take_set, q4, ← List.map_set, hzs]
        · exact ⟨ho.1, .inr ⟨g2, cap2, cur2, rfl, hb2, by rw [setRow_other W g g2 _ e]; exact hg2, q1, q2, q3, q4⟩⟩
    refine ⟨_, _, hr, ?_, (Below.refl base W).grown hgr hb (fun k e => by cases e; exact hbg), hkeep⟩
    refine ⟨by simp, .inr ⟨g, cap, _, by simp, hbg, hnew, by simpa using hroom, hcm, by simpa using hcs, ?_⟩⟩
    rw [List.toList_toArray, List.take_set]
    have e1 : cur.toList.take ((xs ++ [x]).length * 1) = xs.map (Value.int .i64) ++ [cur.toList[xs.length]] := by
      rw [show (xs ++ [x]).length * 1 = xs.length + 1 by simp, List.take_add_one, List.getElem?_eq_getElem hcur]
      have h3 := htake
      rw [Nat.mul_one] at h3
      rw [h3]; rfl
    rw [e1, List.map_append, List.set_append_right _ _ (by simp)]
    simp
  · have holds : ∀ j w, (xs.map (Value.int .i64))[j]? = some w → W.cell? ((⟨g, 0, none⟩ : Addr).add j) = some w := hvo.cells (g := g) rfl
    have hr := run_append_grow (P := Try.prog) (w := W) 30 ty 2 i0 (.int .i64 0) Try.underlying30 hi hz0 ⟨g, 0, none⟩ xs.length cap (xs.map (Value.int .i64)) (by simp [hz1]) holds ⟨B, 0, none⟩ 1 c [.int .i64 x] (by rw [hz1]; rfl) hnews (by omega) (by omega) (growslice_fits (by omega) (by rw [hz2]; omega))
    obtain ⟨v', W', hr2, ho2, hg2, _⟩ := run_append_own (P := Try.prog) W base 30 ty 2 i0 (.int .i64 0) 1 8 Try.underlying30 hi hz0 hz1 hz2 rfl (by decide) _ xs.length (xs.map (Value.int .i64)) hvo ⟨B, 0, none⟩ 1 c [.int .i64 x] rfl hnews (by intro w hw; simp at hw; subst hw; rfl) (by unfold maxLen; omega) (by omega) hb
    have e := hr.symm.trans hr2
    injection e with e1 e2
    subst e1
    refine ⟨_, _, hr2, ?_, (Below.refl base W).grown hg2 hb (fun k e => by simp [Value.ownBlock] at e; omega), fun v2 zs _ ho => ?_⟩
    · unfold OwnI; rw [List.map_append, List.length_append]; exact ho2
    · rw [← e2]
      exact ho.below ((Below.refl _ _).drew.alloc (Nat.le_refl _) _)

theorem wpIn_append_keep {F : Fence} {n : Nat} {o : Oper} {a : Act} {W : World} {K : Act → World → Prop} {Q : Exit → Act → World → Prop} (s y : Operand)
    (ho : o.op = .call { callee := .builtin .append, args := #[s, y], argTypes := #[30, 30] }) (base : Nat) (v u : Value) (xs : List Int) (x : Int) (hes : a.eval s = v) (hex : a.eval y = u)
    (hv : OwnI base W v xs) (hu : OwnI base W u [x]) (h1 : 1 ≤ xs.length) (h2 : xs.length ≤ 100000) (hb : base ≤ W.heap.size)
    (h : ∀ v' W', OwnI base W' v' (xs ++ [x]) → Below base W W' → (∀ v2 zs, zs.set xs.length x = zs → OwnI base W v2 zs → OwnI base W' v2 zs) → K (a.put o.dst v') W') : o.wpIn F n Try.prog a W K Q := by
  obtain ⟨v', W', hrun, r1, r2, r3⟩ := run_append_keep base v u xs x W o.type hv hu h1 h2 hb
  unfold Oper.wpIn
  refine ⟨?_, ?_⟩
  · simp [Oper.about, ho, resolve, Target.leads, Sem.run_pure]
  · rw [Oper.semAt_plain F _ _ (by rw [ho]; intro c hc'; cases hc')]
    simp [execOp, ho, resolve, invoke, builtin, hes, hex, hrun, Result.andThen]
    exact h _ _ r1 r2 r3
end Go.Proofs.Ytamnojhkfknnoaa
/-
  The program's MostScans, inside a fence: where the code is 0.
-/
namespace Go.Proofs.Ytamnojhkfknnoaa
open Go Go.RowKit Go.Shelf
set_option linter.unusedVariables false
attribute [local go_sem] Oper.semAt_some

set_option maxHeartbeats 1600000 in
set_option maxRecDepth 100000 in
theorem imost_in (sn yn : Nat) (v : Value) (g m : Nat) (ps : List Lan) (cs : List (Int × Int)) (w : World) (hC : csC (sn : Int) (yn : Int) ps cs = 0) (hn : FitN (sn : Int) (yn : Int) ps) (hf : FitsSc cs) (hv : ReadsLa w v ps) (hu : ReadsSc w (.slice (some ⟨g, 0, none⟩) m m) cs) (hx : cs.length ≤ 1048576) (hgw : g < w.heap.size) :
    CallsIn Fence.wide 9 Try.prog 10 #[netV (sn : Int) (yn : Int) v, .slice (some ⟨g, 0, none⟩) m m] w fun e w' => ∃ r, e = .returned (.tuple #[r, .int .i64 0]) ∧ OwnI w.heap.size w' r (BK (goG (yn : Int) ps cs) m m) ∧ Below w.heap.size w w' := by
  obtain ⟨i0, hi', hz0, hz1, hz2⟩ := info_parts info_i64
  have hro : Fence.wide.round = none := rfl
  have hFF : ∀ f, Fence.wide.fn f := fun _ => trivial
  obtain ⟨hvl, hsb, h12⟩ := scnC_ok hC
  have hok := vldN_spec hvl
  have hsc : OkScTo (sn : Int) cs cs.length := of_decide_eq_true hsb
  have HM : Hid (cs.length = m) := Lib.hid (by obtain ⟨_, _, e, _⟩ := hu; injection e with e1 e2 e3; exact e2.symm)
  rw [HM.out] at h12
  have HOK := Lib.hid hok
  have HSC := Lib.hid hsc
  have HC := Lib.hid hC
  have b1 : Below w.heap.size w ((w.alloc (.cells #[.int .i8 (sn : Int), .int .i16 (yn : Int), v] 35)).alloc (.cells #[.slice (some ⟨g, 0, none⟩) m m] 37)) := ((Below.refl _ _).alloc (Nat.le_refl _) _).alloc (by simp) _
  have BN : BlkA ((w.alloc (.cells #[.int .i8 (sn : Int), .int .i16 (yn : Int), v] 35)).alloc (.cells #[.slice (some ⟨g, 0, none⟩) m m] 37)) w.heap.size 35 #[.int .i8 (sn : Int), .int .i16 (yn : Int), v] := (BlkA.new rfl _ _).alloc _
  have BL : BlkA ((w.alloc (.cells #[.int .i8 (sn : Int), .int .i16 (yn : Int), v] 35)).alloc (.cells #[.slice (some ⟨g, 0, none⟩) m m] 37)) (w.heap.size + 1) 37 #[.slice (some ⟨g, 0, none⟩) m m] := BlkA.new (by simp) _ _
  obtain ⟨W1, hW⟩ : ∃ W, (w.alloc (.cells #[.int .i8 (sn : Int), .int .i16 (yn : Int), v] 35)).alloc (.cells #[.slice (some ⟨g, 0, none⟩) m m] 37) = W := ⟨_, rfl⟩
  rw [hW] at b1 BN BL
  have HW := Lib.hid hW
  have HB1 := Lib.hid b1
  have HBN := Lib.hid BN
  have HBL := Lib.hid BL
  have HV1 := Lib.hid (hv.below b1)
  have HUW := Lib.hid hu
  have HCHK := Lib.hid (ichk_any (sn : Int) (yn : Int) v ps _ (.slice none 0 0) (.slice none 0 0) cs [] [] W1 hn (hv.below b1) (hu.below b1) hf (reads_nil _) (reads_nil _) hx (by simp) (by simp))
  rw [chk_scn] at HCHK
  rw [show scnC (sn : Int) (yn : Int) ps (scsB (sn : Int) cs) cs.length = csC (sn : Int) (yn : Int) ps cs from rfl, hC] at HCHK
  have n0 := BN.at 0
  have n1 := BN.at 1
  have n2 := BN.at 2
  have l0 := BL.at 0
  have HPL : Hid (ps.length ≤ 1048576) := Lib.hid hn.n
  clear hW b1 BN BL hv hu hn hf hvl hsb hok hsc hC
  refine callsIn_of_wp_marks Try.func10 rfl (hFF _) ?_ hro
  simp only [Try.ntmps10, List.size_toArray, List.length_cons, List.length_nil, Nat.reduceAdd, Nat.reduceSub, Array.replicate_succ, Array.replicate_zero, List.push_toArray, List.append_toArray, List.nil_append, List.cons_append]
  gi_wp2
  rw [HW.out]
  gi_wp2
  refine ((callsIn_wide (n := 8)).2 HCHK.out).mono ?_
  rintro e w2 ⟨rfl, b2⟩
  have HB2 := Lib.hid (blink HB1.out b2)
  have BN2 := HBN.out.below b2
  have BL2 := HBL.out.below b2
  have HBL2 := Lib.hid BL2
  have HTR := Lib.hid (itrk_any (sn : Int) (yn : Int) v ps w2 HOK.out (HV1.out.below b2))
  have m0 := BN2.at 0
  have m1 := BN2.at 1
  have m2 := BN2.at 2
  clear b2 n0 n1 n2 l0 BN2 BL2 HCHK HW
  gi_wp2
  refine ((callsIn_wide (n := 8)).2 HTR.out).mono ?_
  rintro e w3 ⟨au, cu, M, rfl, hr3, hm3, hM3, b3⟩
  obtain ⟨l, hl⟩ : ∃ l, (hopsL (yn : Int) ps).length = l := ⟨_, rfl⟩
  have HLN := Lib.hid hl
  rw [hl] at hr3
  rw [hl]
  have HB3 := Lib.hid (blink HB2.out b3)
  have hMlt : M < w3.heap.size := hm3.lt
  have hwM : w.heap.size ≤ M := Nat.le_trans HB2.out.size hM3
  have HBL3 := Lib.hid (HBL2.out.below b3)
  have l3 := HBL3.out.at 0
  have hlt3 : w.heap.size + 1 < w3.heap.size := HBL3.out.lt
  have hne3 : w.heap.size + 1 ≠ w3.heap.size := by omega
  have hne4 : w.heap.size + 1 ≠ w3.heap.size + 1 := by omega
  have HR3 := Lib.hid hr3
  have HM3 := Lib.hid hm3
  have b5 : Below w3.heap.size w3 ((w3.alloc (.cells #[.slice au l cu, .map (some M)] 68)).alloc (.cells #[.slice none 0 0] 30)) := ((Below.refl _ _).alloc (Nat.le_refl _) _).alloc (by simp) _
  have BK5 : BlkA ((w3.alloc (.cells #[.slice au l cu, .map (some M)] 68)).alloc (.cells #[.slice none 0 0] 30)) w3.heap.size 68 #[.slice au l cu, .map (some M)] := (BlkA.new rfl _ _).alloc _
  have BB5 : BlkA ((w3.alloc (.cells #[.slice au l cu, .map (some M)] 68)).alloc (.cells #[.slice none 0 0] 30)) (w3.heap.size + 1) 30 #[.slice none 0 0] := BlkA.new (by simp) _ _
  have l5 := (HBL3.out.below b5).at 0
  obtain ⟨W5, hW5⟩ : ∃ W, (w3.alloc (.cells #[.slice au l cu, .map (some M)] 68)).alloc (.cells #[.slice none 0 0] 30) = W := ⟨_, rfl⟩
  have HW5 := Lib.hid hW5
  have HB35 := Lib.hid (hW5 ▸ b5)
  have HBK5 : Hid (BlkA W5 w3.heap.size 68 #[.slice au l cu, .map (some M)]) := Lib.hid (hW5 ▸ BK5)
  have HBB5 : Hid (BlkA W5 (w3.heap.size + 1) 30 #[.slice none 0 0]) := Lib.hid (hW5 ▸ BB5)
  clear m0 m1 m2 hr3 hm3 b3 HTR hl hW5 b5 BK5 BB5
  gi_wp2_with (gi_at_make; refine wpListIn_make_rows _ rfl _ _ rfl 0 m rfl rfl (by omega) (Nat.zero_le _) ?_; rintro w6 ⟨us, hus⟩ hg6; rw [HW5.out] at hus hg6; have b6 : Below W5.heap.size W5 w6 := (Below.refl W5.heap.size W5).grown hg6 (Nat.le_refl _) (fun i hi => by cases hi); have b67 : Below W5.heap.size W5 (w6.alloc (.cells #[.slice (some ⟨w3.heap.size + 1 + 1, 0, none⟩) m m] 70)) := b6.alloc b6.size _; have l7 := (HBL3.out.below (blink HB35.out b67)).at 0)
  have hs5 : W5.heap.size = w3.heap.size + 1 + 1 := by rw [← HW5.out]; simp
  rw [hs5] at hus
  have HR6 := Lib.hid hus
  have HB6 := Lib.hid b6
  have HB67 := Lib.hid b67
  have BF7 : BlkA (w6.alloc (.cells #[.slice (some ⟨w3.heap.size + 1 + 1, 0, none⟩) m m] 70)) w6.heap.size 70 #[.slice (some ⟨w3.heap.size + 1 + 1, 0, none⟩) m m] := BlkA.new rfl _ _
  obtain ⟨W7, hW7⟩ : ∃ W, w6.alloc (.cells #[.slice (some ⟨w3.heap.size + 1 + 1, 0, none⟩) m m] 70) = W := ⟨_, rfl⟩
  rw [hW7] at BF7 HB67 ⊢
  have HBF7 := Lib.hid BF7
  have b78 := HB67.out
  clear hus b6 b67 l7 l5 l3 hg6 BF7 b78
  refine (backZ_in Fence.wide 8 (hFF _) hro _ _ _ W7).mono ?_
  rintro e W8 ⟨rfl, e8⟩
  have HB78 : Hid (Below W7.heap.size W7 W8) := Lib.hid (by rw [e8]; exact (Below.refl _ _).alloc (Nat.le_refl _) _)
  have HBS8 : Hid (BlkA W8 W7.heap.size 37 #[.slice (some ⟨g, 0, none⟩) m m]) := Lib.hid (by rw [e8]; exact BlkA.new rfl _ _)
  clear e8
  have hw6 : w3.heap.size + 1 + 1 < w6.heap.size := by
    have := World.ownsRow.lt HR6.out (w3.heap.size + 1 + 1) rfl
    exact this.2
  have hw67 : w6.heap.size < W7.heap.size := BlkA.lt HBF7.out
  have hw78 : W7.heap.size < W8.heap.size := BlkA.lt HBS8.out
  have HB38 := Lib.hid (blink HB35.out (blink HB67.out HB78.out))
  have HB08 := Lib.hid (blink HB3.out HB38.out)
  have hgc : CellsSc w g cs := by
    by_cases h0 : cs = []
    · intro i hi; rw [h0] at hi; simp at hi
    obtain ⟨a', cap', e, h⟩ := HUW.out
    injection e with e1 e2 e3
    obtain ⟨b', e', h'⟩ := h h0
    rw [← e1] at e'
    injection e' with e'
    injection e' with e'
    subst e'
    exact h'
  have HGC8 := Lib.hid (hgc.below HB08.out)
  have hw3 : w.heap.size < w3.heap.size := by omega
  have HINV0 : Hid (MoInv W8 M (w3.heap.size + 1) (w3.heap.size + 1 + 1) yn m ps cs 0 W8) := Lib.hid (by
    have b58 := blink HB67.out HB78.out
    have b68 : Below w6.heap.size w6 W8 := by
      have : Below w6.heap.size w6 W7 := by rw [← hW7]; exact (Below.refl _ _).alloc (Nat.le_refl _) _
      exact blink this HB78.out
    refine ⟨⟨_, BlkA.below HBB5.out b58, World.ownsRow_nil _ _ _ _⟩, ⟨us, row_same ?_ b68, fun k a b => absurd b (by simp at a; omega)⟩, ⟨_, ownT_below HM3.out HB38.out hMlt, KTr.zero yn ps⟩, OnlyB.refl _ _ _ _⟩
    refine ⟨HR6.out.1, ?_⟩
    rcases HR6.out.2 with hn | ⟨g', cap, cur, e, _, rest⟩
    · exact .inl hn
    · refine .inr ⟨g', cap, cur, e, ?_, rest⟩
      simp only [Value.slice.injEq, Option.some.injEq, Addr.mk.injEq, and_true, true_and] at e
      omega)
  clear hgc
  gi_wp2
  refine wpIn_rangeFunc_ownO hro (by omega) (gf := 51) (lb := #[.pointer (some ⟨W7.heap.size, 0, none⟩)]) rfl (hFF _) (enters_of Try.func51 (by kernel_rfl) rfl)
    (backO_ord m Fence.wide 8 (hFF _) hro (by omega) W7.heap.size g m cs HM.out (by omega) W8 hw78 (HBS8.out.at 0) HGC8.out) Keeps2.trans (Keeps2.put hw78 (by omega)) (fun W o h => ⟨heap_alloc_old W o (by omega), heap_alloc_old W o (by omega)⟩) (Below.refl _ _) (fun _ => rfl)
    (MoInv W8 M (w3.heap.size + 1) (w3.heap.size + 1 + 1) yn m ps cs) (moInv_own _ _ _ _ _ _ _ _ (by omega)) HINV0.out
    (fun x b => { tmps := #[netV (sn : Int) (yn : Int) v, .slice (some ⟨g, 0, none⟩) m m, .pointer (some ⟨w.heap.size, 0, none⟩), .pointer (some ⟨w.heap.size + 1, 0, none⟩), .slice none 0 0, .int .i64 0, .int .i64 0, .pointer (some ⟨w3.heap.size, 0, none⟩), .pointer (some ⟨w3.heap.size + 1, 0, none⟩), .pointer (some ⟨w6.heap.size, 0, none⟩), .int .i64 ((m - 1 - x : Nat) : Int), .pointer (some ⟨b, 0, none⟩), undef, undef, .agg #[.int .i8 (sn : Int), .int .i16 (yn : Int), v], .slice (some ⟨g, 0, none⟩) m m, .agg #[.slice (some ⟨g, 0, none⟩) m m, .slice none 0 0, .slice none 0 0], .int .i64 0, .int .i64 0, .bool false, undef, .agg #[.int .i8 (sn : Int), .int .i16 (yn : Int), v], trkV au l cu M, .slice (some ⟨g, 0, none⟩) m m, .int .i64 (m : Int), .slice (some ⟨w3.heap.size + 1 + 1, 0, none⟩) m m, .slice (some ⟨g, 0, none⟩) m m, .func (.func 51) #[] #[.pointer (some ⟨W7.heap.size, 0, none⟩)], .int .i64 ((m - 1 - x : Nat) : Int), scZ (cs.getD (m - 1 - x) (0, 0)), undef, undef, undef, undef, undef, undef, undef, undef, undef, undef, undef, undef, undef, undef, undef, undef, undef, undef, undef, undef, undef, undef, undef, undef, undef, undef, undef, undef, undef, undef, undef, undef, undef, undef, undef, undef, undef, undef, undef, undef, undef, undef, undef, undef, undef, undef, undef, undef, undef, undef], defers := [] })
    (fun x => .cells #[.int .i8 (cs.getD (m - 1 - x) (0, 0)).1, .int .i16 (cs.getD (m - 1 - x) (0, 0)).2] 49) ?assign ?body ?done
  case assign =>
    intro l x W K hK
    obtain ⟨i, hi⟩ : ∃ i : Nat, m - 1 - x = i := ⟨_, rfl⟩
    rw [hi] at hK ⊢
    obtain ⟨y0, y1, hy⟩ : ∃ y0 y1, cs.getD i (0, 0) = (y0, y1) := ⟨_, _, rfl⟩
    rw [hy] at hK ⊢
    gi_wp2
    exact hK
  case body =>
    rintro l' q b W ⟨⟨vb, h1, h2⟩, h3, ⟨D, h5, h6⟩, h7⟩ hqm hbge hbx
    obtain ⟨i, hi⟩ : ∃ i : Nat, m - 1 - q = i := ⟨_, rfl⟩
    have him : i < m := by omega
    have hiq : m - q = i + 1 := by omega
    have HIQ := Lib.hid hi
    have HIQ2 := Lib.hid hiq
    rw [hi] at hbx ⊢
    rw [hiq] at h3
    obtain ⟨s0, t0, hst, hs8, ht3⟩ := ok_nats HOK.out.1.2 HSC.out (i := i) (by rw [HM.out]; exact him)
    have HST := Lib.hid hst
    rw [hst] at hbx ⊢
    simp only at hbx ⊢
    obtain ⟨G, hG⟩ : ∃ G, goG (yn : Int) ps cs = G := ⟨_, rfl⟩
    have HG := Lib.hid hG
    rw [hG] at h2 h3
    obtain ⟨LQ, hLQ⟩ : ∃ L, BK G m q = L := ⟨_, rfl⟩
    have HLQ := Lib.hid hLQ
    rw [hLQ] at h2
    have hMR : M < w3.heap.size + 1 + 1 := by omega
    have hBM : w3.heap.size + 1 ≠ M := by omega
    have hbk : BlkA W b 49 #[.int .i8 (s0 : Int), .int .i16 (t0 : Int)] := hbx
    have HBX := Lib.hid hbk
    have H1 := Lib.hid h1
    have H2 := Lib.hid h2
    have H5 := Lib.hid h5
    have H6 := Lib.hid h6
    have H7 := Lib.hid h7
    have hW8 : W8.heap.size ≤ W.heap.size := h7.size
    have c9 : W.cell? ⟨w6.heap.size, 0, none⟩ = some (.slice (some ⟨w3.heap.size + 1 + 1, 0, none⟩) m m) := by
      have b78 : Below w6.heap.size w6 W7 := by rw [← hW7]; exact (Below.refl _ _).alloc (Nat.le_refl _) _
      exact (h7.blkA (BlkA.below HBF7.out HB78.out) (by omega) (by omega) (by omega)).at 0
    have hfr := h3.frozen i
    have him2 : (i : Int) < (m : Int) := by omega
    have hi0 : (0 : Int) ≤ (i : Int) := by omega
    have b1 : Below W.heap.size W (W.alloc (.cells #[.int .i64 (i : Int)] 2)) := (Below.refl _ _).alloc (Nat.le_refl _) _
    have hown1 : OwnI (w3.heap.size + 1 + 1) (W.alloc (.cells #[.int .i64 (i : Int)] 2)) (.slice (some ⟨W.heap.size, 0, none⟩) 1 1) [(i : Int)] :=
      ⟨rfl, .inr ⟨W.heap.size, 1, #[.int .i64 (i : Int)], rfl, by omega, heap_alloc_new W _, Nat.le_refl _, by unfold maxLen; omega, rfl, rfl⟩⟩
    have H3' := Lib.hid ((h3.below b1).store him (by omega) (Nat.le_succ _) hown1)
    have hRbW : w3.heap.size + 1 + 1 < W.heap.size := h3.lt.2
    have hneR : w3.heap.size + 1 + 1 ≠ W.heap.size := by omega
    have HON := Lib.hid ((OnlyB.of_below (a := M) (b := w3.heap.size + 1) (c := w3.heap.size + 1 + 1) b1 (by omega)).set ⟨w3.heap.size + 1 + 1, i, none⟩ (.slice (some ⟨W.heap.size, 0, none⟩) 1 1) (.inr rfl) (by omega) (by omega))
    have hwi : IntKind.i64.wrap ((i : Int) + 1) = ((i + 1 : Nat) : Int) := by rw [show (i : Int) + 1 = ((i + 1 : Nat) : Int) by omega]; exact IntWalk.i64_in _ (by omega)
    have hfr1 : (W.alloc (.cells #[.int .i64 (i : Int)] 2)).frozen? ⟨w3.heap.size + 1 + 1, i, none⟩ = false := (h3.below b1).frozen i
    obtain ⟨u0, hu0⟩ := (h3.below b1).any him
    have HM0 : Hid (ownsT ((W.alloc (.cells #[.int .i64 (i : Int)] 2)).setCell ⟨w3.heap.size + 1 + 1, i, none⟩ (.slice (some ⟨W.heap.size, 0, none⟩) 1 1)) M (13 * q) D) := Lib.hid (by
      obtain ⟨es, clock, q1, q2, q3, q4⟩ := h5
      refine ⟨es, clock, ?_, q2, q3, q4⟩
      rw [heap_setCell_other _ _ M _ (by simp only; omega), b1.block M (Array.getElem?_eq_some_iff.1 q1).1]
      exact q1)
    have hco : (W.alloc (.cells #[.int .i64 (i : Int)] 2)).setCell ⟨w3.heap.size + 1 + 1, i, none⟩ (.slice (some ⟨W.heap.size, 0, none⟩) 1 1) = (W.setCell ⟨w3.heap.size + 1 + 1, i, none⟩ (.slice (some ⟨W.heap.size, 0, none⟩) 1 1)).alloc (.cells #[.int .i64 (i : Int)] 2) := by first | (go_simp; done) | (simp [World.alloc_setCell, hRbW]; done) | sorry
    have H3s : Hid (OwnBF (w3.heap.size + 1 + 1) ((W.setCell ⟨w3.heap.size + 1 + 1, i, none⟩ (.slice (some ⟨W.heap.size, 0, none⟩) 1 1)).alloc (.cells #[.int .i64 (i : Int)] 2)) (w3.heap.size + 1 + 1) m (fun k => if k = i then RK G (bl G m) i 0 else bl G m k) i) := Lib.hid (by rw [← hco]; exact H3'.out)
    have HMs : Hid (ownsT ((W.setCell ⟨w3.heap.size + 1 + 1, i, none⟩ (.slice (some ⟨W.heap.size, 0, none⟩) 1 1)).alloc (.cells #[.int .i64 (i : Int)] 2)) M (13 * q + 0) D) := Lib.hid (by rw [← hco]; exact HM0.out)
    have HVs : Hid (VbI (w3.heap.size + 1) (w3.heap.size + 1 + 1) vb LQ ((W.setCell ⟨w3.heap.size + 1 + 1, i, none⟩ (.slice (some ⟨W.heap.size, 0, none⟩) 1 1)).alloc (.cells #[.int .i64 (i : Int)] 2))) := Lib.hid ((VbI.store (⟨h1, h2⟩ : VbI (w3.heap.size + 1) (w3.heap.size + 1 + 1) vb LQ W) h3 i _ (by omega)).below ((Below.refl _ _).alloc (Nat.le_refl _) _))
    have HOs : Hid (OnlyB M (w3.heap.size + 1) (w3.heap.size + 1 + 1) W ((W.setCell ⟨w3.heap.size + 1 + 1, i, none⟩ (.slice (some ⟨W.heap.size, 0, none⟩) 1 1)).alloc (.cells #[.int .i64 (i : Int)] 2))) := Lib.hid (by rw [← hco]; exact HON.out)
    clear h1 h2 h3 h5 h6 h7 hbk hbx hst hG hi hiq b1 hown1 hco hLQ
    gi_wp2
    gi_loopw [12] (fun x wr => ∃ j : Nat, i + 1 + j ≤ m ∧ x = .int .i64 ((i + 1 + j : Nat) : Int) ∧ OwnBF (w3.heap.size + 1 + 1) wr (w3.heap.size + 1 + 1) m (fun k => if k = i then RK G (bl G m) i j else bl G m k) i ∧ (∃ D, ownsT wr M (13 * q + j) D ∧ KTr yn ps D) ∧ VbI (w3.heap.size + 1) (w3.heap.size + 1 + 1) vb LQ wr ∧ OnlyB M (w3.heap.size + 1) (w3.heap.size + 1 + 1) W wr) (fun x _ => m - (intOf x).toNat)
    case atStart => exact ⟨0, by omega, by go_num, H3s.out, ⟨_, HMs.out, H6.out⟩, HVs.out, HOs.out⟩
    case round =>
      obtain ⟨j, hj, rfl, hbf, ⟨D2, hd2, hk2⟩, hvb, hon⟩ := hrel
      obtain ⟨c, hc⟩ : ∃ c, i + 1 + j = c := ⟨_, rfl⟩
      have HCJ := Lib.hid hc
      rw [hc] at hj ⊢
      have hlt2 : w.heap.size + 1 < w2.heap.size := HBL2.out.lt
      have l9 : wr.cell? ⟨w6.heap.size, 0, none⟩ = some (.slice (some ⟨w3.heap.size + 1 + 1, 0, none⟩) m m) := (hon.cell (p := ⟨w6.heap.size, 0, none⟩) (by simp only; omega) (by simp only; omega) (by simp only; omega) (by simp only; omega)).trans c9
      have l0 : wr.cell? ⟨w.heap.size + 1, 0, none⟩ = some (.slice (some ⟨g, 0, none⟩) m m) := by
        have h8 := HBL3.out.below HB38.out
        exact (hon.blkA (H7.out.blkA h8 (by omega) (by omega) (by omega)) (by omega) (by omega) (by omega)).at 0
      have HBFJ := Lib.hid hbf
      have HD2 := Lib.hid hd2
      have HK2 := Lib.hid hk2
      have HON2 := Lib.hid hon
      have HVB2 := Lib.hid hvb
      by_cases hcm : c < m
      · have hcmi : (c : Int) < (m : Int) := by omega
        have hc0 : (0 : Int) ≤ (c : Int) := by omega
        obtain ⟨u, hu1, hu2⟩ := hbf.cell (k := c) (by omega) hcm
        simp only [show ¬ c = i by omega, if_false] at hu2
        have HU2 := Lib.hid hu2
        have ba : Below wr.heap.size wr (wr.alloc (.cells #[.int .i64 (i : Int)] 2)) := (Below.refl _ _).alloc (Nat.le_refl _) _
        have l9a := (ba.cell (p := ⟨w6.heap.size, 0, none⟩) (World.block_lt_of_cell? wr _ l9)).trans l9
        have hu1a := (ba.cell (p := ⟨w3.heap.size + 1 + 1, c, none⟩) (World.block_lt_of_cell? wr _ hu1)).trans hu1
        obtain ⟨hlb, tb, htb⟩ := bl_head (G := G) hcm
        have hl1 := lo_pos (G := G) hcm
        have hl2 := lo_le (G := G) m c
        obtain ⟨gu, cw, hue, hgu, hcu⟩ := ownI_some hu2 (by rw [hlb]; exact hl1)
        obtain ⟨ys, hys⟩ : ∃ ys, bl G m c = ys := ⟨_, rfl⟩
        have HYS := Lib.hid hys
        rw [hys] at hlb hue hcu
        obtain ⟨n2, hn2⟩ : ∃ n2, ys.length = n2 := ⟨_, rfl⟩
        have HN2 := Lib.hid hn2
        rw [hn2] at hue hlb
        have hn12 : n2 ≤ 12 := by omega
        have hn1 : 1 ≤ n2 := by omega
        subst hue
        have HCU := Lib.hid (hcu.below ba)
        have hbase : w3.heap.size + 1 + 1 ≤ wr.heap.size := Nat.le_of_lt HBFJ.out.lt.2
        have HOW1 : Hid ((wr.alloc (.cells #[.int .i64 (i : Int)] 2)).ownsRow (w3.heap.size + 1 + 1) 2 1 (.slice (some ⟨wr.heap.size, 0, none⟩) 1 1) 1 ([(i : Int)].map (Value.int .i64))) := Lib.hid (ownI_one (i : Int) hbase)
        have HNW : Hid (∀ (k : Nat) (u : Value), (ys.map (Value.int .i64))[k]? = some u → (wr.alloc (.cells #[.int .i64 (i : Int)] 2)).cell? ((⟨gu, 0, none⟩ : Addr).add k) = some u) := Lib.hid (fun k u hk => by
          rw [List.getElem?_map] at hk
          cases h : ys[k]? with
          | none => rw [h] at hk; cases hk
          | some y =>
            rw [h] at hk
            cases hk
            have hkl : k < ys.length := (List.getElem?_eq_some_iff.1 h).1
            have := HCU.out k hkl
            rw [show ys.getD k 0 = y by simp [List.getD, h]] at this
            have hadd : (⟨gu, 0, none⟩ : Addr).add k = ⟨gu, k, none⟩ := by unfold Addr.add; split <;> simp_all
            rw [hadd]
            exact this)
        clear hu2 ba hcu hys hn2 htb hlb
        clear hbf hd2 hk2 hon hc hvb
        gi_wp2_with (gi_at_builtin; refine wpListIn_append_own _ rfl _ _ 30 rfl (w3.heap.size + 1 + 1) 2 i0 (.int .i64 0) 1 8 Try.underlying30 hi' hz0 hz1 hz2 rfl (by decide) _ _ _ rfl HOW1.out ⟨gu, 0, none⟩ n2 cw (ys.map (Value.int .i64)) rfl (by rw [List.length_map, HN2.out, Nat.mul_one]) HNW.out ?g2 ?g3 ?g4 ?g5 ?_)
        case g2 => intro u hu; obtain ⟨y, _, rfl⟩ := List.mem_map.1 hu; rfl
        case g3 => unfold maxLen; omega
        case g4 => omega
        case g5 => first | omega | (simp; omega)
        intro v' w9 hown' hgrow _
        have HLO : Hid (OwnI (w3.heap.size + 1 + 1) w9 v' ((i : Int) :: ys)) := Lib.hid (by
          have h := hown'
          rw [show 1 + n2 = ((i : Int) :: ys).length by simp [HN2.out]; omega] at h
          exact h)
        have b19 : Below wr.heap.size wr w9 := ((Below.refl _ _).alloc (Nat.le_refl _) _).grown hgrow (by simp) (fun k e => by simp [Value.ownBlock] at e; omega)
        have HBF9 := Lib.hid (HBFJ.out.below b19)
        have HD9 : Hid (ownsT w9 M (13 * q + j) D2) := Lib.hid (ownT_below HD2.out b19 HD2.out.lt)
        have HON9 := Lib.hid (HON2.out.trans (OnlyB.of_below b19 (by have := HON2.out.size; omega)))
        clear hown' hgrow
        have HVB9 := Lib.hid (HVB2.out.below b19)
        obtain ⟨FB, hFBe⟩ : ∃ FB, (fun k => if k = i then RK G (bl G m) i j else bl G m k) = FB := ⟨_, rfl⟩
        have HFBE := Lib.hid hFBe
        rw [hFBe] at HBF9
        obtain ⟨L1, hL1e⟩ : ∃ L, RK G (bl G m) i j = L := ⟨_, rfl⟩
        have HL1E := Lib.hid hL1e
        have hL1l : L1.length ≤ m + 1 := by rw [← hL1e]; exact RK_len (fun j' hj' => bl_len (by have := HCJ.out; omega))
        have HL1 : Hid (L1.length ≤ 1048576) := Lib.hid (by omega)
        have HLY : Hid (((i : Int) :: ys).length ≤ 1048576) := Lib.hid (by rw [List.length_cons, HN2.out]; omega)
        obtain ⟨s1, t1, hst1, hs18, ht13⟩ := ok_nats HOK.out.1.2 HSC.out (i := c) (by rw [HM.out]; exact hcm)
        obtain ⟨gv, hgv⟩ : ∃ gv, G i c = gv := ⟨_, rfl⟩
        have HGG := Lib.hid hgv
        have HGV : Hid (arrB ps (-1) (yn : Int) s0 t0 s1 t1 = gv) := Lib.hid (by rw [← hgv, ← HG.out]; unfold goG; rw [HST.out, hst1])
        obtain ⟨bv, hbv⟩ : ∃ bv, betL ((i : Int) :: ys) L1 = bv := ⟨_, rfl⟩
        have HBV := Lib.hid hbv
        obtain ⟨ub, hub1, hub2⟩ := HBF9.out.cell (k := i) (Nat.le_refl _) him
        rw [← hFBe] at hub2
        simp only [if_true] at hub2
        rw [hL1e] at hub2
        have HMC : Hid (MoC w9 M (w3.heap.size + 1) (w3.heap.size + 1 + 1) yn m i (13 * q + j) ps FB ub v' vb L1 ((i : Int) :: ys) LQ 0 w9) := Lib.hid ⟨hub1, hub2, HLO.out, HBF9.out, ⟨D2, HD9.out, HK2.out⟩, HVB9.out, KeptBut.refl _ _⟩
        have HOW : Hid (∀ k V, MoC w9 M (w3.heap.size + 1) (w3.heap.size + 1 + 1) yn m i (13 * q + j) ps FB ub v' vb L1 ((i : Int) :: ys) LQ k V → OnlyB M (w3.heap.size + 1) (w3.heap.size + 1 + 1) W V) := Lib.hid (fun k V h => h.only HON9.out)
        have HOV : Hid (∀ k V, MoC w9 M (w3.heap.size + 1) (w3.heap.size + 1 + 1) yn m i (13 * q + j) ps FB ub v' vb L1 ((i : Int) :: ys) LQ k V → OnlyB M (w3.heap.size + 1) (w3.heap.size + 1 + 1) W8 V) := Lib.hid (fun k V h => H7.out.trans (HOW.out k V h))
        have HT7 : Hid (∀ k V, MoC w9 M (w3.heap.size + 1) (w3.heap.size + 1 + 1) yn m i (13 * q + j) ps FB ub v' vb L1 ((i : Int) :: ys) LQ k V → V.cell? ⟨w3.heap.size, 0, none⟩ = some (.slice au l cu) ∧ V.cell? ⟨w3.heap.size, 1, none⟩ = some (.map (some M))) := Lib.hid (fun k V h => by
          have hb := (HOV.out k V h).blkA (HBK5.out.below (blink HB67.out HB78.out)) (by omega) (by omega) (by omega)
          exact ⟨hb.at 0, hb.at 1⟩)
        have HA7 : Hid (∀ k V, MoC w9 M (w3.heap.size + 1) (w3.heap.size + 1 + 1) yn m i (13 * q + j) ps FB ub v' vb L1 ((i : Int) :: ys) LQ k V → V.cell? ⟨b, 0, none⟩ = some (.int .i8 (s0 : Int)) ∧ V.cell? ⟨b, 1, none⟩ = some (.int .i16 (t0 : Int))) := Lib.hid (fun k V h => by
          have hb := (HOW.out k V h).blkA HBX.out (by omega) (by omega) (by omega)
          exact ⟨hb.at 0, hb.at 1⟩)
        have HL7 : Hid (∀ k V, MoC w9 M (w3.heap.size + 1) (w3.heap.size + 1 + 1) yn m i (13 * q + j) ps FB ub v' vb L1 ((i : Int) :: ys) LQ k V → V.cell? ⟨w.heap.size + 1, 0, none⟩ = some (.slice (some ⟨g, 0, none⟩) m m)) := Lib.hid (fun k V h =>
          ((HOV.out k V h).blkA (HBL3.out.below HB38.out) (by omega) (by omega) (by omega)).at 0)
        have HF7 : Hid (∀ k V, MoC w9 M (w3.heap.size + 1) (w3.heap.size + 1 + 1) yn m i (13 * q + j) ps FB ub v' vb L1 ((i : Int) :: ys) LQ k V → V.cell? ⟨w6.heap.size, 0, none⟩ = some (.slice (some ⟨w3.heap.size + 1 + 1, 0, none⟩) m m)) := Lib.hid (fun k V h => by
          have b78 : Below w6.heap.size w6 W7 := by rw [← hW7]; exact (Below.refl _ _).alloc (Nat.le_refl _) _
          exact ((HOV.out k V h).blkA (BlkA.below HBF7.out HB78.out) (by omega) (by omega) (by omega)).at 0)
        have HE7 : Hid (∀ k V, MoC w9 M (w3.heap.size + 1) (w3.heap.size + 1 + 1) yn m i (13 * q + j) ps FB ub v' vb L1 ((i : Int) :: ys) LQ k V → V.cell? ⟨g, c * 2, none⟩ = some (.int .i8 (s1 : Int)) ∧ V.cell? ⟨g, c * 2 + 1, none⟩ = some (.int .i16 (t1 : Int))) := Lib.hid (fun k V h => by
          obtain ⟨q0, q1⟩ := HGC8.out c (by rw [HM.out]; exact hcm)
          rw [hst1] at q0 q1
          have ho := HOV.out k V h
          exact ⟨(ho.cell (p := ⟨g, c * 2, none⟩) (World.block_lt_of_cell? W8 _ q0) (by simp only; omega) (by simp only; omega) (by simp only; omega)).trans q0, (ho.cell (p := ⟨g, c * 2 + 1, none⟩) (World.block_lt_of_cell? W8 _ q1) (by simp only; omega) (by simp only; omega) (by simp only; omega)).trans q1⟩)
        have HR7 : Hid (∀ k V, MoC w9 M (w3.heap.size + 1) (w3.heap.size + 1 + 1) yn m i (13 * q + j) ps FB ub v' vb L1 ((i : Int) :: ys) LQ k V → ReadsLa V (.slice au l cu) (hopsL (yn : Int) ps)) := Lib.hid (fun k V h => ReadsLa.only (B := 0) HR3.out HM3.out HB38.out (HOV.out k V h) (by omega) (by omega))
        clear hub1 hub2 hst1 hgv hbv hFBe hL1e hL1l b19
        gi_wp2
        refine wpIn_region_relGL 1 (fun x => Nat.beq x 6) (MoC w9 M (w3.heap.size + 1) (w3.heap.size + 1 + 1) yn m i (13 * q + j) ps FB ub v' vb L1 ((i : Int) :: ys) LQ) (fun _ _ => True) 15 [fun u _ => u = trkV au l cu M, fun u _ => u = scv s0 t0, fun u _ => u = Value.slice (some ⟨g, 0, none⟩) m m, fun u _ => u = Value.int .i64 (c : Int), fun u _ => u = Value.pointer (some ⟨g, c * 2, none⟩), fun u _ => u = scv s1 t1, fun u _ => u = Value.bool gv, fun u _ => u = Value.bool gv, fun u _ => gv = true → u = v', fun u _ => gv = true → u = Value.slice (some ⟨w3.heap.size + 1 + 1, 0, none⟩) m m, fun u _ => gv = true → u = Value.int .i64 (i : Int), fun u _ => gv = true → u = Value.pointer (some ⟨w3.heap.size + 1 + 1, i, none⟩), fun u _ => gv = true → u = ub, fun u _ => gv = true → u = Value.bool bv, fun u _ => u = Value.bool (gv && bv)] (by kernel_rfl) (by kernel_rfl) (by kernel_rfl) rfl (by rfl) (HMC.out.drew hMR hBM) ?_
        simp only [List.take_succ_cons, List.take_zero, List.drop_succ_cons, List.drop_zero]
        refine wpRelG_cons (fun _ _ _ _ _ _ h => h) (fun k V hk hC hd => ?_) (fun v50 => ?_)
        · refine relOblG_yes (by rfl) (relOblI_intro fun K hK => ?_)
          have HK := Lib.hid hK
          have HC := Lib.hid hC
          have c0 := (HT7.out _ _ HC.out).1
          have c1 := (HT7.out _ _ HC.out).2
          clear hK hd hC
          go_simp
          exact HK.out _ _ ⟨_, rfl, HC.out, trivial, rfl⟩
        simp only [Act.put, List.setIfInBounds_toArray, List.set_cons_zero, List.set_cons_succ]
        refine wpRelG_cons (fun _ _ _ _ _ _ h => h) (fun k V hk hC hd => ?_) (fun v51 => ?_)
        · refine relOblG_yes (by rfl) (relOblI_intro fun K hK => ?_)
          have HK := Lib.hid hK
          have HC := Lib.hid hC
          have c0 := (HA7.out _ _ HC.out).1
          have c1 := (HA7.out _ _ HC.out).2
          clear hK hd hC
          go_simp
          exact HK.out _ _ ⟨_, rfl, HC.out, trivial, rfl⟩
        simp only [Act.put, List.setIfInBounds_toArray, List.set_cons_zero, List.set_cons_succ]
        refine wpRelG_cons (fun _ _ _ _ _ _ h => h) (fun k V hk hC hd => ?_) (fun v52 => ?_)
        · refine relOblG_yes (by rfl) (relOblI_intro fun K hK => ?_)
          have HK := Lib.hid hK
          have HC := Lib.hid hC
          have c0 := HL7.out _ _ HC.out
          clear hK hd hC
          go_simp
          exact HK.out _ _ ⟨_, rfl, HC.out, trivial, rfl⟩
        simp only [Act.put, List.setIfInBounds_toArray, List.set_cons_zero, List.set_cons_succ]
        refine wpRelG_cons (fun _ _ _ _ _ _ h => h) (fun k V hk hC hd => ?_) (fun v53 => ?_)
        · refine relOblG_yes (by rfl) (relOblI_intro fun K hK => ?_)
          have HK := Lib.hid hK
          have HC := Lib.hid hC
          clear hK hd hC
          go_simp
          exact HK.out _ _ ⟨_, rfl, HC.out, trivial, rfl⟩
        simp only [Act.put, List.setIfInBounds_toArray, List.set_cons_zero, List.set_cons_succ]
        refine wpRelG_cons (fun _ _ _ _ _ _ h => h) (fun k V hk hC hd => ?_) (fun v54 => ?_)
        · refine relOblG_yes (by rfl) (relOblI_intro fun K hK => ?_)
          have HK := Lib.hid hK
          have HC := Lib.hid hC
          obtain rfl : v52 = Value.slice (some ⟨g, 0, none⟩) m m := hd 2 rfl _ rfl
          obtain rfl : v53 = Value.int .i64 (c : Int) := hd 3 rfl _ rfl
          clear hK hd hC
          go_simp
          exact HK.out _ _ ⟨_, rfl, HC.out, trivial, rfl⟩
        simp only [Act.put, List.setIfInBounds_toArray, List.set_cons_zero, List.set_cons_succ]
        refine wpRelG_cons (fun _ _ _ _ _ _ h => h) (fun k V hk hC hd => ?_) (fun v55 => ?_)
        · refine relOblG_yes (by rfl) (relOblI_intro fun K hK => ?_)
          have HK := Lib.hid hK
          have HC := Lib.hid hC
          obtain rfl : v54 = Value.pointer (some ⟨g, c * 2, none⟩) := hd 4 rfl _ rfl
          have c0 := (HE7.out _ _ HC.out).1
          have c1 := (HE7.out _ _ HC.out).2
          clear hK hd hC
          go_simp
          exact HK.out _ _ ⟨_, rfl, HC.out, trivial, rfl⟩
        simp only [Act.put, List.setIfInBounds_toArray, List.set_cons_zero, List.set_cons_succ]
        refine wpRelG_cons (fun _ _ _ _ _ _ h => h) (fun k V hk hC hd => ?_) (fun v56 => ?_)
        · refine relOblG_yes (by rfl) (relOblI_intro fun K hK => ?_)
          have HK := Lib.hid hK
          have HC := Lib.hid hC
          obtain rfl : v50 = trkV au l cu M := hd 0 rfl _ rfl
          obtain rfl : v51 = scv s0 t0 := hd 1 rfl _ rfl
          obtain rfl : v55 = scv s1 t1 := hd 5 rfl _ rfl
          obtain ⟨D3, hd3, hk3⟩ := HC.out.2.2.2.2.1
          have HGO := Lib.hid (icango_any au cu M (13 * q + j + k) D3 sn yn ps s0 t0 s1 t1 V HOK.out HPL.out hs8 ht3 hs18 ht13 (by rw [HLN.out]; exact HR7.out _ _ HC.out) hd3 hk3 (by have : k + 1 ≤ 1 := hk; have := HCJ.out; omega))
          clear hd3 hk3
          rw [HLN.out, HGV.out] at HGO
          clear hK hd hC
          go_simp
          refine (CallsIn.inRound l' ((callsIn_wide (n := _)).2 HGO.out)).mono ?_
          rintro e V5 ⟨D5, rfl, m5, k5, kb5⟩
          exact HK.out _ _ ⟨_, rfl, HC.out.kept hMR hBM kb5 ⟨D5, m5, k5⟩, trivial, rfl⟩
        simp only [Act.put, List.setIfInBounds_toArray, List.set_cons_zero, List.set_cons_succ]
        refine wpRelG_cons (fun _ _ _ _ _ _ h => h) (fun k V hk hC hd => ?_) (fun v57 => ?_)
        · refine relOblG_yes (by rfl) (relOblI_intro fun K hK => ?_)
          have HK := Lib.hid hK
          have HC := Lib.hid hC
          obtain rfl : v56 = Value.bool gv := hd 6 rfl _ rfl
          clear hK hd hC
          go_simp
          exact HK.out _ _ ⟨_, rfl, HC.out, trivial, rfl⟩
        simp only [Act.put, List.setIfInBounds_toArray, List.set_cons_zero, List.set_cons_succ]
        refine wpRelG_cons (fun _ _ _ _ _ _ h => h) (fun k V hk hC hd => ?_) (fun v58 => ?_)
        · obtain rfl : v57 = Value.bool gv := hd 7 rfl _ rfl
          rcases Bool.eq_false_or_eq_true gv with hgt | hgt
          rotate_left
          · subst hgt; exact relOblG_no (by rfl) (fun f => trivial) hC trivial (fun h => by cases h)
          subst hgt
          refine relOblG_yes (by rfl) (relOblI_intro fun K hK => ?_)
          have HK := Lib.hid hK
          have HC := Lib.hid hC
          clear hK hd hC
          go_simp
          exact HK.out _ _ ⟨_, rfl, HC.out, trivial, fun _ => rfl⟩
        simp only [Act.put, List.setIfInBounds_toArray, List.set_cons_zero, List.set_cons_succ]
        refine wpRelG_cons (fun _ _ _ _ _ _ h => h) (fun k V hk hC hd => ?_) (fun v59 => ?_)
        · obtain rfl : v57 = Value.bool gv := hd 7 rfl _ rfl
          rcases Bool.eq_false_or_eq_true gv with hgt | hgt
          rotate_left
          · subst hgt; exact relOblG_no (by rfl) (fun f => trivial) hC trivial (fun h => by cases h)
          subst hgt
          refine relOblG_yes (by rfl) (relOblI_intro fun K hK => ?_)
          have HK := Lib.hid hK
          have HC := Lib.hid hC
          have c0 := HF7.out _ _ HC.out
          clear hK hd hC
          go_simp
          exact HK.out _ _ ⟨_, rfl, HC.out, trivial, fun _ => rfl⟩
        simp only [Act.put, List.setIfInBounds_toArray, List.set_cons_zero, List.set_cons_succ]
        refine wpRelG_cons (fun _ _ _ _ _ _ h => h) (fun k V hk hC hd => ?_) (fun v60 => ?_)
        · obtain rfl : v57 = Value.bool gv := hd 7 rfl _ rfl
          rcases Bool.eq_false_or_eq_true gv with hgt | hgt
          rotate_left
          · subst hgt; exact relOblG_no (by rfl) (fun f => trivial) hC trivial (fun h => by cases h)
          subst hgt
          refine relOblG_yes (by rfl) (relOblI_intro fun K hK => ?_)
          have HK := Lib.hid hK
          have HC := Lib.hid hC
          clear hK hd hC
          go_simp
          exact HK.out _ _ ⟨_, rfl, HC.out, trivial, fun _ => rfl⟩
        simp only [Act.put, List.setIfInBounds_toArray, List.set_cons_zero, List.set_cons_succ]
        refine wpRelG_cons (fun _ _ _ _ _ _ h => h) (fun k V hk hC hd => ?_) (fun v61 => ?_)
        · obtain rfl : v57 = Value.bool gv := hd 7 rfl _ rfl
          rcases Bool.eq_false_or_eq_true gv with hgt | hgt
          rotate_left
          · subst hgt; exact relOblG_no (by rfl) (fun f => trivial) hC trivial (fun h => by cases h)
          subst hgt
          refine relOblG_yes (by rfl) (relOblI_intro fun K hK => ?_)
          have HK := Lib.hid hK
          have HC := Lib.hid hC
          obtain rfl : v59 = Value.slice (some ⟨w3.heap.size + 1 + 1, 0, none⟩) m m := hd 9 rfl _ rfl rfl
          obtain rfl : v60 = Value.int .i64 (i : Int) := hd 10 rfl _ rfl rfl
          clear hK hd hC
          go_simp
          exact HK.out _ _ ⟨_, rfl, HC.out, trivial, fun _ => rfl⟩
        simp only [Act.put, List.setIfInBounds_toArray, List.set_cons_zero, List.set_cons_succ]
        refine wpRelG_cons (fun _ _ _ _ _ _ h => h) (fun k V hk hC hd => ?_) (fun v62 => ?_)
        · obtain rfl : v57 = Value.bool gv := hd 7 rfl _ rfl
          rcases Bool.eq_false_or_eq_true gv with hgt | hgt
          rotate_left
          · subst hgt; exact relOblG_no (by rfl) (fun f => trivial) hC trivial (fun h => by cases h)
          subst hgt
          refine relOblG_yes (by rfl) (relOblI_intro fun K hK => ?_)
          have HK := Lib.hid hK
          have HC := Lib.hid hC
          obtain rfl : v61 = Value.pointer (some ⟨w3.heap.size + 1 + 1, i, none⟩) := hd 11 rfl _ rfl rfl
          have c0 := HC.out.1
          clear hK hd hC
          go_simp
          exact HK.out _ _ ⟨_, rfl, HC.out, trivial, fun _ => rfl⟩
        simp only [Act.put, List.setIfInBounds_toArray, List.set_cons_zero, List.set_cons_succ]
        refine wpRelG_cons (fun _ _ _ _ _ _ h => h) (fun k V hk hC hd => ?_) (fun v63 => ?_)
        · obtain rfl : v57 = Value.bool gv := hd 7 rfl _ rfl
          rcases Bool.eq_false_or_eq_true gv with hgt | hgt
          rotate_left
          · subst hgt; exact relOblG_no (by rfl) (fun f => trivial) hC trivial (fun h => by cases h)
          subst hgt
          refine relOblG_yes (by rfl) (relOblI_intro fun K hK => ?_)
          have HK := Lib.hid hK
          have HC := Lib.hid hC
          obtain rfl : v' = v58 := (hd 8 rfl _ rfl rfl).symm
          obtain rfl : ub = v62 := (hd 12 rfl _ rfl rfl).symm
          have HBE := Lib.hid (ibett_any v' ub ((i : Int) :: ys) L1 V (HC.out.2.2.1.reads) (HC.out.2.1.reads) HLY.out HL1.out)
          rw [HBV.out] at HBE
          clear hK hd hC
          go_simp
          refine (CallsIn.inRound l' ((callsIn_wide (n := _)).2 HBE.out)).mono ?_
          rintro e V5 ⟨rfl, rfl⟩
          exact HK.out _ _ ⟨_, rfl, HC.out, trivial, fun _ => rfl⟩
        simp only [Act.put, List.setIfInBounds_toArray, List.set_cons_zero, List.set_cons_succ]
        refine wpRelG_cons (fun _ _ _ _ _ _ h => h) (fun k V hk hC hd => relOblG_yes (by rfl) (relOblI_intro fun K hK => ?_)) (fun v64 => ?_)
        · have HK := Lib.hid hK
          have HC := Lib.hid hC
          obtain rfl : v57 = Value.bool gv := hd 7 rfl _ rfl
          have h63 : gv = true → v63 = Value.bool bv := hd 13 rfl _ rfl
          clear hK hd hC
          rcases Bool.eq_false_or_eq_true gv with hgt | hgt
          · have e63 := h63 hgt
            subst hgt; subst e63
            clear h63
            go_simp
            exact HK.out _ _ ⟨_, rfl, HC.out, trivial, rfl⟩
          · subst hgt
            clear h63
            go_simp
            exact HK.out _ _ ⟨_, rfl, HC.out, trivial, rfl⟩
        simp only [Act.put, List.setIfInBounds_toArray, List.set_cons_zero, List.set_cons_succ]
        refine wpRelG_nil fun V hC hd => ?_
        obtain rfl : v64 = Value.bool (gv && bv) := hd 14 _ rfl
        clear hd
        have HC := Lib.hid hC
        have cF := HF7.out _ _ hC
        have HOWV := Lib.hid (HOW.out _ _ hC)
        obtain ⟨D3, hd3, hk3⟩ := hC.2.2.2.2.1
        have HD3 : Hid (ownsT V M (13 * q + (j + 1)) D3) := Lib.hid hd3
        have HK3 := Lib.hid hk3
        have HVBV := Lib.hid hC.2.2.2.2.2.1
        have hfz := hC.2.2.2.1.frozen i
        have hcu := hC.1
        have HBFV := Lib.hid hC.2.2.2.1
        have HOVV := Lib.hid hC.2.2.1
        clear hC hd3 hk3
        rcases Bool.eq_false_or_eq_true (gv && bv) with hgb | hgb
        · rw [hgb]
          obtain ⟨pa, pl, pc, hpv⟩ := ownI_is HOVV.out
          subst hpv
          have HBN : Hid (OwnBF (w3.heap.size + 1 + 1) (V.setCell ⟨w3.heap.size + 1 + 1, i, none⟩ (.slice pa pl pc)) (w3.heap.size + 1 + 1) m (fun k => if k = i then RK G (bl G m) i (j + 1) else bl G m k) i) := Lib.hid ((HBFV.out.store him (Nat.le_succ _) (Nat.le_refl _) HOVV.out).same (Nat.le_refl _) (fun k _ _ => by
            rw [← HFBE.out]
            by_cases e : k = i
            · simp only [if_pos e]
              simp only [Bool.and_eq_true] at hgb
              rw [RK_hit (by rw [HCJ.out, HGG.out]; exact hgb.1) (by rw [HCJ.out, HYS.out, HL1E.out, HBV.out]; exact hgb.2), HCJ.out, HYS.out]
            · simp only [if_neg e]))
          have HDN : Hid (ownsT (V.setCell ⟨w3.heap.size + 1 + 1, i, none⟩ (.slice pa pl pc)) M (13 * q + (j + 1)) D3) := Lib.hid (by
            obtain ⟨es, clock, q1, q2, q3, q4⟩ := HD3.out
            exact ⟨es, clock, by rw [heap_setCell_other _ _ M _ (by simp only; omega)]; exact q1, q2, q3, q4⟩)
          have HVN := Lib.hid (HVBV.out.store HBFV.out i (.slice pa pl pc) (by omega))
          have HONN := Lib.hid (HOWV.out.set ⟨w3.heap.size + 1 + 1, i, none⟩ (.slice pa pl pc) (.inr rfl) (by omega) (by omega))
          clear hgb
          gi_wp2
          go_roundw
          case rel => exact ⟨j + 1, by have := HCJ.out; omega, by have := HCJ.out; go_num, HBN.out, ⟨_, HDN.out, HK3.out⟩, HVN.out, HONN.out⟩
          case measure => simp [intOf]; omega
        · rw [hgb]
          have HBN : Hid (OwnBF (w3.heap.size + 1 + 1) V (w3.heap.size + 1 + 1) m (fun k => if k = i then RK G (bl G m) i (j + 1) else bl G m k) i) := Lib.hid (HBFV.out.same (Nat.le_refl _) (fun k _ _ => by
            rw [← HFBE.out]
            by_cases e : k = i
            · simp only [if_pos e]
              rw [RK_off (by rw [HCJ.out, HGG.out, HYS.out, HL1E.out, HBV.out]; exact hgb)]
            · simp only [if_neg e]))
          clear hgb
          gi_wp2
          go_roundw
          case rel => exact ⟨j + 1, by have := HCJ.out; omega, by have := HCJ.out; go_num, HBN.out, ⟨_, HD3.out, HK3.out⟩, HVBV.out, HOWV.out⟩
          case measure => simp [intOf]; omega
      · have hcm' : c = m := by omega
        have hcmi : ¬ (c : Int) < (m : Int) := by omega
        have HBF2 : Hid (OwnBF (w3.heap.size + 1 + 1) wr (w3.heap.size + 1 + 1) m (bl G m) i) := Lib.hid (hbf.same (Nat.le_refl _) (fun k h1 h2 => by
          by_cases e : k = i
          · subst e
            rw [if_pos rfl, bl_eq him]
            congr 1
            omega
          · rw [if_neg e]))
        clear hbf hd2 hk2 hon hc hcm' hvb
        obtain ⟨u2, hu21, hu22⟩ := HBF2.out.cell (k := i) (Nat.le_refl _) him
        obtain ⟨xa, xl, xc, hx2⟩ := ownI_is hu22
        subst hx2
        obtain ⟨bb, hbb⟩ : ∃ bb, betL (bl G m i) LQ = bb := ⟨_, rfl⟩
        have HBB := Lib.hid hbb
        have HLB : Hid ((bl G m i).length ≤ 1048576) := Lib.hid (by have := bl_len (G := G) him; omega)
        have HLQL : Hid (LQ.length ≤ 1048576) := Lib.hid (by have := BK_len (G := G) (n := m) (by omega) q; rw [HLQ.out] at this; omega)
        have HBE := Lib.hid (ibett_any (.slice xa xl xc) vb (bl G m i) LQ wr.drew (hu22.below ((Below.refl _ _).drew)).reads ((HVB2.out.below ((Below.refl _ _).drew)).2).reads HLB.out HLQL.out)
        rw [HBB.out] at HBE
        have HU22 := Lib.hid hu22
        have c8 := HVB2.out.1.at 0
        have f8 := HVB2.out.1.frozen 0
        have hcb : wr.cell? ⟨w3.heap.size + 1, 0, none⟩ = some vb := c8
        have hji : 13 * q + j ≤ 13 * (q + 1) := by have := HCJ.out; omega
        have hwrs : w3.heap.size + 1 < wr.heap.size := HVB2.out.1.lt
        clear hu22 hbb c8
        gi_wp2
        refine wpIn_region_relGL 0 (fun _ => false) (fun _ V => V = wr.drew) (fun _ _ => True) 6 [fun u _ => u = Value.slice (some ⟨w3.heap.size + 1 + 1, 0, none⟩) m m, fun u _ => u = Value.int .i64 (i : Int), fun u _ => u = Value.pointer (some ⟨w3.heap.size + 1 + 1, i, none⟩), fun u _ => u = Value.slice xa xl xc, fun u _ => u = vb, fun u _ => u = Value.bool bb] (by kernel_rfl) (by kernel_rfl) (by kernel_rfl) rfl (by rfl) rfl ?_
        simp only [List.take_succ_cons, List.take_zero, List.drop_succ_cons, List.drop_zero]
        refine wpRelG_cons (fun _ _ _ _ _ _ h => h) (fun k V hk hC hd => relOblG_yes (by rfl) (relOblI_intro fun K hK => ?_)) (fun v69 => ?_)
        · have HK := Lib.hid hK
          obtain rfl : V = wr.drew := hC
          clear hK hd
          go_simp
          exact HK.out _ _ ⟨_, rfl, rfl, trivial, rfl⟩
        simp only [Act.put, List.setIfInBounds_toArray, List.set_cons_zero, List.set_cons_succ]
        refine wpRelG_cons (fun _ _ _ _ _ _ h => h) (fun k V hk hC hd => relOblG_yes (by rfl) (relOblI_intro fun K hK => ?_)) (fun v70 => ?_)
        · have HK := Lib.hid hK
          obtain rfl : V = wr.drew := hC
          clear hK hd
          go_simp
          exact HK.out _ _ ⟨_, rfl, rfl, trivial, rfl⟩
        simp only [Act.put, List.setIfInBounds_toArray, List.set_cons_zero, List.set_cons_succ]
        refine wpRelG_cons (fun _ _ _ _ _ _ h => h) (fun k V hk hC hd => relOblG_yes (by rfl) (relOblI_intro fun K hK => ?_)) (fun v71 => ?_)
        · have HK := Lib.hid hK
          obtain rfl : V = wr.drew := hC
          obtain rfl : v69 = Value.slice (some ⟨w3.heap.size + 1 + 1, 0, none⟩) m m := hd 0 rfl _ rfl
          obtain rfl : v70 = Value.int .i64 (i : Int) := hd 1 rfl _ rfl
          clear hK hd
          go_simp
          exact HK.out _ _ ⟨_, rfl, rfl, trivial, rfl⟩
        simp only [Act.put, List.setIfInBounds_toArray, List.set_cons_zero, List.set_cons_succ]
        refine wpRelG_cons (fun _ _ _ _ _ _ h => h) (fun k V hk hC hd => relOblG_yes (by rfl) (relOblI_intro fun K hK => ?_)) (fun v72 => ?_)
        · have HK := Lib.hid hK
          obtain rfl : V = wr.drew := hC
          obtain rfl : v71 = Value.pointer (some ⟨w3.heap.size + 1 + 1, i, none⟩) := hd 2 rfl _ rfl
          clear hK hd
          go_simp
          exact HK.out _ _ ⟨_, rfl, rfl, trivial, rfl⟩
        simp only [Act.put, List.setIfInBounds_toArray, List.set_cons_zero, List.set_cons_succ]
        refine wpRelG_cons (fun _ _ _ _ _ _ h => h) (fun k V hk hC hd => relOblG_yes (by rfl) (relOblI_intro fun K hK => ?_)) (fun v73 => ?_)
        · have HK := Lib.hid hK
          obtain rfl : V = wr.drew := hC
          clear hK hd
          go_simp
          exact HK.out _ _ ⟨_, rfl, rfl, trivial, rfl⟩
        simp only [Act.put, List.setIfInBounds_toArray, List.set_cons_zero, List.set_cons_succ]
        refine wpRelG_cons (fun _ _ _ _ _ _ h => h) (fun k V hk hC hd => relOblG_yes (by rfl) (relOblI_intro fun K hK => ?_)) (fun v74 => ?_)
        · have HK := Lib.hid hK
          obtain rfl : V = wr.drew := hC
          obtain rfl : v72 = Value.slice xa xl xc := hd 3 rfl _ rfl
          obtain rfl : vb = v73 := (hd 4 rfl _ rfl).symm
          clear hK hd
          go_simp
          refine (CallsIn.inRound l' ((callsIn_wide (n := _)).2 HBE.out)).mono ?_
          rintro e V5 ⟨rfl, rfl⟩
          exact HK.out _ _ ⟨_, rfl, rfl, trivial, rfl⟩
        simp only [Act.put, List.setIfInBounds_toArray, List.set_cons_zero, List.set_cons_succ]
        refine wpRelG_nil fun V hC hd => ?_
        obtain rfl : V = wr.drew := hC
        obtain rfl : v74 = Value.bool bb := hd 5 _ rfl
        clear hd
        cases bb
        · have HINV : Hid (MoInv W8 M (w3.heap.size + 1) (w3.heap.size + 1 + 1) yn m ps cs (q + 1) wr) := Lib.hid (by
            refine ⟨⟨vb, HVB2.out.1, ?_⟩, ?_, ⟨D2, HD2.out.mono hji, HK2.out⟩, H7.out.trans HON2.out⟩
            · rw [HG.out, BK_off (by rw [HIQ.out, HLQ.out]; exact HBB.out), HLQ.out]; exact HVB2.out.2
            · rw [HG.out, show m - (q + 1) = i by have := HIQ.out; omega]; exact HBF2.out)
          gi_wp2
          have hOD : OnlyB M (w3.heap.size + 1) (w3.heap.size + 1 + 1) W (wr).drew := HON2.out.trans (OnlyB.of_below ((Below.refl _ _).drew) (by first | omega | (simp; omega)))
          exact ⟨hOD.from (by omega) (by omega) (by omega), hOD.keeps2 (by omega) (by omega) (by omega) (by omega) (by omega) (by omega) (by omega) (by omega), HINV.out.below ((Below.refl _ _).drew)⟩
        · have hk := kept_set (w3.heap.size + 1) 0 (.slice xa xl xc) hwrs
          have HINV : Hid (MoInv W8 M (w3.heap.size + 1) (w3.heap.size + 1 + 1) yn m ps cs (q + 1) (wr.setCell ⟨w3.heap.size + 1, 0, none⟩ (.slice xa xl xc))) := Lib.hid (by
            refine ⟨⟨_, HVB2.out.1.set 0 _, ?_⟩, ?_, ⟨D2, ?_, HK2.out⟩, (H7.out.trans HON2.out).set _ _ (.inl rfl) (by omega) (by omega)⟩
            · rw [HG.out, BK_hit (by rw [HIQ.out, HLQ.out]; exact HBB.out), HIQ.out]; exact row_keptBut HU22.out hk (by omega)
            · rw [HG.out, show m - (q + 1) = i by have := HIQ.out; omega]; exact HBF2.out.keptBut hk (by omega)
            · obtain ⟨es, clock, q1, q2, q3, q4⟩ := HD2.out.mono hji
              exact ⟨es, clock, by rw [heap_setCell_other _ _ M _ (by simp only; omega)]; exact q1, q2, q3, q4⟩)
          have HONX := Lib.hid (HON2.out.set ⟨w3.heap.size + 1, 0, none⟩ (.slice xa xl xc) (.inl rfl) (by omega) (by omega))
          clear hk
          gi_wp2
          have hOD : OnlyB M (w3.heap.size + 1) (w3.heap.size + 1 + 1) W (wr.setCell ⟨w3.heap.size + 1, 0, none⟩ (.slice xa xl xc)).drew := HONX.out.trans (OnlyB.of_below ((Below.refl _ _).drew) (by first | omega | (simp; omega)))
          exact ⟨hOD.from (by omega) (by omega) (by omega), hOD.keeps2 (by omega) (by omega) (by omega) (by omega) (by omega) (by omega) (by omega) (by omega), HINV.out.below ((Below.refl _ _).drew)⟩
  case done =>
    rintro D W hD ⟨⟨vb, h1, h2⟩, h3, h5, h7⟩ hK
    have c0 : W.cell? ⟨w3.heap.size + 1, 0, none⟩ = some vb := h1.at 0
    have HK := Lib.hid hK
    have HO := Lib.hid (row_kept h2 (grownBy_putObj' W D (.deferred none)) (fun r e => by cases e; exact ⟨_, hK, rfl⟩))
    have HB := Lib.hid ((HB08.out.trans (h7.1.mono hwM)).trans (belowK_b (w := w) (Nat.le_refl _) W D _ (.deferred none) (by omega) hK rfl rfl))
    clear h1 h2 h3 h5 h7 hK
    gi_wp2
    refine ⟨by simp, .inl ⟨_, _, rfl, run_takeDeferred HK.out, ?_⟩⟩
    refine ⟨.tuple #[vb, .int .i64 0], by simp [results, Try.results10, go_sem], vb, rfl, ?_, HB.out⟩
    exact (show OwnI (w3.heap.size + 1 + 1) _ vb _ from HO.out).mono (by omega)
end Go.Proofs.Ytamnojhkfknnoaa
/-
  The program's MostScans.
-/
namespace Go.Proofs.Ytamnojhkfknnoaa
open Go Go.RowKit Go.Shelf
set_option linter.unusedVariables false

theorem moR_len (st sy : Int) (ps : List Lan) (cs : List (Int × Int)) : (moR st sy ps cs).length ≤ 1048575 := by
  unfold moR
  split
  · rename_i h
    have h12 := (scnC_ok h).2.2
    rcases Nat.eq_zero_or_pos cs.length with e | e
    · rw [e]; simp [BK]
    · have := BK_len (G := goG sy ps cs) (n := cs.length) e cs.length
      omega
  · simp

set_option maxHeartbeats 2000000 in
set_option maxRecDepth 100000 in
theorem imost_any (st sy : Int) (v : Value) (g m : Nat) (ps : List Lan) (cs : List (Int × Int)) (w : World) (hn : FitN st sy ps) (hf : FitsSc cs) (hv : ReadsLa w v ps) (hu : ReadsSc w (.slice (some ⟨g, 0, none⟩) m m) cs) (hx : cs.length ≤ 1048576) (hgw : g < w.heap.size) :
    Calls Try.prog 10 #[netV st sy v, .slice (some ⟨g, 0, none⟩) m m] w (RetL1 w.heap.size w (moR st sy ps cs) (csC st sy ps cs)) := by
  by_cases hz : csC st sy ps cs = 0
  · obtain ⟨hvl, hsb, h12⟩ := scnC_ok hz
    have hok := vldN_spec hvl
    obtain ⟨sn, yn, rfl, rfl⟩ := net_nat hok
    have hm : cs.length = m := by obtain ⟨_, _, e, _⟩ := hu; injection e with e1 e2 e3; exact e2.symm
    refine (callsIn_wide.1 (imost_in sn yn v g m ps cs w hz hn hf hv hu hx hgw)).mono ?_
    rintro e w2 ⟨u, rfl, o, b⟩
    refine ⟨u, ret_pair hz.symm, ?_, b⟩
    unfold moR
    rw [if_pos hz, hm]
    exact o
  have hR0 : moR st sy ps cs = [] := by unfold moR; rw [if_neg hz]
  have HN := Lib.hid hn
  have b1 : Below w.heap.size w ((w.alloc (.cells #[.int .i8 st, .int .i16 sy, v] 35)).alloc (.cells #[.slice (some ⟨g, 0, none⟩) m m] 37)) := ((Below.refl _ _).alloc (Nat.le_refl _) _).alloc (by simp) _
  have BN : BlkA ((w.alloc (.cells #[.int .i8 st, .int .i16 sy, v] 35)).alloc (.cells #[.slice (some ⟨g, 0, none⟩) m m] 37)) w.heap.size 35 #[.int .i8 st, .int .i16 sy, v] := (BlkA.new rfl _ _).alloc _
  have BL : BlkA ((w.alloc (.cells #[.int .i8 st, .int .i16 sy, v] 35)).alloc (.cells #[.slice (some ⟨g, 0, none⟩) m m] 37)) (w.heap.size + 1) 37 #[.slice (some ⟨g, 0, none⟩) m m] := BlkA.new (by simp) _ _
  obtain ⟨W1, hW⟩ : ∃ W, (w.alloc (.cells #[.int .i8 st, .int .i16 sy, v] 35)).alloc (.cells #[.slice (some ⟨g, 0, none⟩) m m] 37) = W := ⟨_, rfl⟩
  rw [hW] at b1 BN BL
  have HW := Lib.hid hW
  have HB1 := Lib.hid b1
  have HCHK := Lib.hid (ichk_any st sy v ps _ (.slice none 0 0) (.slice none 0 0) cs [] [] W1 hn (hv.below b1) (hu.below b1) hf (reads_nil _) (reads_nil _) hx (by simp) (by simp))
  rw [chk_scn] at HCHK
  obtain ⟨c, hc⟩ : ∃ c, csC st sy ps cs = c := ⟨_, rfl⟩
  have HC := Lib.hid hc
  rw [show scnC st sy ps (scsB st cs) cs.length = csC st sy ps cs from rfl, hc] at HCHK
  rw [hc] at hz
  have n0 := BN.at 0
  have n1 := BN.at 1
  have n2 := BN.at 2
  have l0 := BL.at 0
  have HR := Lib.hid hR0
  have t1 : (c != 0) = true := by simp [hz]
  have t0 : (c == 0) = false := by simp [hz]
  clear hW b1 BN BL hv hu hn hf hc hR0 hz
  go_enter Try.func10, Try.ntmps10
  go_wp2_with fail
  rw [HW.out]
  go_wp2_with fail
  refine HCHK.out.mono ?_
  rintro e w2 ⟨rfl, b2⟩
  have HB2 := Lib.hid (blink HB1.out b2)
  clear b2 n0 n1 n2 l0 HCHK HW
  go_wp2_with fail
  go_ret2
  exact ⟨_, ret_pair HC.out.symm, by rw [HR.out]; exact World.ownsRow_nil _ _ _ _, HB2.out⟩
end Go.Proofs.Ytamnojhkfknnoaa
/-
  The walk of FnExactMostScans: program and model answer the same at every argument; neither writes into its arguments, and what is answered lies in new memory.
-/
namespace Go.Proofs.Ytamnojhkfknnoaa.fnExactMostScans
open Go Go.RowKit
set_option linter.unusedVariables false

set_option maxHeartbeats 16000000 in
set_option maxRecDepth 100000 in
theorem walk (st0 sy0 : Int) (a0 : Option Addr) (len0 cap0 : Nat) (ps0 : List Lan) (a1 : Option Addr) (len1 cap1 : Nat) (ps1 : List (Int × Int)) (w : World) (hh0 : (IsRowLa w a0 len0 cap0 ps0 ∧ FitsLa ps0) ∧ (-128 ≤ st0 ∧ st0 ≤ 127) ∧ (-32768 ≤ sy0 ∧ sy0 ≤ 32767)) (hh1 : IsRowSc w a1 len1 cap1 ps1 ∧ FitsSc ps1) :
    Calls Try.prog 3 #[.agg #[.int .i8 st0, .int .i16 sy0, .slice a0 len0 cap0], .slice a1 len1 cap1] w fun e w' => e = .returned (.bool true) ∧ Below w.heap.size w w' := by
  obtain ⟨⟨hr0, hf0⟩, hst0, hsy0⟩ := hh0
  have HFQ0 := Lib.hid hf0
  have HST0 := Lib.hid hst0
  have HSY0 := Lib.hid hsy0
  have HN0 := Lib.hid hr0.len_ok
  clear hf0 hst0 hsy0
  obtain ⟨hr1, hf1⟩ := hh1
  have HF1 := Lib.hid hf1
  have HN1 := Lib.hid hr1.len_ok
  clear hf1
  by_cases hm0 : 0 ≤ 1048576 - (len0 : Int)
  rotate_left
  · have t0 : decide (1048576 - (len0 : Int) < 0) = true := decide_eq_true (by omega)
    go_enter Try.func3, Try.ntmps3
    go_wp2_with fail
    have b1 : Below w.heap.size w (w.alloc (.cells #[.int .i8 st0, .int .i16 sy0, .slice a0 len0 cap0] 26)) := ((Below.refl _ _).alloc (Nat.le_refl _) _)
    have BX0 : BlkA (w.alloc (.cells #[.int .i8 st0, .int .i16 sy0, .slice a0 len0 cap0] 26)) (w.heap.size) 26 #[.int .i8 st0, .int .i16 sy0, .slice a0 len0 cap0] := (BlkA.new rfl _ _)
    generalize (w.alloc (.cells #[.int .i8 st0, .int .i16 sy0, .slice a0 len0 cap0] 26)) = w1 at b1 BX0 ⊢
    have c1 := b1
    have hs1 : w.heap.size ≤ w1.heap.size := b1.size
    have hb0 : w.heap.size < w1.heap.size := BX0.lt
    have va0_0_1 : w1.cell? ⟨w.heap.size, 0, none⟩ = some (.int .i8 st0) := (BX0).at 0
    have va0_1_1 : w1.cell? ⟨w.heap.size, 1, none⟩ = some (.int .i16 sy0) := (BX0).at 1
    have va0_2_1 : w1.cell? ⟨w.heap.size, 2, none⟩ = some (.slice a0 len0 cap0) := (BX0).at 2
    have la0_1 : w.heap.size < w1.heap.size := (BX0).lt
    go_wp2_with fail
    refine (szNet_big st0 sy0 a0 len0 cap0 1048576 (by omega) (by omega) (by omega) HN0.out _).mono ?_
    rintro e w2 ⟨rfl, b2⟩
    have c2 : Below w.heap.size w w2 := blink c1 b2
    have hs2 : w1.heap.size ≤ w2.heap.size := b2.size
    go_wp2_with fail
    go_ret
    exact ⟨rfl, c2⟩
  have t0 : decide (1048576 - (len0 : Int) < 0) = false := decide_eq_false (by omega)
  by_cases hm1 : 0 ≤ (1048576 - (len0 : Int)) - (len1 : Int)
  rotate_left
  · have t1 : decide ((1048576 - (len0 : Int)) - (len1 : Int) < 0) = true := decide_eq_true (by omega)
    go_enter Try.func3, Try.ntmps3
    go_wp2_with fail
    have b1 : Below w.heap.size w (w.alloc (.cells #[.int .i8 st0, .int .i16 sy0, .slice a0 len0 cap0] 26)) := ((Below.refl _ _).alloc (Nat.le_refl _) _)
    have BX0 : BlkA (w.alloc (.cells #[.int .i8 st0, .int .i16 sy0, .slice a0 len0 cap0] 26)) (w.heap.size) 26 #[.int .i8 st0, .int .i16 sy0, .slice a0 len0 cap0] := (BlkA.new rfl _ _)
    generalize (w.alloc (.cells #[.int .i8 st0, .int .i16 sy0, .slice a0 len0 cap0] 26)) = w1 at b1 BX0 ⊢
    have c1 := b1
    have hs1 : w.heap.size ≤ w1.heap.size := b1.size
    have hb0 : w.heap.size < w1.heap.size := BX0.lt
    have va0_0_1 : w1.cell? ⟨w.heap.size, 0, none⟩ = some (.int .i8 st0) := (BX0).at 0
    have va0_1_1 : w1.cell? ⟨w.heap.size, 1, none⟩ = some (.int .i16 sy0) := (BX0).at 1
    have va0_2_1 : w1.cell? ⟨w.heap.size, 2, none⟩ = some (.slice a0 len0 cap0) := (BX0).at 2
    have la0_1 : w.heap.size < w1.heap.size := (BX0).lt
    go_wp2_with fail
    refine (szNet_fit st0 sy0 a0 len0 cap0 1048576 (by omega) (by omega) _).mono ?_
    rintro e w2 ⟨rfl, b2⟩
    have c2 : Below w.heap.size w w2 := blink c1 b2
    have hs2 : w1.heap.size ≤ w2.heap.size := b2.size
    go_wp2_with fail
    refine (szScanS_big a1 len1 cap1 (1048576 - (len0 : Int)) (by omega) (by omega) (by omega) HN1.out _).mono ?_
    rintro e we ⟨rfl, rfl⟩
    go_wp2_with fail
    go_ret
    exact ⟨rfl, c2⟩
  have t1 : decide ((1048576 - (len0 : Int)) - (len1 : Int) < 0) = false := decide_eq_false (by omega)
  have hlq0 : ps0.length = len0 := hr0.len_eq
  have HX0 : Hid (ps0.length ≤ 1048576) := Lib.hid (by omega)
  have HL0 : Hid (len0 ≤ 1048576) := Lib.hid (by omega)
  have hxb0 : ps0.length ≤ 1048576 := HX0.out
  clear hlq0
  have HF0 : Hid (FitN st0 sy0 ps0) := Lib.hid ⟨HST0.out, HSY0.out, HFQ0.out, HX0.out⟩
  have hlq1 : ps1.length = len1 := hr1.len_eq
  have HX1 : Hid (ps1.length ≤ 1048576) := Lib.hid (by omega)
  have HL1 : Hid (len1 ≤ 1048576) := Lib.hid (by omega)
  have hxb1 : ps1.length ≤ 1048576 := HX1.out
  clear hlq1
  have hlb0 := moR_len st0 sy0 ps0 ps1
  have HLB0 : Hid ((moR st0 sy0 ps0 ps1).length ≤ 1048576) := Lib.hid (by omega)
  go_enter Try.func3, Try.ntmps3
  go_wp2_with fail
  have b1 : Below w.heap.size w (w.alloc (.cells #[.int .i8 st0, .int .i16 sy0, .slice a0 len0 cap0] 26)) := ((Below.refl _ _).alloc (Nat.le_refl _) _)
  have BX0 : BlkA (w.alloc (.cells #[.int .i8 st0, .int .i16 sy0, .slice a0 len0 cap0] 26)) (w.heap.size) 26 #[.int .i8 st0, .int .i16 sy0, .slice a0 len0 cap0] := (BlkA.new rfl _ _)
  generalize (w.alloc (.cells #[.int .i8 st0, .int .i16 sy0, .slice a0 len0 cap0] 26)) = w1 at b1 BX0 ⊢
  have c1 := b1
  have hs1 : w.heap.size ≤ w1.heap.size := b1.size
  have hb0 : w.heap.size < w1.heap.size := BX0.lt
  have va0_0_1 : w1.cell? ⟨w.heap.size, 0, none⟩ = some (.int .i8 st0) := (BX0).at 0
  have va0_1_1 : w1.cell? ⟨w.heap.size, 1, none⟩ = some (.int .i16 sy0) := (BX0).at 1
  have va0_2_1 : w1.cell? ⟨w.heap.size, 2, none⟩ = some (.slice a0 len0 cap0) := (BX0).at 2
  have la0_1 : w.heap.size < w1.heap.size := (BX0).lt
  go_wp2_with fail
  refine (szNet_fit st0 sy0 a0 len0 cap0 1048576 (by omega) (by omega) _).mono ?_
  rintro e w2 ⟨rfl, b2⟩
  have c2 : Below w.heap.size w w2 := blink c1 b2
  have hs2 : w1.heap.size ≤ w2.heap.size := b2.size
  go_wp2_with fail
  refine (szScanS_fit a1 len1 cap1 (1048576 - (len0 : Int)) (by omega) (by omega) _).mono ?_
  rintro e we ⟨rfl, rfl⟩
  have va0_0_2 : w2.cell? ⟨w.heap.size, 0, none⟩ = some (.int .i8 st0) := ((BX0).below b2).at 0
  have va0_1_2 : w2.cell? ⟨w.heap.size, 1, none⟩ = some (.int .i16 sy0) := ((BX0).below b2).at 1
  have va0_2_2 : w2.cell? ⟨w.heap.size, 2, none⟩ = some (.slice a0 len0 cap0) := ((BX0).below b2).at 2
  have la0_2 : w.heap.size < w2.heap.size := ((BX0).below b2).lt
  go_wp2_with fail
  refine (toNet_any st0 sy0 a0 len0 cap0 ps0 _ (hr0.below c2) HL0.out).mono ?_
  rintro e w3 ⟨g3, rfl, o3, b3⟩
  have c3 : Below w.heap.size w w3 := blink c2 b3
  have hs3 : w2.heap.size ≤ w3.heap.size := b3.size
  have lo3 : Hid (∀ k, Value.ownBlock (.slice (some ⟨g3, 0, none⟩) len0 len0) = some k → w2.heap.size ≤ k ∧ k < w3.heap.size) := Lib.hid o3.block
  go_wp2_with fail
  refine (toScanS_any a1 len1 cap1 ps1 _ (hr1.below c3) HL1.out).mono ?_
  rintro e w4 ⟨rfl, o4, b4⟩
  have c4 : Below w.heap.size w w4 := blink c3 b4
  have hs4 : w3.heap.size ≤ w4.heap.size := b4.size
  have lo4 : Hid (∀ k, Value.ownBlock (.slice (some ⟨w3.heap.size, 0, none⟩) len1 len1) = some k → w3.heap.size ≤ k ∧ k < w4.heap.size) := Lib.hid o4.block
  go_wp2_with fail
  refine (smost_any _ _ _ _ _ ps0 ps1 _ HF0.out HF1.out ((o3).below b4).reads (o4).reads HX1.out).mono ?_
  rintro e w5 ⟨sv0, rfl, so0, b5⟩
  have c5 : Below w.heap.size w w5 := blink c4 b5
  have hs5 : w4.heap.size ≤ w5.heap.size := b5.size
  have lso0 : Hid (∀ k, Value.ownBlock sv0 = some k → w4.heap.size ≤ k ∧ k < w5.heap.size) := Lib.hid so0.block
  have va0_0_5 : w5.cell? ⟨w.heap.size, 0, none⟩ = some (.int .i8 st0) := (((((BX0).below b2).below b3).below b4).below b5).at 0
  have va0_1_5 : w5.cell? ⟨w.heap.size, 1, none⟩ = some (.int .i16 sy0) := (((((BX0).below b2).below b3).below b4).below b5).at 1
  have va0_2_5 : w5.cell? ⟨w.heap.size, 2, none⟩ = some (.slice a0 len0 cap0) := (((((BX0).below b2).below b3).below b4).below b5).at 2
  have la0_5 : w.heap.size < w5.heap.size := (((((BX0).below b2).below b3).below b4).below b5).lt
  go_wp2_with fail
  refine (toNet_any st0 sy0 a0 len0 cap0 ps0 _ (hr0.below c5) HL0.out).mono ?_
  rintro e w6 ⟨g6, rfl, o6, b6⟩
  have c6 : Below w.heap.size w w6 := blink c5 b6
  have hs6 : w5.heap.size ≤ w6.heap.size := b6.size
  have lo6 : Hid (∀ k, Value.ownBlock (.slice (some ⟨g6, 0, none⟩) len0 len0) = some k → w5.heap.size ≤ k ∧ k < w6.heap.size) := Lib.hid o6.block
  have va0_0_6 : w6.cell? ⟨w.heap.size, 0, none⟩ = some (.int .i8 st0) := ((((((BX0).below b2).below b3).below b4).below b5).below b6).at 0
  have va0_1_6 : w6.cell? ⟨w.heap.size, 1, none⟩ = some (.int .i16 sy0) := ((((((BX0).below b2).below b3).below b4).below b5).below b6).at 1
  have va0_2_6 : w6.cell? ⟨w.heap.size, 2, none⟩ = some (.slice a0 len0 cap0) := ((((((BX0).below b2).below b3).below b4).below b5).below b6).at 2
  have la0_6 : w.heap.size < w6.heap.size := ((((((BX0).below b2).below b3).below b4).below b5).below b6).lt
  go_wp2_with fail
  have b7 : Below w6.heap.size w6 (w6.alloc (.cells #[.int .i8 st0, .int .i16 sy0, .slice (some ⟨g6, 0, none⟩) len0 len0] 35)) := (Below.refl _ _).alloc (Nat.le_refl _) _
  have BY0 : BlkA (w6.alloc (.cells #[.int .i8 st0, .int .i16 sy0, .slice (some ⟨g6, 0, none⟩) len0 len0] 35)) w6.heap.size 35 #[.int .i8 st0, .int .i16 sy0, .slice (some ⟨g6, 0, none⟩) len0 len0] := BlkA.new rfl _ _
  generalize (w6.alloc (.cells #[.int .i8 st0, .int .i16 sy0, .slice (some ⟨g6, 0, none⟩) len0 len0] 35)) = w7 at b7 BY0 ⊢
  have c7 : Below w.heap.size w w7 := blink c6 b7
  have hs7 : w6.heap.size ≤ w7.heap.size := b7.size
  have hx0 : w6.heap.size < w7.heap.size := BY0.lt
  go_wp2_with fail
  refine (toScanS_any a1 len1 cap1 ps1 _ (hr1.below c7) HL1.out).mono ?_
  rintro e w8 ⟨rfl, o8, b8⟩
  have c8 : Below w.heap.size w w8 := blink c7 b8
  have hs8 : w7.heap.size ≤ w8.heap.size := b8.size
  have lo8 : Hid (∀ k, Value.ownBlock (.slice (some ⟨w7.heap.size, 0, none⟩) len1 len1) = some k → w7.heap.size ≤ k ∧ k < w8.heap.size) := Lib.hid o8.block
  have vx0_0_8 : w8.cell? ⟨w6.heap.size, 0, none⟩ = some (.int .i8 st0) := ((BY0).below b8).at 0
  have vx0_1_8 : w8.cell? ⟨w6.heap.size, 1, none⟩ = some (.int .i16 sy0) := ((BY0).below b8).at 1
  have vx0_2_8 : w8.cell? ⟨w6.heap.size, 2, none⟩ = some (.slice (some ⟨g6, 0, none⟩) len0 len0) := ((BY0).below b8).at 2
  have lx0_8 : w6.heap.size < w8.heap.size := ((BY0).below b8).lt
  go_wp2_with fail
  refine (imost_any _ _ _ _ _ ps0 ps1 _ HF0.out HF1.out (((o6).below b7).below b8).reads (o8).reads HX1.out (((o8)).block _ rfl).2).mono ?_
  rintro e w9 ⟨gv0, rfl, go0, b9⟩
  have c9 : Below w.heap.size w w9 := blink c8 b9
  have hs9 : w8.heap.size ≤ w9.heap.size := b9.size
  have lgo0 : Hid (∀ k, Value.ownBlock gv0 = some k → w8.heap.size ≤ k ∧ k < w9.heap.size) := Lib.hid go0.block
  go_wp2_with fail
  refine (eqI_any _ _ (moR st0 sy0 ps0 ps1) (moR st0 sy0 ps0 ps1) _ (go0).reads (((((so0).below b6).below b7).below b8).below b9).reads (HLB0.out) (HLB0.out)).mono ?_
  rintro e w10 ⟨rfl, b10⟩
  have c10 : Below w.heap.size w w10 := blink c9 b10
  have hs10 : w9.heap.size ≤ w10.heap.size := b10.size
  rw [eqB_true rfl]
  have CD10 : Below w.heap.size w w10.drew := Below.drew c10
  have BD10 : Below w10.heap.size w10 w10.drew := (Below.refl _ _).drew
  have SD10 : w10.drew.cell? ⟨w.heap.size, 0, none⟩ = some (.int .i8 st0) ∧ w10.drew.cell? ⟨w.heap.size, 1, none⟩ = some (.int .i16 sy0) ∧ w10.drew.cell? ⟨w.heap.size, 2, none⟩ = some (.slice a0 len0 cap0) ∧ w10.drew.cell? ⟨w6.heap.size, 0, none⟩ = some (.int .i8 st0) ∧ w10.drew.cell? ⟨w6.heap.size, 1, none⟩ = some (.int .i16 sy0) ∧ w10.drew.cell? ⟨w6.heap.size, 2, none⟩ = some (.slice (some ⟨g6, 0, none⟩) len0 len0) := ⟨cbl BD10 (((((((((((BX0).below b2).below b3).below b4).below b5).below b6).below b7).below b8).below b9).below b10).at 0), cbl BD10 (((((((((((BX0).below b2).below b3).below b4).below b5).below b6).below b7).below b8).below b9).below b10).at 1), cbl BD10 (((((((((((BX0).below b2).below b3).below b4).below b5).below b6).below b7).below b8).below b9).below b10).at 2), cbl BD10 (((((BY0).below b8).below b9).below b10).at 0), cbl BD10 (((((BY0).below b8).below b9).below b10).at 1), cbl BD10 (((((BY0).below b8).below b9).below b10).at 2)⟩
  go_wp2_with fail
  go_region_held3 (fun v => v.cell? ⟨w.heap.size, 0, none⟩ = some (.int .i8 st0) ∧ v.cell? ⟨w.heap.size, 1, none⟩ = some (.int .i16 sy0) ∧ v.cell? ⟨w.heap.size, 2, none⟩ = some (.slice a0 len0 cap0) ∧ v.cell? ⟨w6.heap.size, 0, none⟩ = some (.int .i8 st0) ∧ v.cell? ⟨w6.heap.size, 1, none⟩ = some (.int .i16 sy0) ∧ v.cell? ⟨w6.heap.size, 2, none⟩ = some (.slice (some ⟨g6, 0, none⟩) len0 len0)) (first | exact zS12 | exact zS11 | exact SD10) (first | (go_at_call 8; (with_reducible refine (toNet_any st0 sy0 a0 len0 cap0 ps0 _ (hr0.below CD10) HL0.out).mono ?_); rintro e w11 ⟨g11, rfl, o11, d11⟩; have b11 : Below w10.heap.size w10 w11 := BD10.trans (d11.mono (Nat.le_refl _)); have zS11 : w11.cell? ⟨w.heap.size, 0, none⟩ = some (.int .i8 st0) ∧ w11.cell? ⟨w.heap.size, 1, none⟩ = some (.int .i16 sy0) ∧ w11.cell? ⟨w.heap.size, 2, none⟩ = some (.slice a0 len0 cap0) ∧ w11.cell? ⟨w6.heap.size, 0, none⟩ = some (.int .i8 st0) ∧ w11.cell? ⟨w6.heap.size, 1, none⟩ = some (.int .i16 sy0) ∧ w11.cell? ⟨w6.heap.size, 2, none⟩ = some (.slice (some ⟨g6, 0, none⟩) len0 len0) := ⟨cbl d11 SD10.1, cbl d11 SD10.2.1, cbl d11 SD10.2.2.1, cbl d11 SD10.2.2.2.1, cbl d11 SD10.2.2.2.2.1, cbl d11 SD10.2.2.2.2.2⟩) | (go_at_call 12; (with_reducible refine (eqNet_eq st0 sy0 _ _ ps0 _ (((((((o6).below b7).below b8).below b9).below b10).below BD10).below d11).reads o11.reads HX0.out).mono ?_); rintro e w12 ⟨rfl, b12⟩; have zS12 : w12.cell? ⟨w.heap.size, 0, none⟩ = some (.int .i8 st0) ∧ w12.cell? ⟨w.heap.size, 1, none⟩ = some (.int .i16 sy0) ∧ w12.cell? ⟨w.heap.size, 2, none⟩ = some (.slice a0 len0 cap0) ∧ w12.cell? ⟨w6.heap.size, 0, none⟩ = some (.int .i8 st0) ∧ w12.cell? ⟨w6.heap.size, 1, none⟩ = some (.int .i16 sy0) ∧ w12.cell? ⟨w6.heap.size, 2, none⟩ = some (.slice (some ⟨g6, 0, none⟩) len0 len0) := ⟨cbl b12 zS11.1, cbl b12 zS11.2.1, cbl b12 zS11.2.2.1, cbl b12 zS11.2.2.2.1, cbl b12 zS11.2.2.2.2.1, cbl b12 zS11.2.2.2.2.2⟩))
  have c11 : Below w.heap.size w w11 := blink c10 b11
  have hs11 : w10.heap.size ≤ w11.heap.size := b11.size
  have c12 : Below w.heap.size w w12 := blink c11 b12
  have hs12 : w11.heap.size ≤ w12.heap.size := b12.size
  clear zS11 zS12 SD10 CD10 BD10
  go_wp2_with fail
  refine (toScanS_any a1 len1 cap1 ps1 _ (hr1.below c12) HL1.out).mono ?_
  rintro e w13 ⟨rfl, o13, b13⟩
  have c13 : Below w.heap.size w w13 := blink c12 b13
  have hs13 : w12.heap.size ≤ w13.heap.size := b13.size
  have lo13 : Hid (∀ k, Value.ownBlock (.slice (some ⟨w12.heap.size, 0, none⟩) len1 len1) = some k → w12.heap.size ≤ k ∧ k < w13.heap.size) := Lib.hid o13.block
  go_wp2_with fail
  refine (eqScanS_eq _ _ ps1 _ ((((((o8).below b9).below b10).below b11).below b12).below b13).reads (o13).reads (HX1.out)).mono ?_
  rintro e w14 ⟨rfl, b14⟩
  have c14 : Below w.heap.size w w14 := blink c13 b14
  have hs14 : w13.heap.size ≤ w14.heap.size := b14.size
  have vx0_0_14 : w14.cell? ⟨w6.heap.size, 0, none⟩ = some (.int .i8 st0) := ((((((((BY0).below b8).below b9).below b10).below b11).below b12).below b13).below b14).at 0
  have vx0_1_14 : w14.cell? ⟨w6.heap.size, 1, none⟩ = some (.int .i16 sy0) := ((((((((BY0).below b8).below b9).below b10).below b11).below b12).below b13).below b14).at 1
  have vx0_2_14 : w14.cell? ⟨w6.heap.size, 2, none⟩ = some (.slice (some ⟨g6, 0, none⟩) len0 len0) := ((((((((BY0).below b8).below b9).below b10).below b11).below b12).below b13).below b14).at 2
  have lx0_14 : w6.heap.size < w14.heap.size := ((((((((BY0).below b8).below b9).below b10).below b11).below b12).below b13).below b14).lt
  go_wp2_with fail
  refine (markNet_any _ _ st0 sy0 _ ps0 _ _ (((((((((o6).below b7).below b8).below b9).below b10).below b11).below b12).below b13).below b14) (by omega) (by omega) HX0.out).mono ?_
  rintro e w15 ⟨rfl, mk1, G15⟩
  have K15 : KeepsOut w5.heap.size w6.heap.size w14 w15 := G15 _ _ (fun k hk => by have := lo6.out k hk; omega)
  have c15 : Below w.heap.size w w15 := kout_below c14 K15 (by omega) (by omega)
  have hs15 : w14.heap.size ≤ w15.heap.size := K15.size
  go_wp2_with fail
  refine (markSc_any _ _ _ ps1 _ _ ((((((((o8).below b9).below b10).below b11).below b12).below b13).below b14).out K15 (fun k hk => by have := lo8.out k hk; omega)) (by omega) (by omega) (HX1.out)).mono ?_
  rintro e w16 ⟨rfl, mk2, g16⟩
  have K16 : KeepsOut w7.heap.size w8.heap.size w15 w16 := keepsOut_grown g16 (fun k hk => by have := lo8.out k hk; omega)
  have c16 : Below w.heap.size w w16 := kout_below c15 K16 (by omega) (by omega)
  have hs16 : w15.heap.size ≤ w16.heap.size := K16.size
  have lmk2 : Hid (∀ k, Value.ownBlock (.slice (some ⟨w7.heap.size, 0, none⟩) len1 len1) = some k → w7.heap.size ≤ k ∧ k < w8.heap.size) := lo8
  go_wp2_with fail
  refine (eqI_any _ _ (moR st0 sy0 ps0 ps1) (moR st0 sy0 ps0 ps1) _ ((((((((go0).below b10).below b11).below b12).below b13).below b14).out K15 (fun k hk => by have := lgo0.out k hk; omega)).out K16 (fun k hk => by have := lgo0.out k hk; omega)).reads ((((((((((((so0).below b6).below b7).below b8).below b9).below b10).below b11).below b12).below b13).below b14).out K15 (fun k hk => by have := lso0.out k hk; omega)).out K16 (fun k hk => by have := lso0.out k hk; omega)).reads (HLB0.out) (HLB0.out)).mono ?_
  rintro e w17 ⟨rfl, b17⟩
  have c17 : Below w.heap.size w w17 := blink c16 b17
  have hs17 : w16.heap.size ≤ w17.heap.size := b17.size
  rw [eqB_true rfl]
  go_wp2_with fail
  refine (mark_any _ _ (moR st0 sy0 ps0 ps1) _ _ (((((((((go0).below b10).below b11).below b12).below b13).below b14).out K15 (fun k hk => by have := lgo0.out k hk; omega)).out K16 (fun k hk => by have := lgo0.out k hk; omega)).below b17) (by omega) (by omega) (HLB0.out)).mono ?_
  rintro e w18 ⟨rfl, mk3, g18⟩
  have K18 : KeepsOut w8.heap.size w9.heap.size w17 w18 := keepsOut_grown g18 (fun k hk => by have := lgo0.out k hk; omega)
  have c18 : Below w.heap.size w w18 := kout_below c17 K18 (by omega) (by omega)
  have hs18 : w17.heap.size ≤ w18.heap.size := K18.size
  have lmk3 : Hid (∀ k, Value.ownBlock gv0 = some k → w8.heap.size ≤ k ∧ k < w9.heap.size) := lgo0
  go_wp2_with fail
  refine (held_any _ _ _ _ (mk3).reads (by omega) (by omega) (HLB0.out)).mono ?_
  rintro e w19 ⟨rfl, b19⟩
  have c19 : Below w.heap.size w w19 := blink c18 b19
  have hs19 : w18.heap.size ≤ w19.heap.size := b19.size
  have va0_0_19 : w19.cell? ⟨w.heap.size, 0, none⟩ = some (.int .i8 st0) := (((((((((((((((((((BX0).below b2).below b3).below b4).below b5).below b6).below b7).below b8).below b9).below b10).below b11).below b12).below b13).below b14).out K15 (by omega)).out K16 (by omega)).below b17).out K18 (by omega)).below b19).at 0
  have va0_1_19 : w19.cell? ⟨w.heap.size, 1, none⟩ = some (.int .i16 sy0) := (((((((((((((((((((BX0).below b2).below b3).below b4).below b5).below b6).below b7).below b8).below b9).below b10).below b11).below b12).below b13).below b14).out K15 (by omega)).out K16 (by omega)).below b17).out K18 (by omega)).below b19).at 1
  have va0_2_19 : w19.cell? ⟨w.heap.size, 2, none⟩ = some (.slice a0 len0 cap0) := (((((((((((((((((((BX0).below b2).below b3).below b4).below b5).below b6).below b7).below b8).below b9).below b10).below b11).below b12).below b13).below b14).out K15 (by omega)).out K16 (by omega)).below b17).out K18 (by omega)).below b19).at 2
  have la0_19 : w.heap.size < w19.heap.size := (((((((((((((((((((BX0).below b2).below b3).below b4).below b5).below b6).below b7).below b8).below b9).below b10).below b11).below b12).below b13).below b14).out K15 (by omega)).out K16 (by omega)).below b17).out K18 (by omega)).below b19).lt
  go_wp2_with fail
  refine (toNet_any st0 sy0 a0 len0 cap0 ps0 _ (hr0.below c19) HL0.out).mono ?_
  rintro e w20 ⟨g20, rfl, o20, b20⟩
  have c20 : Below w.heap.size w w20 := blink c19 b20
  have hs20 : w19.heap.size ≤ w20.heap.size := b20.size
  have lo20 : Hid (∀ k, Value.ownBlock (.slice (some ⟨g20, 0, none⟩) len0 len0) = some k → w19.heap.size ≤ k ∧ k < w20.heap.size) := Lib.hid o20.block
  go_wp2_with fail
  refine (toScanS_any a1 len1 cap1 ps1 _ (hr1.below c20) HL1.out).mono ?_
  rintro e w21 ⟨rfl, o21, b21⟩
  have c21 : Below w.heap.size w w21 := blink c20 b21
  have hs21 : w20.heap.size ≤ w21.heap.size := b21.size
  have lo21 : Hid (∀ k, Value.ownBlock (.slice (some ⟨w20.heap.size, 0, none⟩) len1 len1) = some k → w20.heap.size ≤ k ∧ k < w21.heap.size) := Lib.hid o21.block
  go_wp2_with fail
  refine (imost_any _ _ _ _ _ ps0 ps1 _ HF0.out HF1.out ((o20).below b21).reads (o21).reads HX1.out (((o21)).block _ rfl).2).mono ?_
  rintro e w22 ⟨hv0, rfl, ho0, b22⟩
  have c22 : Below w.heap.size w w22 := blink c21 b22
  have hs22 : w21.heap.size ≤ w22.heap.size := b22.size
  have lho0 : Hid (∀ k, Value.ownBlock hv0 = some k → w21.heap.size ≤ k ∧ k < w22.heap.size) := Lib.hid ho0.block
  go_wp2_with fail
  refine (eqI_any _ _ (moR st0 sy0 ps0 ps1) (moR st0 sy0 ps0 ps1) _ (ho0).reads ((((((((((((((((((so0).below b6).below b7).below b8).below b9).below b10).below b11).below b12).below b13).below b14).out K15 (fun k hk => by have := lso0.out k hk; omega)).out K16 (fun k hk => by have := lso0.out k hk; omega)).below b17).out K18 (fun k hk => by have := lso0.out k hk; omega)).below b19).below b20).below b21).below b22).reads (HLB0.out) (HLB0.out)).mono ?_
  rintro e w23 ⟨rfl, b23⟩
  have c23 : Below w.heap.size w w23 := blink c22 b23
  have hs23 : w22.heap.size ≤ w23.heap.size := b23.size
  rw [eqB_true rfl]
  go_wp2_with fail
  refine (held_any _ _ _ _ ((((((mk3).below b19).below b20).below b21).below b22).below b23).reads (by omega) (by omega) (HLB0.out)).mono ?_
  rintro e w24 ⟨rfl, b24⟩
  have c24 : Below w.heap.size w w24 := blink c23 b24
  have hs24 : w23.heap.size ≤ w24.heap.size := b24.size
  go_wp2_with fail
  go_ret
  exact ⟨rfl, c24⟩
end Go.Proofs.Ytamnojhkfknnoaa.fnExactMostScans
