/-
  Reading the text of a net: the program's ReadNet.
-/
import Derived.Test.YtbclmafplaipaaaDoorRnI
import Derived.Test.YtbclmafplaipaaaDoorLnI
import Derived.Test.YtbclmafplaipaaaDoorNxI
namespace Go.Proofs.YtbclmafplaipaaaDoor
open Go Go.RowKit Go.Shelf
set_option linter.unusedVariables false
attribute [local go_sem] Oper.semAt_some

/-- What holds when k lines have been read: the net so far, and what lay before. -/
def RnInv (W1 : World) (NB : Nat) (st sy : Int) (ls : List (List UInt8)) (k : Nat) (W : World) : Prop :=
  (∃ v L, mapO laneI (ls.take k) = some L ∧ FitsLa L ∧ BlkA W NB 72 #[.int .i8 st, .int .i16 sy, v] ∧ OwnLa 149 (NB + 1 + 1) W v L) ∧ Below W1.heap.size W1 W ∧ NB + 1 + 1 ≤ W.heap.size
/-- What holds where a line was none. -/
def RnStop (w : World) (l : List UInt8) (k : Nat) (W : World) : Prop :=
  netI l = none ∧ BlkA W w.heap.size 72 #[.int .i8 0, .int .i16 0, .slice none 0 0] ∧ BlkA W (w.heap.size + 1) 2 #[.int .i64 5] ∧ Below w.heap.size w W
theorem rn_own {W1 : World} {NB B : Nat} {st sy : Int} {ls : List (List UInt8)} (h1 : W1.heap.size ≤ NB) (hB : NB + 1 < B) : BoxFree (NB + 1) B (RnInv W1 NB st sy ls) := by
  rintro k W W' row ⟨⟨v, L, hm, hf, hbx, ho⟩, hb, hs⟩ hg hr
  have hNB : some NB ≠ row := fun e => by rcases hr NB e.symm with h | ⟨h, _⟩ <;> omega
  refine ⟨⟨v, L, hm, hf, (hg.block NB (BlkA.lt hbx) hNB).trans hbx, ?_⟩, hb.grown hg hb.size (fun r e => by rcases hr r e with h | ⟨h, _⟩ <;> omega), Nat.le_trans hs hg.size⟩
  refine OwnLa.kept ho hg ?_
  rcases ho.2 with ⟨rfl, _⟩ | ⟨g, cap, cur, rfl, hB', hgb, rest⟩
  · exact .inl rfl
  · refine .inr fun e => ?_
    rcases hr g e.symm with h | ⟨h, o, ho', hc⟩
    · omega
    · rw [hgb] at ho'; cases ho'; cases hc
theorem rn_stop {w : World} {l : List UInt8} {B : Nat} (hB : w.heap.size ≤ B) : OwnFrom B (RnStop w l) := by
  rintro k W W' row ⟨h1, h2, h3, h4⟩ hg hr
  exact ⟨h1, blkA_kept h2 hg (fun r e => (hr r e).2), blkA_kept h3 hg (fun r e => (hr r e).2), below_kept h4 h4.size hB hg (fun r e => (hr r e).1)⟩

theorem mapO_lenN {α : Type} {f : List UInt8 → Option α} : ∀ {ws : List (List UInt8)} {L : List α}, mapO f ws = some L → L.length = ws.length
  | [], L, h => by cases h; rfl
  | w :: ws, L, h => by
    unfold mapO at h
    cases hw : f w with
    | none => rw [hw] at h; cases h
    | some b =>
      rw [hw] at h
      simp only at h
      cases hs : mapO f ws with
      | none => rw [hs] at h; cases h
      | some L' =>
        rw [hs] at h
        cases h
        simp [mapO_lenN hs]
theorem keepsOth_below {W V : World} (h : Below W.heap.size W V) : KeepsOthers W V := ⟨h.size, fun k o hk _ => (h.block k (Array.getElem?_eq_some_iff.1 hk).1).trans hk⟩
theorem keepsOth_row {W V : World} {B n m : Nat} {T : TypeId} {v : Value} {xs : List Value} (hg : W.grownBy V v.ownBlock) (ho : W.ownsRow B T n v m xs) : KeepsOthers W V := KeepsOthers.of_grownBy hg (fun j o hj h' => by
  rcases ho.2 with ⟨rfl, _⟩ | ⟨g, cap', cur, rfl, _, hgb, _⟩
  · cases hj
  · simp [Value.ownBlock] at hj; subst hj; rw [hgb] at h'; cases h'; rfl)

set_option maxHeartbeats 1600000 in
set_option maxRecDepth 100000 in
theorem irn_in (l : List UInt8) (hl : l.length ≤ 1048576) (w : World) (h : RdW w) :
    CallsIn Fence.wide 9 Tryd.prog 51 #[.string (str l)] w (RetRn w (rnS l) (rnY l) (rnL l) (rnC l)) := by
  obtain ⟨o0, ho0, oz0, oz1, oz2⟩ := info_parts infoR_La
  have hro : Fence.wide.round = none := rfl
  have hFF : ∀ f, Fence.wide.fn f := fun _ => trivial
  have HNO : Hid (netI l = none → rnS l = 0 ∧ rnY l = 0 ∧ rnL l = [] ∧ rnC l = 5) := Lib.hid (fun h => rn_no (by rw [net_same]; exact h))
  have HYES : Hid (∀ a b L, netI l = some (a, b, L) → rnS l = a ∧ rnY l = b ∧ rnL l = L ∧ rnC l = 0) := Lib.hid (fun a b L h => rn_yes (by rw [net_same]; exact h))
  have HDEF : Hid (netI l = match pairI 32 (IntKind.i8.wrap) (IntKind.i16.wrap) (Lib.cut l [10]).1, mapO laneI (lns (Lib.cut l [10]).2.1) with
    | some p, some L => if netT p.1 p.2 L = l then some (p.1, p.2, L) else none
    | _, _ => none) := Lib.hid rfl
  obtain ⟨rs, hrs⟩ : ∃ r, rnS l = r := ⟨_, rfl⟩
  obtain ⟨ry, hry⟩ : ∃ r, rnY l = r := ⟨_, rfl⟩
  obtain ⟨rl, hrl⟩ : ∃ r, rnL l = r := ⟨_, rfl⟩
  obtain ⟨rc, hrc⟩ : ∃ r, rnC l = r := ⟨_, rfl⟩
  rw [hrs, hry, hrl, hrc] at HNO HYES ⊢
  have B10 : BlkA ((w.alloc (.cells #[.int .i8 0, .int .i16 0, .slice none 0 0] 72)).alloc (.cells #[.int .i64 0] 2)) w.heap.size 72 #[.int .i8 0, .int .i16 0, .slice none 0 0] := (BlkA.new rfl _ _).alloc _
  have B11 : BlkA ((w.alloc (.cells #[.int .i8 0, .int .i16 0, .slice none 0 0] 72)).alloc (.cells #[.int .i64 0] 2)) (w.heap.size + 1) 2 #[.int .i64 0] := BlkA.new (by simp) _ _
  have b1 : Below w.heap.size w ((w.alloc (.cells #[.int .i8 0, .int .i16 0, .slice none 0 0] 72)).alloc (.cells #[.int .i64 0] 2)) := ((Below.refl _ _).alloc (Nat.le_refl _) _).alloc (by simp) _
  obtain ⟨W1, hW1⟩ : ∃ W, (w.alloc (.cells #[.int .i8 0, .int .i16 0, .slice none 0 0] 72)).alloc (.cells #[.int .i64 0] 2) = W := ⟨_, rfl⟩
  have HW1 := Lib.hid hW1
  rw [hW1] at B10 B11 b1
  have HB10 := Lib.hid B10
  have HB11 := Lib.hid B11
  have HB1 := Lib.hid b1
  have hs1 : w.heap.size + 1 < W1.heap.size := B11.lt
  have HR1 := Lib.hid (h.below b1)
  have HCU := Lib.hid (icut_any l 10 hl W1 HR1.out)
  have hcl := cut_len l 10
  obtain ⟨x, hx⟩ : ∃ x, (Lib.cut l [10]).1 = x := ⟨_, rfl⟩
  obtain ⟨y, hy⟩ : ∃ x, (Lib.cut l [10]).2.1 = x := ⟨_, rfl⟩
  rw [hx, hy] at hcl HCU HDEF
  have hxl : x.length ≤ 1048576 := by omega
  have hyl : y.length ≤ 1048576 := by omega
  obtain ⟨ni, hni⟩ : ∃ r, netI l = r := ⟨_, rfl⟩
  have HNI := Lib.hid hni
  rw [hni] at HNO HYES HDEF
  clear hrs hry hrl hrc hx hy hcl h hW1 B10 B11 b1 hni
  refine callsIn_of_wp_marks Tryd.func51 rfl trivial ?_ hro
  simp only [Tryd.ntmps51, List.size_toArray, List.length_cons, List.length_nil, Nat.reduceAdd, Nat.reduceSub, Array.replicate_succ, Array.replicate_zero, List.push_toArray, List.append_toArray, List.nil_append, List.cons_append]
  gi_wp2
  rw [HW1.out]
  refine ((callsIn_wide (n := _)).2 HCU.out).mono ?_
  rintro e w2 ⟨b0, rfl, b2⟩
  have HR2 := Lib.hid (HR1.out.below b2)
  have HB2 := Lib.hid b2
  have HP1 := Lib.hid (ipairR_any x 32 hxl w2 HR2.out)
  clear b2 HCU
  gi_wp2
  refine ((callsIn_wide (n := _)).2 HP1.out).mono ?_
  rintro e w3 ⟨v1, v2, p1, rfl, hp1, b3⟩
  have HR3 := Lib.hid (HR2.out.below b3)
  have HB3 := Lib.hid (blink HB2.out b3)
  have hs3 : W1.heap.size ≤ w3.heap.size := HB3.out.size
  have HV1 := Lib.hid hp1
  clear b3 HP1 hp1
  -- what the two results hold in any later world
  have HF : Hid (∀ W, Below W1.heap.size W1 W →
      RnStop w l 0 ((((W.setCell ⟨w.heap.size, 0, none⟩ (.int .i8 0)).setCell ⟨w.heap.size, 1, none⟩ (.int .i16 0)).setCell ⟨w.heap.size, 2, none⟩ (.slice none 0 0)).setCell ⟨w.heap.size + 1, 0, none⟩ (.int .i64 5)) ∨ ni ≠ none) := Lib.hid (fun W hW => by
    by_cases hn : ni = none
    rotate_left
    · exact .inr hn
    refine .inl ⟨by rw [HNI.out]; exact hn, ?_, ?_, ?_⟩
    · have h0 := (((HB10.out.below hW).set 0 (.int .i8 0)).set 1 (.int .i16 0)).set 2 (.slice none 0 0)
      refine Eq.trans ?_ h0
      exact heap_setCell_other _ _ _ _ (by show w.heap.size ≠ w.heap.size + 1; omega)
    · have h0 : BlkA (((W.setCell ⟨w.heap.size, 0, none⟩ (.int .i8 0)).setCell ⟨w.heap.size, 1, none⟩ (.int .i16 0)).setCell ⟨w.heap.size, 2, none⟩ (.slice none 0 0)) (w.heap.size + 1) 2 #[.int .i64 0] := by
        have hne : ∀ i, w.heap.size + 1 ≠ (⟨w.heap.size, i, none⟩ : Addr).block := fun i => by show w.heap.size + 1 ≠ w.heap.size; omega
        unfold BlkA
        rw [heap_setCell_other _ _ _ _ (hne 2), heap_setCell_other _ _ _ _ (hne 1), heap_setCell_other _ _ _ _ (hne 0)]
        exact HB11.out.below hW
      exact h0.set 0 (.int .i64 5)
    · exact ((((HB1.out.trans (hW.mono (by omega))).setCell (by simp) _).setCell (by simp) _).setCell (by simp) _).setCell (by simp) _)
  rcases HV1.out with ⟨rfl, e1, e2⟩ | ⟨rfl, e1⟩
  rotate_left
  · have hnn : ni = none := by rw [HDEF.out, pairI_no e1]
    obtain ⟨q1, q2, q3, q4⟩ := HNO.out hnn
    subst q1; subst q2; subst q3; subst q4
    rcases HF.out w3 HB3.out with h | h
    rotate_left
    · exact absurd hnn h
    have HST := Lib.hid h
    have k0 := (HB10.out.below HB3.out).at 0
    have k1 := (HB10.out.below HB3.out).at 1
    have k2 := (HB10.out.below HB3.out).at 2
    have f0 := (HB10.out.below HB3.out).frozen 0
    have f1 := (HB10.out.below HB3.out).frozen 1
    have f2 := (HB10.out.below HB3.out).frozen 2
    have k3 := (HB11.out.below HB3.out).at 0
    have f3 := (HB11.out.below HB3.out).frozen 0
    clear e1 hnn h HV1
    gi_wp2
    have z0 := HST.out.2.1.at 0
    have z1 := HST.out.2.1.at 1
    have z2 := HST.out.2.1.at 2
    have z3 := HST.out.2.2.1.at 0
    refine ⟨.tuple #[netV 0 0 (.slice none 0 0), .int .i64 5], by simp [results, Tryd.results51, go_sem, z0, z1, z2, z3], ⟨_, rfl, World.ownsRow_nil _ _ _ _, HST.out.2.2.2⟩⟩
  obtain ⟨c0, hc0, hr0, -⟩ := wr8 v1
  obtain ⟨c1, hc1, hr1, -⟩ := wr16 v2
  have HDEF2 : Hid (ni = match mapO laneI (lns y) with
    | some L => if netT c0 c1 L = l then some (c0, c1, L) else none
    | none => none) := Lib.hid (by rw [HDEF.out, pairI_yes e1 e2, ← hc0, ← hc1]; cases mapO laneI (lns y) <;> rfl)
  have HR0 := Lib.hid hr0
  have HR1' := Lib.hid hr1
  clear e1 e2 HV1 HDEF hr0 hr1
  gi_wp2
  refine (lines_in _ (str y) _).mono ?_
  rintro e W5 ⟨rfl, e5⟩
  have hz6 : (w3.alloc (.cells #[.int .i8 c0, .int .i16 c1, .slice none 0 0] 72)).heap.size = w3.heap.size + 1 := by simp
  rw [hz6]
  have bn5 : BlkA W5 w3.heap.size 72 #[.int .i8 c0, .int .i16 c1, .slice none 0 0] := by rw [e5]; exact (BlkA.new rfl _ _).alloc _
  have bs5 : BlkA W5 (w3.heap.size + 1) 9 #[.string (str y)] := by rw [e5]; exact BlkA.new (by simp) _ _
  have b35 : Below w3.heap.size w3 W5 := by rw [e5]; exact ((Below.refl _ _).alloc (Nat.le_refl _) _).alloc (by simp) _
  have HN5 := Lib.hid bn5
  have HS5 := Lib.hid bs5
  have HB5 := Lib.hid (HB3.out.trans (b35.mono hs3))
  have hs5 : w3.heap.size + 1 < W5.heap.size := bs5.lt
  have HSEQ := Lib.hid (lines_box (w3.heap.size + 1) y hyl W5 bs5)
  clear e5 hz6 bn5 bs5 b35
  gi_wp2
  refine wpIn_rangeFunc_box hro (by omega) (gf := 130) (lb := #[.pointer (some ⟨w3.heap.size + 1, 0, none⟩)]) rfl (hFF _) (enters_of Tryd.func130 (by kernel_rfl) rfl)
    HSEQ.out hs5 (Below.refl _ _) (fun _ => rfl) (RnInv W1 w3.heap.size c0 c1 (lns y)) (RnStop w l) (rn_own (by omega) (by omega)) (rn_stop (by omega))
    ⟨⟨_, [], rfl, (fun p hp => by cases hp), HN5.out, World.ownsRow_nil _ _ _ _⟩, HB5.out, by omega⟩ ?act ?assign ?body ?done ?stop
  case assign =>
    intro l x W K hK
    gi_wp2
    exact hK
  case body =>
    rintro l0 k W ⟨⟨v, L, hm, hfit, hbx, how⟩, hb, hsz⟩ hk
    obtain ⟨lk, hlk⟩ : ∃ lk, lnN (rsK y k) = lk := ⟨_, rfl⟩
    obtain ⟨t, ht⟩ : ∃ t, trimS lk = t := ⟨_, rfl⟩
    have hlkl : lk.length ≤ 1048576 := by rw [← hlk]; exact Nat.le_trans (lnN_len _) (Nat.le_trans (rsK_len y k) hyl)
    have htl : t.length ≤ 1048576 := by rw [← ht]; exact Nat.le_trans (trimS_len lk) hlkl
    have hat : (lns y)[k] = t := by rw [← ht, ← hlk, ln_at hk]; simp [List.getD, hk]
    have HTK : Hid ((lns y).take (k + 1) = (lns y).take k ++ [t]) := Lib.hid (by rw [List.take_succ_eq_append_getElem hk, hat])
    have HBAD : Hid (laneI t = none → ni = none) := Lib.hid (fun h => by rw [HDEF2.out, mapO_stopN h (by rw [← hat]; exact List.getElem_mem hk)])
    have hnk : (lns y).length ≤ 1048576 := Nat.le_trans (lns_len _ y (Nat.le_refl _)) hyl
    have HTRM := Lib.hid (itrim_any lk hlkl W)
    have HLA := Lib.hid (ireadLa_any t htl W (HR1.out.below' hb))
    have hLm : L.length ≤ 1048576 := by rw [mapO_lenN hm, List.length_take]; omega
    rw [ht] at HTRM
    rw [hlk]
    obtain ⟨la, lc, hlv⟩ := own_is how
    subst hlv
    obtain ⟨m, hmm⟩ : ∃ m, L.length = m := ⟨_, rfl⟩
    rw [hmm] at hbx how hLm
    have HMM := Lib.hid hmm
    have HM := Lib.hid hm
    have HFIT := Lib.hid hfit
    have HBX := Lib.hid hbx
    have HOW := Lib.hid how
    have HB := Lib.hid hb
    clear hlk ht hat hm hfit hbx how hb hmm hnk hk hlkl htl
    gi_wp2
    refine (CallsIn.inRound l0 ((callsIn_wide (n := _)).2 HTRM.out)).mono ?_
    rintro e w6 ⟨rfl, rfl⟩
    gi_wp2
    refine (CallsIn.inRound l0 ((callsIn_wide (n := _)).2 HLA.out)).mono ?_
    rintro e w7 ⟨a0, a1, a2, a3, ok, rfl, hft, hst, b7⟩
    have HFT := Lib.hid hft
    have HST := Lib.hid hst
    have HB7 := Lib.hid b7
    have HBX7 := Lib.hid (HBX.out.below b7)
    have HB17 := Lib.hid (HB.out.trans (b7.mono (by have := HB.out.size; omega)))
    have hs7 : W.heap.size ≤ w7.heap.size := b7.size
    have hsW : W1.heap.size ≤ W.heap.size := HB.out.size
    have hl0 : w.heap.size < w7.heap.size := by omega
    have hl1 : w.heap.size + 1 < w7.heap.size := by omega
    have hl3 : w3.heap.size < w7.heap.size := by omega
    clear hft hst b7 HTRM HLA
    rcases HST.out with ⟨rfl, hla⟩ | ⟨rfl, hla⟩
    · have HM2 : Hid (mapO laneI ((lns y).take (k + 1)) = some (L ++ [(a0, a1, a2, a3)])) := Lib.hid (by rw [HTK.out]; exact mapO_snocN hla HM.out)
      have HFIT2 : Hid (FitsLa (L ++ [(a0, a1, a2, a3)])) := Lib.hid (fun q hq => by
        rcases List.mem_append.1 hq with hq | hq
        · exact HFIT.out q hq
        · have e : q = (a0, a1, a2, a3) := by simpa using hq
          subst e; exact HFT.out)
      have HOA : Hid (((w7.alloc (.cells #[.int .i8 a0, .int .i8 a1, .int .i16 a2, .int .i16 a3] 149)).alloc (.cells #[.int .i8 a0, .int .i8 a1, .int .i16 a2, .int .i16 a3] 149)).ownsRow (w3.heap.size + 1 + 1) 149 4 (.slice la m lc) m (flatLa L)) := Lib.hid (by
        have h := World.ownsRow.alloc (World.ownsRow.alloc (show w7.ownsRow (w3.heap.size + 1 + 1) 149 4 (.slice la m lc) L.length (flatLa L) from OwnLa.below HOW.out HB7.out) (.cells #[.int .i8 a0, .int .i8 a1, .int .i16 a2, .int .i16 a3] 149)) (.cells #[.int .i8 a0, .int .i8 a1, .int .i16 a2, .int .i16 a3] 149)
        rw [HMM.out] at h
        exact h)
      have HNEW : Hid (∀ j u, ([Value.int .i8 a0, .int .i8 a1, .int .i16 a2, .int .i16 a3] : List Value)[j]? = some u → ((w7.alloc (.cells #[.int .i8 a0, .int .i8 a1, .int .i16 a2, .int .i16 a3] 149)).alloc (.cells #[.int .i8 a0, .int .i8 a1, .int .i16 a2, .int .i16 a3] 149)).cell? (Addr.add ⟨w7.heap.size + 1, 0, none⟩ j) = some u) := Lib.hid (by
        have h := @new4 (w7.alloc (.cells #[.int .i8 a0, .int .i8 a1, .int .i16 a2, .int .i16 a3] 149)) (.int .i8 a0) (.int .i8 a1) (.int .i16 a2) (.int .i16 a3) 149
        rw [World.size_alloc] at h
        exact h)
      have HBA : Hid (Below W1.heap.size W1 ((w7.alloc (.cells #[.int .i8 a0, .int .i8 a1, .int .i16 a2, .int .i16 a3] 149)).alloc (.cells #[.int .i8 a0, .int .i8 a1, .int .i16 a2, .int .i16 a3] 149))) := Lib.hid ((HB17.out.alloc (by omega) _).alloc (by simp; omega) _)
      have HBXA := Lib.hid ((HBX7.out.alloc (.cells #[.int .i8 a0, .int .i8 a1, .int .i16 a2, .int .i16 a3] 149)).alloc (.cells #[.int .i8 a0, .int .i8 a1, .int .i16 a2, .int .i16 a3] 149))
      have HKO : Hid (KeepsOthers W ((w7.alloc (.cells #[.int .i8 a0, .int .i8 a1, .int .i16 a2, .int .i16 a3] 149)).alloc (.cells #[.int .i8 a0, .int .i8 a1, .int .i16 a2, .int .i16 a3] 149))) := Lib.hid (((keepsOth_below HB7.out).trans (KeepsOthers.alloc _ _)).trans (KeepsOthers.alloc _ _))
      have HKB : Hid (KpBox (w3.heap.size + 1) W ((w7.alloc (.cells #[.int .i8 a0, .int .i8 a1, .int .i16 a2, .int .i16 a3] 149)).alloc (.cells #[.int .i8 a0, .int .i8 a1, .int .i16 a2, .int .i16 a3] 149))) := Lib.hid (KpBox.below ((HB7.out.alloc hs7 _).alloc (by simp; omega) _) (by omega))
      have u2 := HBX7.out.at 2
      have uf2 := HBX7.out.frozen 2
      clear hla HST HBAD HFIT HM HFT
      gi_wp2_with (gi_at_builtin; refine wpListIn_append_own _ rfl _ _ 70 rfl (w3.heap.size + 1 + 1) 149 o0 (.agg #[.int .i8 0, .int .i8 0, .int .i16 0, .int .i16 0]) 4 6 Tryd.underlying70 ho0 oz0 oz1 oz2 rfl (by decide) _ _ _ rfl HOA.out ⟨w7.heap.size + 1, 0, none⟩ 1 1 [.int .i8 a0, .int .i8 a1, .int .i16 a2, .int .i16 a3] rfl rfl HNEW.out ones4 ?c3 ?c4 ?c5 ?_)
      case c3 => unfold maxLen; omega
      case c4 => omega
      case c5 => first | omega | (simp; omega)
      intro v' w9 hown' hgrow _
      obtain ⟨a9, c9, hv9⟩ := own_is hown'
      subst hv9
      have hbx9 : BlkA w9 w3.heap.size 72 #[.int .i8 c0, .int .i16 c1, .slice la m lc] := (hgrow.block w3.heap.size HBXA.out.lt (fun e => by have := (HOA.out.lt w3.heap.size e.symm).1; omega)).trans HBXA.out
      have hbxe : BlkA (w9.setCell ⟨w3.heap.size, 2, none⟩ (.slice a9 (m + 1) c9)) w3.heap.size 72 #[.int .i8 c0, .int .i16 c1, .slice a9 (m + 1) c9] := hbx9.set 2 (.slice a9 (m + 1) c9)
      have HB9 : Hid (Below W1.heap.size W1 (w9.setCell ⟨w3.heap.size, 2, none⟩ (.slice a9 (m + 1) c9))) := Lib.hid ((HBA.out.grown hgrow (by simp; omega) (fun j e => by have := (HOA.out.lt j e).1; omega)).setCell (by show W1.heap.size ≤ w3.heap.size; omega) _)
      have HOE : Hid (OwnLa 149 (w3.heap.size + 1 + 1) (w9.setCell ⟨w3.heap.size, 2, none⟩ (.slice a9 (m + 1) c9)) (.slice a9 (m + 1) c9) (L ++ [(a0, a1, a2, a3)])) := Lib.hid (by
        have ho : OwnLa 149 (w3.heap.size + 1 + 1) w9 (.slice a9 (m + 1) c9) (L ++ [(a0, a1, a2, a3)]) := by
          unfold OwnLa
          rw [List.length_append, HMM.out, flatLa_append]
          exact hown'
        exact OwnLa.other ho _ _ (by show w3.heap.size < w3.heap.size + 1 + 1; omega))
      have HKO9 : Hid (KeepsOthers W (w9.setCell ⟨w3.heap.size, 2, none⟩ (.slice a9 (m + 1) c9))) := Lib.hid ((HKO.out.trans (keepsOth_row hgrow HOA.out)).trans (KeepsOthers.setCell _ _ _))
      have HKB9 : Hid (KpBox (w3.heap.size + 1) W (w9.setCell ⟨w3.heap.size, 2, none⟩ (.slice a9 (m + 1) c9))) := Lib.hid ((HKB.out.trans (KpBox.grown hgrow (fun e => by have := (HOA.out.lt _ e).1; omega))).trans (fun o ho => (heap_setCell_other w9 ⟨w3.heap.size, 2, none⟩ (w3.heap.size + 1) _ (by show w3.heap.size + 1 ≠ w3.heap.size; omega)).trans ho))
      have HFIN : Hid (RnInv W1 w3.heap.size c0 c1 (lns y) (k + 1) (w9.setCell ⟨w3.heap.size, 2, none⟩ (.slice a9 (m + 1) c9))) := Lib.hid ⟨⟨_, _, HM2.out, HFIT2.out, hbxe, HOE.out⟩, HB9.out, by have := hgrow.size; simp at this ⊢; omega⟩
      have p0 := hbx9.at 0
      have p1 := hbx9.at 1
      have p2 := hbx9.at 2
      have pf2 := hbx9.frozen 2
      clear hown' hgrow hbx9 hbxe u2 uf2
      gi_wp2
      exact ⟨HKO9.out.from _, HKB9.out, HFIN.out⟩
    · have hnn : ni = none := HBAD.out hla
      rcases HF.out _ HB17.out with h | h
      rotate_left
      · exact absurd hnn h
      have HSTP := Lib.hid ((rn_stop (Nat.le_refl _)).alloc (.cells #[.int .i8 a0, .int .i8 a1, .int .i16 a2, .int .i16 a3] 149) h)
      have HKO : Hid (KeepsOthers W (((((w7.setCell ⟨w.heap.size, 0, none⟩ (.int .i8 0)).setCell ⟨w.heap.size, 1, none⟩ (.int .i16 0)).setCell ⟨w.heap.size, 2, none⟩ (.slice none 0 0)).setCell ⟨w.heap.size + 1, 0, none⟩ (.int .i64 5)).alloc (.cells #[.int .i8 a0, .int .i8 a1, .int .i16 a2, .int .i16 a3] 149))) := Lib.hid ((((((keepsOth_below HB7.out).trans (KeepsOthers.setCell _ _ _)).trans (KeepsOthers.setCell _ _ _)).trans (KeepsOthers.setCell _ _ _)).trans (KeepsOthers.setCell _ _ _)).trans (KeepsOthers.alloc _ _))
      have k0 := (HB10.out.below HB17.out).at 0
      have k1 := (HB10.out.below HB17.out).at 1
      have k2 := (HB10.out.below HB17.out).at 2
      have f0 := (HB10.out.below HB17.out).frozen 0
      have f1 := (HB10.out.below HB17.out).frozen 1
      have f2 := (HB10.out.below HB17.out).frozen 2
      have k3 := (HB11.out.below HB17.out).at 0
      have f3 := (HB11.out.below HB17.out).frozen 0
      clear h hla hnn HST HBAD HFIT HM HFT
      gi_wp2
      exact ⟨HKO.out.from _, HSTP.out⟩
  case done =>
    rintro D W hD ⟨⟨v, L, hm, hfit, hbx, how⟩, hb, hsz⟩ hK
    rw [List.take_length] at hm
    have HDEF3 : Hid (ni = if netT c0 c1 L = l then some (c0, c1, L) else none) := Lib.hid (by rw [HDEF2.out, hm])
    have hLl : L.length ≤ 1048576 := by rw [mapO_lenN hm]; exact Nat.le_trans (lns_len _ y (Nat.le_refl _)) hyl
    have HNT := Lib.hid (int_any c0 c1 v L W ⟨HR0.out, HR1'.out, hfit, hLl⟩ how.reads (HR1.out.below' hb).2.2.2)
    obtain ⟨t, ht⟩ : ∃ t, netT c0 c1 L = t := ⟨_, rfl⟩
    have HT := Lib.hid ht
    rw [ht] at HNT
    have HTT : Hid ((str t).toList = t) := Lib.hid (by unfold str; exact ByteArray.toList_mk t)
    have HLT : Hid ((str l).toList = l) := Lib.hid (by unfold str; exact ByteArray.toList_mk l)
    obtain ⟨la, lc, hlv⟩ := own_is how
    subst hlv
    obtain ⟨m, hmm⟩ : ∃ m, L.length = m := ⟨_, rfl⟩
    rw [hmm] at hbx how HNT
    have HBX := Lib.hid hbx
    have HOW := Lib.hid how
    have HB := Lib.hid hb
    have HK := Lib.hid hK
    have u0 := hbx.at 0
    have u1 := hbx.at 1
    have u2 := hbx.at 2
    clear hm hfit hbx how hb hK hLl ht hmm
    gi_wp2
    refine ((callsIn_wide (n := _)).2 HNT.out).mono ?_
    rintro e w8 ⟨rfl, b8⟩
    have HB8 := Lib.hid (HB.out.trans (b8.mono (by have := HB.out.size; omega)))
    have HBX8 := Lib.hid (HBX.out.below b8)
    have HOW8 := Lib.hid (OwnLa.below HOW.out b8)
    have HK8 : Hid (w8.heap[D]? = some (.deferred (some []))) := Lib.hid ((b8.block D (Array.getElem?_eq_some_iff.1 HK.out).1).trans HK.out)
    have hs8 : W.heap.size ≤ w8.heap.size := b8.size
    have hsW : W1.heap.size ≤ W.heap.size := HB.out.size
    have k0 := (HB10.out.below HB8.out).at 0
    have k1 := (HB10.out.below HB8.out).at 1
    have k2 := (HB10.out.below HB8.out).at 2
    have f0 := (HB10.out.below HB8.out).frozen 0
    have f1 := (HB10.out.below HB8.out).frozen 1
    have f2 := (HB10.out.below HB8.out).frozen 2
    have k3 := (HB11.out.below HB8.out).at 0
    have f3 := (HB11.out.below HB8.out).frozen 0
    have hl0 : w.heap.size < w8.heap.size := by omega
    have hl1 : w.heap.size + 1 < w8.heap.size := by omega
    clear b8 HNT u0 u1 u2
    by_cases htl : t = l
    rotate_left
    · have tq : ¬ (str t).toList = (str l).toList := by rw [HTT.out, HLT.out]; exact htl
      have tt : ((str t).toList == (str l).toList) = false := by rw [beq_eq_false_iff_ne]; exact tq
      have hnn : ni = none := by rw [HDEF3.out, if_neg (by rw [HT.out]; exact htl)]
      rcases HF.out _ HB8.out with h | h
      rotate_left
      · exact absurd hnn h
      obtain ⟨q1, q2, q3, q4⟩ := HNO.out hnn
      subst q1; subst q2; subst q3; subst q4
      have HST := Lib.hid h
      have hKf : (((((w8.setCell ⟨w.heap.size, 0, none⟩ (.int .i8 0)).setCell ⟨w.heap.size, 1, none⟩ (.int .i16 0)).setCell ⟨w.heap.size, 2, none⟩ (.slice none 0 0)).setCell ⟨w.heap.size + 1, 0, none⟩ (.int .i64 5))).heap[D]? = some (.deferred (some [])) := ((((KeepsOthers.setCell _ _ _).trans (KeepsOthers.setCell _ _ _)).trans (KeepsOthers.setCell _ _ _)).trans (KeepsOthers.setCell _ _ _)).same D _ HK8.out rfl
      have HKF := Lib.hid hKf
      clear h hnn htl hKf
      gi_wp2
      refine ⟨by simp, .inl ⟨_, _, rfl, run_takeDeferred HKF.out, ?_⟩⟩
      have kp2 := blkA_kept HST.out.2.1 (grownBy_putObj' _ D (.deferred none)) (fun r e => by cases e; exact ⟨_, HKF.out, rfl⟩)
      have kp3 := blkA_kept HST.out.2.2.1 (grownBy_putObj' _ D (.deferred none)) (fun r e => by cases e; exact ⟨_, HKF.out, rfl⟩)
      have z0 := kp2.at 0
      have z1 := kp2.at 1
      have z2 := kp2.at 2
      have z3 := kp3.at 0
      refine ⟨.tuple #[netV 0 0 (.slice none 0 0), .int .i64 5], by simp [results, Tryd.results51, go_sem, z0, z1, z2, z3], ⟨_, rfl, World.ownsRow_nil _ _ _ _, HST.out.2.2.2.trans (belowK_b (w := w) (Nat.le_refl _) _ D _ (.deferred none) (by omega) HKF.out rfl rfl)⟩⟩
    · have tt : ((str t).toList == (str l).toList) = true := by rw [htl]; simp
      have tq : (str t).toList = (str l).toList := by rw [htl]
      obtain ⟨q1, q2, q3, q4⟩ := HYES.out c0 c1 L (by rw [HDEF3.out, if_pos (by rw [HT.out]; exact htl)])
      subst q1; subst q2; subst q3; subst q4
      have h6 := (((HB10.out.below HB8.out).set 0 (.int .i8 rs)).set 1 (.int .i16 ry)).set 2 (.slice la m lc)
      have h7 : BlkA (((w8.setCell ⟨w.heap.size, 0, none⟩ (.int .i8 rs)).setCell ⟨w.heap.size, 1, none⟩ (.int .i16 ry)).setCell ⟨w.heap.size, 2, none⟩ (.slice la m lc)) (w.heap.size + 1) 2 #[.int .i64 0] := by
        have hne : ∀ i, w.heap.size + 1 ≠ (⟨w.heap.size, i, none⟩ : Addr).block := fun i => by show w.heap.size + 1 ≠ w.heap.size; omega
        unfold BlkA
        rw [heap_setCell_other _ _ _ _ (hne 2), heap_setCell_other _ _ _ _ (hne 1), heap_setCell_other _ _ _ _ (hne 0)]
        exact HB11.out.below HB8.out
      have H6 : Hid (BlkA ((((w8.setCell ⟨w.heap.size, 0, none⟩ (.int .i8 rs)).setCell ⟨w.heap.size, 1, none⟩ (.int .i16 ry)).setCell ⟨w.heap.size, 2, none⟩ (.slice la m lc)).setCell ⟨w.heap.size + 1, 0, none⟩ (.int .i64 0)) w.heap.size 72 #[.int .i8 rs, .int .i16 ry, .slice la m lc]) := Lib.hid (Eq.trans (heap_setCell_other _ _ _ _ (by show w.heap.size ≠ w.heap.size + 1; omega)) h6)
      have H7 := Lib.hid (h7.set 0 (.int .i64 0))
      have HBF : Hid (Below w.heap.size w ((((w8.setCell ⟨w.heap.size, 0, none⟩ (.int .i8 rs)).setCell ⟨w.heap.size, 1, none⟩ (.int .i16 ry)).setCell ⟨w.heap.size, 2, none⟩ (.slice la m lc)).setCell ⟨w.heap.size + 1, 0, none⟩ (.int .i64 0))) := Lib.hid (((((HB1.out.trans (HB8.out.mono (by omega))).setCell (by simp) _).setCell (by simp) _).setCell (by simp) _).setCell (by simp) _)
      have HOE : Hid (OwnLa 149 (w3.heap.size + 1 + 1) ((((w8.setCell ⟨w.heap.size, 0, none⟩ (.int .i8 rs)).setCell ⟨w.heap.size, 1, none⟩ (.int .i16 ry)).setCell ⟨w.heap.size, 2, none⟩ (.slice la m lc)).setCell ⟨w.heap.size + 1, 0, none⟩ (.int .i64 0)) (.slice la m lc) rl) := Lib.hid ((((HOW8.out.other _ _ (by show w.heap.size < w3.heap.size + 1 + 1; omega)).other _ _ (by show w.heap.size < w3.heap.size + 1 + 1; omega)).other _ _ (by show w.heap.size < w3.heap.size + 1 + 1; omega)).other _ _ (by show w.heap.size + 1 < w3.heap.size + 1 + 1; omega))
      have hKf : ((((w8.setCell ⟨w.heap.size, 0, none⟩ (.int .i8 rs)).setCell ⟨w.heap.size, 1, none⟩ (.int .i16 ry)).setCell ⟨w.heap.size, 2, none⟩ (.slice la m lc)).setCell ⟨w.heap.size + 1, 0, none⟩ (.int .i64 0)).heap[D]? = some (.deferred (some [])) := ((((KeepsOthers.setCell _ _ _).trans (KeepsOthers.setCell _ _ _)).trans (KeepsOthers.setCell _ _ _)).trans (KeepsOthers.setCell _ _ _)).same D _ HK8.out rfl
      have HKF := Lib.hid hKf
      have u0 := HBX8.out.at 0
      have u1 := HBX8.out.at 1
      have u2 := HBX8.out.at 2
      clear htl h6 h7 hKf
      gi_wp2
      refine ⟨by simp, .inl ⟨_, _, rfl, run_takeDeferred HKF.out, ?_⟩⟩
      have kp2 := blkA_kept H6.out (grownBy_putObj' _ D (.deferred none)) (fun r e => by cases e; exact ⟨_, HKF.out, rfl⟩)
      have kp3 := blkA_kept H7.out (grownBy_putObj' _ D (.deferred none)) (fun r e => by cases e; exact ⟨_, HKF.out, rfl⟩)
      have kp4 := row_kept HOE.out (grownBy_putObj' _ D (.deferred none)) (fun r e => by cases e; exact ⟨_, HKF.out, rfl⟩)
      have z0 := kp2.at 0
      have z1 := kp2.at 1
      have z2 := kp2.at 2
      have z3 := kp3.at 0
      refine ⟨.tuple #[netV rs ry (.slice la m lc), .int .i64 0], by simp [results, Tryd.results51, go_sem, z0, z1, z2, z3], ⟨_, rfl, OwnLa.mono kp4 (by omega), HBF.out.trans (belowK_b (w := w) (Nat.le_refl _) _ D _ (.deferred none) (by omega) HKF.out rfl rfl)⟩⟩
  case stop =>
    rintro D k W hD hk ⟨h1, h2, h3, h4⟩ hK
    obtain ⟨q1, q2, q3, q4⟩ := HNO.out (by rw [← HNI.out]; exact h1)
    subst q1; subst q2; subst q3; subst q4
    have HH2 := Lib.hid h2
    have HH3 := Lib.hid h3
    have HH4 := Lib.hid h4
    have hKf := hK
    clear h1 h2 h3 h4 hK
    gi_wp2
    refine ⟨by simp, .inl ⟨_, _, rfl, run_takeDeferred hKf, ?_⟩⟩
    have kp2 := blkA_kept HH2.out (grownBy_putObj' W D (.deferred none)) (fun r e => by cases e; exact ⟨_, hKf, rfl⟩)
    have kp3 := blkA_kept HH3.out (grownBy_putObj' W D (.deferred none)) (fun r e => by cases e; exact ⟨_, hKf, rfl⟩)
    have z0 := kp2.at 0
    have z1 := kp2.at 1
    have z2 := kp2.at 2
    have z3 := kp3.at 0
    refine ⟨.tuple #[netV 0 0 (.slice none 0 0), .int .i64 5], by simp [results, Tryd.results51, go_sem, z0, z1, z2, z3], ⟨_, rfl, World.ownsRow_nil _ _ _ _, HH4.out.trans (belowK_b (w := w) (Nat.le_refl _) W D _ (.deferred none) (by omega) hKf rfl rfl)⟩⟩
theorem irn_any (l : List UInt8) (hl : l.length ≤ 1048576) (w : World) (h : RdW w) :
    Calls Tryd.prog 51 #[.string (str l)] w (RetRn w (rnS l) (rnY l) (rnL l) (rnC l)) := callsIn_wide.1 (irn_in l hl w h)
end Go.Proofs.YtbclmafplaipaaaDoor
