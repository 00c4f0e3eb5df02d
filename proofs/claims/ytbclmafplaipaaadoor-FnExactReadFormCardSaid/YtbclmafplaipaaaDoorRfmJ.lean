/-
  Reading the text of a form: the program's ReadForm.
-/
import Derived.Test.YtbclmafplaipaaaDoorRfmI
import Derived.Test.YtbclmafplaipaaaDoorRfmT
import Derived.Test.YtbclmafplaipaaaDoorLnI
import Derived.Test.YtbclmafplaipaaaDoorFxI
import Derived.Test.YtbclmafplaipaaaDoorKeepO
namespace Go.Proofs.YtbclmafplaipaaaDoor
open Go Go.RowKit Go.Shelf
set_option linter.unusedVariables false
attribute [local go_sem] Oper.semAt_some

theorem OwnL.out {T : TypeId} {B lo hi : Nat} {w w' : World} {v : Value} {ps : List Ln4} (h : OwnL T B w v ps) (K : KeepsOut lo hi w w') (hd : ∀ k, v.ownBlock = some k → k < lo ∨ hi ≤ k) : OwnL T B w' v ps := row_out h K hd
theorem row_otherF {B n m : Nat} {T : TypeId} {w : World} {v : Value} {us : List Value} (h : w.ownsRow B T n v m us) (p : Addr) (u : Value) (hp : p.block < B) : (w.setCell p u).ownsRow B T n v m us := by
  refine ⟨h.1, ?_⟩
  rcases h.2 with hn | ⟨g, cap, cur, rfl, hB, hg, rest⟩
  · exact .inl hn
  · exact .inr ⟨g, cap, cur, rfl, hB, by rw [heap_setCell_other w p g u (by omega)]; exact hg, rest⟩
theorem keepsOthF_below {W V : World} (h : Below W.heap.size W V) : KeepsOthers W V := ⟨h.size, fun k o hk _ => (h.block k (Array.getElem?_eq_some_iff.1 hk).1).trans hk⟩
theorem keepsOthF_row {W V : World} {B n m : Nat} {T : TypeId} {v : Value} {xs : List Value} (hg : W.grownBy V v.ownBlock) (ho : W.ownsRow B T n v m xs) : KeepsOthers W V := KeepsOthers.of_grownBy hg (fun j o hj h' => by
  rcases ho.2 with ⟨rfl, _⟩ | ⟨g, cap', cur, rfl, _, hgb, _⟩
  · cases hj
  · simp [Value.ownBlock] at hj; subst hj; rw [hgb] at h'; cases h'; rfl)

/-- What holds when k lines have been read: the form so far, and what lay before. -/
def RfInv (W1 : World) (FB : Nat) (ls : List (List UInt8)) (k : Nat) (W : World) : Prop :=
  (∃ v L, mapO lineI (ls.take k) = some L ∧ FitsL L ∧ BlkA W FB 53 #[v] ∧ OwnL 124 (FB + 1 + 1) W v L) ∧ Below W1.heap.size W1 W ∧ FB + 1 + 1 ≤ W.heap.size
/-- What holds where a line was none. -/
def RfStop (w : World) (cs : List Ln4) (l : List UInt8) (k : Nat) (W : World) : Prop :=
  formI cs l = none ∧ BlkA W w.heap.size 53 #[.slice none 0 0] ∧ BlkA W (w.heap.size + 1) 2 #[.int .i64 5] ∧ Below w.heap.size w W
theorem rf_own {W1 : World} {FB B : Nat} {ls : List (List UInt8)} (h1 : W1.heap.size ≤ FB) (hB : FB + 1 < B) : BoxFree (FB + 1) B (RfInv W1 FB ls) := by
  rintro k W W' row ⟨⟨v, L, hm, hf, hbx, ho⟩, hb, hs⟩ hg hr
  have hNB : some FB ≠ row := fun e => by rcases hr FB e.symm with h | ⟨h, _⟩ <;> omega
  refine ⟨⟨v, L, hm, hf, (hg.block FB (BlkA.lt hbx) hNB).trans hbx, ?_⟩, hb.grown hg hb.size (fun r e => by rcases hr r e with h | ⟨h, _⟩ <;> omega), Nat.le_trans hs hg.size⟩
  refine OwnL.kept ho hg ?_
  rcases ho.2 with ⟨rfl, _⟩ | ⟨g, cap, cur, rfl, hB', hgb, rest⟩
  · exact .inl rfl
  · refine .inr fun e => ?_
    rcases hr g e.symm with h | ⟨h, o, ho', hc⟩
    · omega
    · rw [hgb] at ho'; cases ho'; cases hc
theorem rf_stop {w : World} {cs : List Ln4} {l : List UInt8} {B : Nat} (hB : w.heap.size ≤ B) : OwnFrom B (RfStop w cs l) := by
  rintro k W W' row ⟨h1, h2, h3, h4⟩ hg hr
  exact ⟨h1, blkA_kept h2 hg (fun r e => (hr r e).2), blkA_kept h3 hg (fun r e => (hr r e).2), below_kept h4 h4.size hB hg (fun r e => (hr r e).1)⟩

set_option maxHeartbeats 1600000 in
set_option maxRecDepth 100000 in
theorem irf_in (v0 : Value) (cs : List Ln4) (l : List UInt8) (w : World) (hv : ReadsC w v0 cs) (hfc : FitsC cs) (hx : cs.length ≤ 1048576) (hl : l.length ≤ 1048576) (h : RdW w) :
    CallsIn Fence.wide 9 Tryd.prog 39 #[v0, .string (str l)] w (RetRf w.heap.size w (rfL cs l) (rfC cs l)) := by
  obtain ⟨o0, ho0, oz0, oz1, oz2⟩ := info_parts infoR_L
  have hro : Fence.wide.round = none := rfl
  have hFF : ∀ f, Fence.wide.fn f := fun _ => trivial
  have HINV := Lib.hid (fun h => rf_inv (cs := cs) (text := l) h)
  have HNO : Hid (vldC cs = true → formI cs l = none → rfL cs l = [] ∧ rfC cs l = 5) := Lib.hid (fun hc h => rf_no hc (by rw [form_same hc]; exact h))
  have HYES : Hid (∀ L, vldC cs = true → formI cs l = some L → rfL cs l = L ∧ rfC cs l = 0) := Lib.hid (fun L hc h => rf_yes hc (by rw [form_same hc]; exact h))
  have HDEF : Hid (formI cs l = match mapO lineI (lns l) with
    | some L => if formT cs L = l then some L else none
    | none => none) := Lib.hid rfl
  obtain ⟨rl, hrl⟩ : ∃ r, rfL cs l = r := ⟨_, rfl⟩
  obtain ⟨rc, hrc⟩ : ∃ r, rfC cs l = r := ⟨_, rfl⟩
  rw [hrl, hrc] at HINV HNO HYES ⊢
  have B10 : BlkA ((w.alloc (.cells #[.slice none 0 0] 53)).alloc (.cells #[.int .i64 0] 2)) w.heap.size 53 #[.slice none 0 0] := (BlkA.new rfl _ _).alloc _
  have B11 : BlkA ((w.alloc (.cells #[.slice none 0 0] 53)).alloc (.cells #[.int .i64 0] 2)) (w.heap.size + 1) 2 #[.int .i64 0] := BlkA.new (by simp) _ _
  have b1 : Below w.heap.size w ((w.alloc (.cells #[.slice none 0 0] 53)).alloc (.cells #[.int .i64 0] 2)) := ((Below.refl _ _).alloc (Nat.le_refl _) _).alloc (by simp) _
  obtain ⟨W1, hW1⟩ : ∃ W, (w.alloc (.cells #[.slice none 0 0] 53)).alloc (.cells #[.int .i64 0] 2) = W := ⟨_, rfl⟩
  have HW1 := Lib.hid hW1
  rw [hW1] at B10 B11 b1
  have HB10 := Lib.hid B10
  have HB11 := Lib.hid B11
  have HB1 := Lib.hid b1
  have hs1 : w.heap.size + 1 < W1.heap.size := B11.lt
  have HR1 := Lib.hid (h.below b1)
  have HV := Lib.hid hv
  have HVL := Lib.hid (ivldC_any v0 cs W1 (hv.below b1) hfc hx)
  have HFX := Lib.hid (fun (W : World) (u : Value) (L : List Ln4) (hb : Below w.heap.size w W) (hu : ReadsL W u L) (hf : FitsL L) (hn : L.length ≤ 1048576) (hp : PowTab W) => iform_any v0 u cs L W (hv.below hb) hu hfc hf hx hn hp)
  obtain ⟨ni, hni⟩ : ∃ r, formI cs l = r := ⟨_, rfl⟩
  have HNI := Lib.hid hni
  rw [hni] at HNO HYES HDEF
  clear hrl hrc h hW1 B10 B11 b1 hni hv hfc hx
  refine callsIn_of_wp_marks Tryd.func39 rfl trivial ?_ hro
  simp only [Tryd.ntmps39, List.size_toArray, List.length_cons, List.length_nil, Nat.reduceAdd, Nat.reduceSub, Array.replicate_succ, Array.replicate_zero, List.push_toArray, List.append_toArray, List.nil_append, List.cons_append]
  gi_wp2
  rw [HW1.out]
  refine ((callsIn_wide (n := _)).2 HVL.out).mono ?_
  rintro e w3 ⟨rfl, b3⟩
  have HR3 := Lib.hid (HR1.out.below b3)
  have HB3 := Lib.hid b3
  have hs3 : W1.heap.size ≤ w3.heap.size := b3.size
  clear b3 HVL
  -- what the two results hold in any later world
  have HSETS : Hid (∀ (W : World) (v : Value) (c : Int), Below W1.heap.size W1 W →
      BlkA ((W.setCell ⟨w.heap.size, 0, none⟩ (v)).setCell ⟨w.heap.size + 1, 0, none⟩ (.int .i64 c)) w.heap.size 53 #[v] ∧ BlkA ((W.setCell ⟨w.heap.size, 0, none⟩ (v)).setCell ⟨w.heap.size + 1, 0, none⟩ (.int .i64 c)) (w.heap.size + 1) 2 #[.int .i64 c] ∧ Below w.heap.size w ((W.setCell ⟨w.heap.size, 0, none⟩ (v)).setCell ⟨w.heap.size + 1, 0, none⟩ (.int .i64 c))) := Lib.hid (fun W v c hW => by
    refine ⟨?_, ?_, ?_⟩
    · have h0 := (HB10.out.below hW).set 0 v
      refine Eq.trans ?_ h0
      exact heap_setCell_other _ _ _ _ (by show w.heap.size ≠ w.heap.size + 1; omega)
    · have h0 : BlkA (W.setCell ⟨w.heap.size, 0, none⟩ v) (w.heap.size + 1) 2 #[.int .i64 0] := by
        unfold BlkA
        rw [heap_setCell_other _ _ _ _ (by show w.heap.size + 1 ≠ w.heap.size; omega)]
        exact HB11.out.below hW
      exact h0.set 0 (.int .i64 c)
    · exact ((HB1.out.trans (hW.mono (by omega))).setCell (by simp) _).setCell (by simp) _)
  have HF : Hid (∀ W, Below W1.heap.size W1 W → ni = none → RfStop w cs l 0 ((W.setCell ⟨w.heap.size, 0, none⟩ (.slice none 0 0)).setCell ⟨w.heap.size + 1, 0, none⟩ (.int .i64 5))) := Lib.hid (fun W hW hn => by
    obtain ⟨g1, g2, g3⟩ := HSETS.out W (.slice none 0 0) 5 hW
    exact ⟨by rw [HNI.out]; exact hn, g1, g2, g3⟩)
  cases hvc : vldC cs with
  | false =>
    obtain ⟨q1, q2⟩ := HINV.out hvc
    subst q1; subst q2
    obtain ⟨g1, g2, g3⟩ := HSETS.out w3 (.slice none 0 0) 1 HB3.out
    have G1 := Lib.hid g1
    have G2 := Lib.hid g2
    have G3 := Lib.hid g3
    have k0 := (HB10.out.below HB3.out).at 0
    have f0 := (HB10.out.below HB3.out).frozen 0
    have k3 := (HB11.out.below HB3.out).at 0
    have f3 := (HB11.out.below HB3.out).frozen 0
    clear g1 g2 g3 hvc
    gi_wp2
    have z0 := G1.out.at 0
    have z3 := G2.out.at 0
    refine ⟨.tuple #[.slice none 0 0, .int .i64 1], by simp [results, Tryd.results39, go_sem, z0, z3], ⟨_, rfl, World.ownsRow_nil _ _ _ _, G3.out⟩⟩
  | true =>
  have HVC := Lib.hid hvc
  clear hvc
  gi_wp2
  refine (lines_in _ (str l) _).mono ?_
  rintro e W5 ⟨rfl, e5⟩
  have hz6 : (w3.alloc (.cells #[.slice none 0 0] 53)).heap.size = w3.heap.size + 1 := by simp
  rw [hz6]
  have bn5 : BlkA W5 w3.heap.size 53 #[.slice none 0 0] := by rw [e5]; exact (BlkA.new rfl _ _).alloc _
  have bs5 : BlkA W5 (w3.heap.size + 1) 9 #[.string (str l)] := by rw [e5]; exact BlkA.new (by simp) _ _
  have b35 : Below w3.heap.size w3 W5 := by rw [e5]; exact ((Below.refl _ _).alloc (Nat.le_refl _) _).alloc (by simp) _
  have HN5 := Lib.hid bn5
  have HS5 := Lib.hid bs5
  have HB5 := Lib.hid (HB3.out.trans (b35.mono hs3))
  have hs5 : w3.heap.size + 1 < W5.heap.size := bs5.lt
  have HSEQ := Lib.hid (lines_box (w3.heap.size + 1) l hl W5 bs5)
  clear e5 hz6 bn5 bs5 b35
  gi_wp2
  refine wpIn_rangeFunc_box hro (by omega) (gf := 130) (lb := #[.pointer (some ⟨w3.heap.size + 1, 0, none⟩)]) rfl (hFF _) (enters_of Tryd.func130 (by kernel_rfl) rfl)
    HSEQ.out hs5 (Below.refl _ _) (fun _ => rfl) (RfInv W1 w3.heap.size (lns l)) (RfStop w cs l) (rf_own (by omega) (by omega)) (rf_stop (by omega))
    ⟨⟨_, [], rfl, (fun p hp => by cases hp), HN5.out, World.ownsRow_nil _ _ _ _⟩, HB5.out, by omega⟩ ?act ?assign ?body ?done ?stop
  case assign =>
    intro l x W K hK
    gi_wp2
    exact hK
  case body =>
    rintro l0 k W ⟨⟨v, L, hm, hfit, hbx, how⟩, hb, hsz⟩ hk
    obtain ⟨lk, hlk⟩ : ∃ lk, lnN (rsK l k) = lk := ⟨_, rfl⟩
    obtain ⟨t, ht⟩ : ∃ t, trimS lk = t := ⟨_, rfl⟩
    have hlkl : lk.length ≤ 1048576 := by rw [← hlk]; exact Nat.le_trans (lnN_len _) (Nat.le_trans (rsK_len l k) hl)
    have htl : t.length ≤ 1048576 := by rw [← ht]; exact Nat.le_trans (trimS_len lk) hlkl
    have hat : (lns l)[k] = t := by rw [← ht, ← hlk, ln_at hk]; simp [List.getD, hk]
    have HTK : Hid ((lns l).take (k + 1) = (lns l).take k ++ [t]) := Lib.hid (by rw [List.take_succ_eq_append_getElem hk, hat])
    have HBAD : Hid (lineI t = none → ni = none) := Lib.hid (fun h => by rw [HDEF.out, mapO_stopF h (by rw [← hat]; exact List.getElem_mem hk)])
    have hnk : (lns l).length ≤ 1048576 := Nat.le_trans (lns_len _ l (Nat.le_refl _)) hl
    have HTRM := Lib.hid (itrim_any lk hlkl W)
    have HLA := Lib.hid (ireadFL_any t htl W (HR1.out.below' hb))
    have hLm : L.length ≤ 1048576 := by rw [mapO_lenF hm, List.length_take]; omega
    rw [ht] at HTRM
    rw [hlk]
    obtain ⟨la, lc, hlv⟩ := own_is how
    subst hlv
    obtain ⟨m, hmm⟩ : ∃ m, L.length = m := ⟨_, rfl⟩
    rw [hmm] at hbx how hLm
    have HMM := Lib.hid hmm
    have HM := Lib.hid hm
    have HFIT := Lib.hid hfit
    have HBX := Lib.hid hbx
    have HOW := Lib.hid how
    have HB := Lib.hid hb
    clear hlk ht hat hm hfit hbx how hb hmm hnk hk hlkl htl
    gi_wp2
    refine (CallsIn.inRound l0 ((callsIn_wide (n := _)).2 HTRM.out)).mono ?_
    rintro e w6 ⟨rfl, rfl⟩
    gi_wp2
    refine (CallsIn.inRound l0 ((callsIn_wide (n := _)).2 HLA.out)).mono ?_
    rintro e w7 ⟨a0, a1, a2, a3, ok, rfl, hft, hst, b7⟩
    have HFT := Lib.hid hft
    have HST := Lib.hid hst
    have HB7 := Lib.hid b7
    have HBX7 := Lib.hid (HBX.out.below b7)
    have HB17 := Lib.hid (HB.out.trans (b7.mono (by have := HB.out.size; omega)))
    have hs7 : W.heap.size ≤ w7.heap.size := b7.size
    have hsW : W1.heap.size ≤ W.heap.size := HB.out.size
    have hl0 : w.heap.size < w7.heap.size := by omega
    have hl1 : w.heap.size + 1 < w7.heap.size := by omega
    have hl3 : w3.heap.size < w7.heap.size := by omega
    clear hft hst b7 HTRM HLA
    rcases HST.out with ⟨rfl, hla⟩ | ⟨rfl, hla⟩
    · have HM2 : Hid (mapO lineI ((lns l).take (k + 1)) = some (L ++ [(a0, a1, a2, a3)])) := Lib.hid (by rw [HTK.out, mapO_snocF HM.out, hla]; rfl)
      have HFIT2 : Hid (FitsL (L ++ [(a0, a1, a2, a3)])) := Lib.hid (fun q hq => by
        rcases List.mem_append.1 hq with hq | hq
        · exact HFIT.out q hq
        · have e : q = (a0, a1, a2, a3) := by simpa using hq
          subst e; exact HFT.out)
      have HOA : Hid (((w7.alloc (.cells #[.int .i8 a0, .int .i16 a1, .int .i32 a2, .int .i32 a3] 124)).alloc (.cells #[.int .i8 a0, .int .i16 a1, .int .i32 a2, .int .i32 a3] 124)).ownsRow (w3.heap.size + 1 + 1) 124 4 (.slice la m lc) m (flatL L)) := Lib.hid (by
        have h := World.ownsRow.alloc (World.ownsRow.alloc (show w7.ownsRow (w3.heap.size + 1 + 1) 124 4 (.slice la m lc) L.length (flatL L) from OwnL.below HOW.out HB7.out) (.cells #[.int .i8 a0, .int .i16 a1, .int .i32 a2, .int .i32 a3] 124)) (.cells #[.int .i8 a0, .int .i16 a1, .int .i32 a2, .int .i32 a3] 124)
        rw [HMM.out] at h
        exact h)
      have HNEW : Hid (∀ j u, ([Value.int .i8 a0, .int .i16 a1, .int .i32 a2, .int .i32 a3] : List Value)[j]? = some u → ((w7.alloc (.cells #[.int .i8 a0, .int .i16 a1, .int .i32 a2, .int .i32 a3] 124)).alloc (.cells #[.int .i8 a0, .int .i16 a1, .int .i32 a2, .int .i32 a3] 124)).cell? (Addr.add ⟨w7.heap.size + 1, 0, none⟩ j) = some u) := Lib.hid (by
        have h := @newF (w7.alloc (.cells #[.int .i8 a0, .int .i16 a1, .int .i32 a2, .int .i32 a3] 124)) (.int .i8 a0) (.int .i16 a1) (.int .i32 a2) (.int .i32 a3) 124
        rw [World.size_alloc] at h
        exact h)
      have HBA : Hid (Below W1.heap.size W1 ((w7.alloc (.cells #[.int .i8 a0, .int .i16 a1, .int .i32 a2, .int .i32 a3] 124)).alloc (.cells #[.int .i8 a0, .int .i16 a1, .int .i32 a2, .int .i32 a3] 124))) := Lib.hid ((HB17.out.alloc (by omega) _).alloc (by simp; omega) _)
      have HBXA := Lib.hid ((HBX7.out.alloc (.cells #[.int .i8 a0, .int .i16 a1, .int .i32 a2, .int .i32 a3] 124)).alloc (.cells #[.int .i8 a0, .int .i16 a1, .int .i32 a2, .int .i32 a3] 124))
      have HKO : Hid (KeepsOthers W ((w7.alloc (.cells #[.int .i8 a0, .int .i16 a1, .int .i32 a2, .int .i32 a3] 124)).alloc (.cells #[.int .i8 a0, .int .i16 a1, .int .i32 a2, .int .i32 a3] 124))) := Lib.hid (((keepsOthF_below HB7.out).trans (KeepsOthers.alloc _ _)).trans (KeepsOthers.alloc _ _))
      have HKB : Hid (KpBox (w3.heap.size + 1) W ((w7.alloc (.cells #[.int .i8 a0, .int .i16 a1, .int .i32 a2, .int .i32 a3] 124)).alloc (.cells #[.int .i8 a0, .int .i16 a1, .int .i32 a2, .int .i32 a3] 124))) := Lib.hid (KpBox.below ((HB7.out.alloc hs7 _).alloc (by simp; omega) _) (by omega))
      have u2 := HBX7.out.at 0
      have uf2 := HBX7.out.frozen 0
      clear hla HST HBAD HFIT HM HFT
      gi_wp2_with (gi_at_builtin; refine wpListIn_append_own _ rfl _ _ 53 rfl (w3.heap.size + 1 + 1) 124 o0 (.agg #[.int .i8 0, .int .i16 0, .int .i32 0, .int .i32 0]) 4 12 Tryd.underlying53 ho0 oz0 oz1 oz2 rfl (by decide) _ _ _ rfl HOA.out ⟨w7.heap.size + 1, 0, none⟩ 1 1 [.int .i8 a0, .int .i16 a1, .int .i32 a2, .int .i32 a3] rfl rfl HNEW.out onesF ?c3 ?c4 ?c5 ?_)
      case c3 => unfold maxLen; omega
      case c4 => omega
      case c5 => first | omega | (simp; omega)
      intro v' w9 hown' hgrow _
      obtain ⟨a9, c9, hv9⟩ := own_is hown'
      subst hv9
      have hbx9 : BlkA w9 w3.heap.size 53 #[.slice la m lc] := (hgrow.block w3.heap.size HBXA.out.lt (fun e => by have := (HOA.out.lt w3.heap.size e.symm).1; omega)).trans HBXA.out
      have hbxe : BlkA (w9.setCell ⟨w3.heap.size, 0, none⟩ (.slice a9 (m + 1) c9)) w3.heap.size 53 #[.slice a9 (m + 1) c9] := hbx9.set 0 (.slice a9 (m + 1) c9)
      have HB9 : Hid (Below W1.heap.size W1 (w9.setCell ⟨w3.heap.size, 0, none⟩ (.slice a9 (m + 1) c9))) := Lib.hid ((HBA.out.grown hgrow (by simp; omega) (fun j e => by have := (HOA.out.lt j e).1; omega)).setCell (by show W1.heap.size ≤ w3.heap.size; omega) _)
      have HOE : Hid (OwnL 124 (w3.heap.size + 1 + 1) (w9.setCell ⟨w3.heap.size, 0, none⟩ (.slice a9 (m + 1) c9)) (.slice a9 (m + 1) c9) (L ++ [(a0, a1, a2, a3)])) := Lib.hid (by
        have ho : OwnL 124 (w3.heap.size + 1 + 1) w9 (.slice a9 (m + 1) c9) (L ++ [(a0, a1, a2, a3)]) := by
          unfold OwnL
          rw [List.length_append, HMM.out, flatL_append]
          exact hown'
        exact row_otherF ho _ _ (by show w3.heap.size < w3.heap.size + 1 + 1; omega))
      have HKO9 : Hid (KeepsOthers W (w9.setCell ⟨w3.heap.size, 0, none⟩ (.slice a9 (m + 1) c9))) := Lib.hid ((HKO.out.trans (keepsOthF_row hgrow HOA.out)).trans (KeepsOthers.setCell _ _ _))
      have HKB9 : Hid (KpBox (w3.heap.size + 1) W (w9.setCell ⟨w3.heap.size, 0, none⟩ (.slice a9 (m + 1) c9))) := Lib.hid ((HKB.out.trans (KpBox.grown hgrow (fun e => by have := (HOA.out.lt _ e).1; omega))).trans (fun o ho => (heap_setCell_other w9 ⟨w3.heap.size, 0, none⟩ (w3.heap.size + 1) _ (by show w3.heap.size + 1 ≠ w3.heap.size; omega)).trans ho))
      have HFIN : Hid (RfInv W1 w3.heap.size (lns l) (k + 1) (w9.setCell ⟨w3.heap.size, 0, none⟩ (.slice a9 (m + 1) c9))) := Lib.hid ⟨⟨_, _, HM2.out, HFIT2.out, hbxe, HOE.out⟩, HB9.out, by have := hgrow.size; simp at this ⊢; omega⟩
      have p2 := hbx9.at 0
      have pf2 := hbx9.frozen 0
      clear hown' hgrow hbx9 hbxe u2 uf2
      gi_wp2
      exact ⟨HKO9.out.from _, HKB9.out, HFIN.out⟩
    · have hnn : ni = none := HBAD.out hla
      have h := HF.out _ HB17.out hnn
      have HSTP := Lib.hid ((rf_stop (Nat.le_refl _)).alloc (.cells #[.int .i8 a0, .int .i16 a1, .int .i32 a2, .int .i32 a3] 124) h)
      have HKO : Hid (KeepsOthers W (((w7.setCell ⟨w.heap.size, 0, none⟩ (.slice none 0 0)).setCell ⟨w.heap.size + 1, 0, none⟩ (.int .i64 5)).alloc (.cells #[.int .i8 a0, .int .i16 a1, .int .i32 a2, .int .i32 a3] 124))) := Lib.hid ((((keepsOthF_below HB7.out).trans (KeepsOthers.setCell _ _ _)).trans (KeepsOthers.setCell _ _ _)).trans (KeepsOthers.alloc _ _))
      have k0 := (HB10.out.below HB17.out).at 0
      have f0 := (HB10.out.below HB17.out).frozen 0
      have k3 := (HB11.out.below HB17.out).at 0
      have f3 := (HB11.out.below HB17.out).frozen 0
      clear h hla hnn HST HBAD HFIT HM HFT
      gi_wp2
      exact ⟨HKO.out.from _, HSTP.out⟩
  case done =>
    rintro D W hD ⟨⟨v, L, hm, hfit, hbx, how⟩, hb, hsz⟩ hK
    rw [List.take_length] at hm
    have HDEF3 : Hid (ni = if formT cs L = l then some L else none) := Lib.hid (by rw [HDEF.out, hm])
    have hLl : L.length ≤ 1048576 := by rw [mapO_lenF hm]; exact Nat.le_trans (lns_len _ l (Nat.le_refl _)) hl
    have hbw : Below w.heap.size w W := HB1.out.trans (hb.mono (by omega))
    have HNT := Lib.hid (HFX.out W v L hbw how.reads hfit hLl (HR1.out.below' hb).2.2.2)
    obtain ⟨t, ht⟩ : ∃ t, formT cs L = t := ⟨_, rfl⟩
    have HT := Lib.hid ht
    rw [ht] at HNT
    have HTT : Hid ((str t).toList = t) := Lib.hid (by unfold str; exact ByteArray.toList_mk t)
    have HLT : Hid ((str l).toList = l) := Lib.hid (by unfold str; exact ByteArray.toList_mk l)
    obtain ⟨la, lc, hlv⟩ := own_is how
    subst hlv
    obtain ⟨m, hmm⟩ : ∃ m, L.length = m := ⟨_, rfl⟩
    rw [hmm] at hbx how HNT
    have HBX := Lib.hid hbx
    have HOW := Lib.hid how
    have HB := Lib.hid hb
    have HK := Lib.hid hK
    have u0 := hbx.at 0
    clear hm hfit hbx how hb hK hLl ht hmm hbw
    gi_wp2
    refine ((callsIn_wide (n := _)).2 HNT.out).mono ?_
    rintro e w8 ⟨rfl, b8⟩
    have HB8 := Lib.hid (HB.out.trans (b8.mono (by have := HB.out.size; omega)))
    have HBX8 := Lib.hid (HBX.out.below b8)
    have HOW8 := Lib.hid (OwnL.below HOW.out b8)
    have HK8 : Hid (w8.heap[D]? = some (.deferred (some []))) := Lib.hid ((b8.block D (Array.getElem?_eq_some_iff.1 HK.out).1).trans HK.out)
    have hs8 : W.heap.size ≤ w8.heap.size := b8.size
    have hsW : W1.heap.size ≤ W.heap.size := HB.out.size
    have k0 := (HB10.out.below HB8.out).at 0
    have f0 := (HB10.out.below HB8.out).frozen 0
    have k3 := (HB11.out.below HB8.out).at 0
    have f3 := (HB11.out.below HB8.out).frozen 0
    have hl0 : w.heap.size < w8.heap.size := by omega
    have hl1 : w.heap.size + 1 < w8.heap.size := by omega
    clear b8 HNT u0
    by_cases htl : t = l
    rotate_left
    · have tq : ¬ (str t).toList = (str l).toList := by rw [HTT.out, HLT.out]; exact htl
      have tt : ((str t).toList == (str l).toList) = false := by rw [beq_eq_false_iff_ne]; exact tq
      have hnn : ni = none := by rw [HDEF3.out, if_neg (by rw [HT.out]; exact htl)]
      have h := HF.out _ HB8.out hnn
      obtain ⟨q1, q2⟩ := HNO.out HVC.out hnn
      subst q1; subst q2
      have HST := Lib.hid h
      have hKf : ((w8.setCell ⟨w.heap.size, 0, none⟩ (.slice none 0 0)).setCell ⟨w.heap.size + 1, 0, none⟩ (.int .i64 5)).heap[D]? = some (.deferred (some [])) := ((KeepsOthers.setCell _ _ _).trans (KeepsOthers.setCell _ _ _)).same D _ HK8.out rfl
      have HKF := Lib.hid hKf
      clear h hnn htl hKf
      gi_wp2
      refine ⟨by simp, .inl ⟨_, _, rfl, run_takeDeferred HKF.out, ?_⟩⟩
      have kp2 := blkA_kept HST.out.2.1 (grownBy_putObj' _ D (.deferred none)) (fun r e => by cases e; exact ⟨_, HKF.out, rfl⟩)
      have kp3 := blkA_kept HST.out.2.2.1 (grownBy_putObj' _ D (.deferred none)) (fun r e => by cases e; exact ⟨_, HKF.out, rfl⟩)
      have z0 := kp2.at 0
      have z3 := kp3.at 0
      refine ⟨.tuple #[.slice none 0 0, .int .i64 5], by simp [results, Tryd.results39, go_sem, z0, z3], ⟨_, rfl, World.ownsRow_nil _ _ _ _, HST.out.2.2.2.trans (belowK_b (w := w) (Nat.le_refl _) _ D _ (.deferred none) (by omega) HKF.out rfl rfl)⟩⟩
    · have tt : ((str t).toList == (str l).toList) = true := by rw [htl]; simp
      have tq : (str t).toList = (str l).toList := by rw [htl]
      obtain ⟨q1, q2⟩ := HYES.out L HVC.out (by rw [HDEF3.out, if_pos (by rw [HT.out]; exact htl)])
      subst q1; subst q2
      obtain ⟨g1, g2, g3⟩ := HSETS.out w8 (.slice la m lc) 0 HB8.out
      have H6 := Lib.hid g1
      have H7 := Lib.hid g2
      have HBF := Lib.hid g3
      have HOE : Hid (OwnL 124 (w3.heap.size + 1 + 1) ((w8.setCell ⟨w.heap.size, 0, none⟩ (.slice la m lc)).setCell ⟨w.heap.size + 1, 0, none⟩ (.int .i64 0)) (.slice la m lc) rl) := Lib.hid (row_otherF (row_otherF HOW8.out _ _ (by show w.heap.size < w3.heap.size + 1 + 1; omega)) _ _ (by show w.heap.size + 1 < w3.heap.size + 1 + 1; omega))
      have hKf : ((w8.setCell ⟨w.heap.size, 0, none⟩ (.slice la m lc)).setCell ⟨w.heap.size + 1, 0, none⟩ (.int .i64 0)).heap[D]? = some (.deferred (some [])) := ((KeepsOthers.setCell _ _ _).trans (KeepsOthers.setCell _ _ _)).same D _ HK8.out rfl
      have HKF := Lib.hid hKf
      have u0 := HBX8.out.at 0
      clear htl g1 g2 g3 hKf
      gi_wp2
      refine ⟨by simp, .inl ⟨_, _, rfl, run_takeDeferred HKF.out, ?_⟩⟩
      have kp2 := blkA_kept H6.out (grownBy_putObj' _ D (.deferred none)) (fun r e => by cases e; exact ⟨_, HKF.out, rfl⟩)
      have kp3 := blkA_kept H7.out (grownBy_putObj' _ D (.deferred none)) (fun r e => by cases e; exact ⟨_, HKF.out, rfl⟩)
      have kp4 := row_kept HOE.out (grownBy_putObj' _ D (.deferred none)) (fun r e => by cases e; exact ⟨_, HKF.out, rfl⟩)
      have z0 := kp2.at 0
      have z3 := kp3.at 0
      refine ⟨.tuple #[.slice la m lc, .int .i64 0], by simp [results, Tryd.results39, go_sem, z0, z3], ⟨_, rfl, OwnL.mono kp4 (by omega), HBF.out.trans (belowK_b (w := w) (Nat.le_refl _) _ D _ (.deferred none) (by omega) HKF.out rfl rfl)⟩⟩
  case stop =>
    rintro D k W hD hk ⟨h1, h2, h3, h4⟩ hK
    obtain ⟨q1, q2⟩ := HNO.out HVC.out (by rw [← HNI.out]; exact h1)
    subst q1; subst q2
    have HH2 := Lib.hid h2
    have HH3 := Lib.hid h3
    have HH4 := Lib.hid h4
    have hKf := hK
    clear h1 h2 h3 h4 hK
    gi_wp2
    refine ⟨by simp, .inl ⟨_, _, rfl, run_takeDeferred hKf, ?_⟩⟩
    have kp2 := blkA_kept HH2.out (grownBy_putObj' W D (.deferred none)) (fun r e => by cases e; exact ⟨_, hKf, rfl⟩)
    have kp3 := blkA_kept HH3.out (grownBy_putObj' W D (.deferred none)) (fun r e => by cases e; exact ⟨_, hKf, rfl⟩)
    have z0 := kp2.at 0
    have z3 := kp3.at 0
    refine ⟨.tuple #[.slice none 0 0, .int .i64 5], by simp [results, Tryd.results39, go_sem, z0, z3], ⟨_, rfl, World.ownsRow_nil _ _ _ _, HH4.out.trans (belowK_b (w := w) (Nat.le_refl _) W D _ (.deferred none) (by omega) hKf rfl rfl)⟩⟩
theorem irf_any (v0 : Value) (cs : List Ln4) (l : List UInt8) (w : World) (hv : ReadsC w v0 cs) (hfc : FitsC cs) (hx : cs.length ≤ 1048576) (hl : l.length ≤ 1048576) (h : RdW w) :
    Calls Tryd.prog 39 #[v0, .string (str l)] w (RetRf w.heap.size w (rfL cs l) (rfC cs l)) := callsIn_wide.1 (irf_in v0 cs l w hv hfc hx hl h)
end Go.Proofs.YtbclmafplaipaaaDoor
