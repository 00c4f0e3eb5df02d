/-
  slices.AppendSeq and slices.Collect over the iterator of turns.
-/
import Derived.Test.YtkhemijanhcibabTurnIt2
import Derived.Test.YtkhemijanhcibabSTurns
import Derived.Test.YtkhemijanhcibabTripTo
import Derived.Test.YtkhemijanhcibabMBox
import Derived.Test.YtkhemijanhcibabBoxF
import Derived.Outline
namespace Go.Proofs.Ytkhemijanhcibab
open Go Go.RowKit Go.Shelf
set_option linter.unusedVariables false
attribute [local go_sem] Oper.semAt_some

theorem turn_in2 (n : Nat) (hn : 3 ≤ n) (Bs : Nat) (a b c : Int) (hok : okB a b c = true) (w : World) (hBs : At3 w Bs a b c) :
    SeqIn Fence.wide n Try.prog 68 #[.pointer (some ⟨Bs, 0, none⟩)] encT (fun xs => xs.map (fun t : Turn => t.1) = turnsL (lo3 a b c) (mi3 a b c) (hi3 a b c)) 6 w := fun l J W hW hJ hY h0 =>
  turn2_in n hn l Bs a b c hok J W hJ hY (by
    have hlt := World.block_lt_of_cell? w _ hBs.1
    exact ⟨(hW.cell (p := ⟨Bs, 0, none⟩) hlt).trans hBs.1, (hW.cell (p := ⟨Bs, 1, none⟩) hlt).trans hBs.2.1, (hW.cell (p := ⟨Bs, 2, none⟩) hlt).trans hBs.2.2⟩) h0

def TurnList (l : List Turn) : List Tri := l.map (fun t => t.1)
theorem TurnList_snoc (l : List Turn) (x : Turn) : TurnList (l ++ [x]) = TurnList l ++ [x.1] := by simp [TurnList]
theorem TurnList_len (l : List Turn) : (TurnList l).length = l.length := by simp [TurnList]

set_option maxHeartbeats 2000000 in
set_option maxRecDepth 100000 in
theorem appendSeq_in (Bs : Nat) (a b c : Int) (hok : okB a b c = true) (w : World) (hBs : At3 w Bs a b c) :
    CallsIn Fence.wide 5 Try.prog 70 #[.slice none 0 0, .func (.func 68) #[] #[.pointer (some ⟨Bs, 0, none⟩)]] w fun e w' => ∃ v, e = .returned v ∧ OwnB 25 w.heap.size w' v (turnsL (lo3 a b c) (mi3 a b c) (hi3 a b c)) ∧ Below w.heap.size w w' := by
  have hro : Fence.wide.round = none := rfl
  have hFF : ∀ f, Fence.wide.fn f := fun _ => trivial
  obtain ⟨i0, hi, hz0, hz1, hz2⟩ := info_parts info_box
  have HBS := Lib.hid hBs
  have HOK := Lib.hid hok
  clear hBs hok
  refine callsIn_of_wp_marks Try.func70 rfl (hFF _) ?_ hro
  simp only [Try.ntmps70, List.size_toArray, List.length_cons, List.length_nil, Nat.reduceAdd, Nat.reduceSub, Array.replicate_succ, Array.replicate_zero, List.push_toArray, List.append_toArray, List.nil_append, List.cons_append]
  gi_wp2
  obtain ⟨W1, e1⟩ : ∃ V, w.alloc (.cells #[.slice none 0 0] 31) = V := ⟨_, rfl⟩
  have s1 : W1.heap.size = w.heap.size + 1 := by rw [← e1]; simp
  have x1 : Boxed W1 w.heap.size 31 (.slice none 0 0) := by rw [← e1]; exact Boxed.new w _ _
  have b1 : Below w.heap.size w W1 := by rw [← e1]; exact (Below.refl _ _).alloc (Nat.le_refl _) _
  have q1 : At3 W1 Bs a b c := by rw [← e1]; exact HBS.out.alloc _
  rw [e1]
  clear e1
  refine wpIn_range_inA (α := Turn) hro (by omega) (gf := 68) (lb := #[.pointer (some ⟨Bs, 0, none⟩)]) rfl (hFF _) (enters_of Try.func68 (by kernel_rfl) rfl)
    (turn_in2 4 (by omega) Bs a b c HOK.out W1 q1) (Below.refl _ _) (fun _ => rfl)
    (fun C pre W => (∃ v, Boxed W w.heap.size 31 v ∧ OwnB 25 C W v (TurnList pre)) ∧ W1.heap.size ≤ C ∧ C ≤ W.heap.size ∧ Below w.heap.size w W)
    (fun C s A B row hs hg hr => by
      obtain ⟨⟨v, h1, h2⟩, h3, h4, h5⟩ := hs
      have hrow : ∀ k, (k < W1.heap.size ∨ C ≤ k) → some k ≠ row := fun k hk e => by have := hr k e.symm; omega
      refine ⟨⟨v, (hg.block _ (Array.getElem?_eq_some_iff.1 h1).1 (hrow _ (.inl (by omega)))).trans h1, h2.kept hg ?_⟩, h3, Nat.le_trans h4 hg.size, h5.grown hg (by omega) (fun k e => by have := hr k e; omega)⟩
      cases hv : v.ownBlock with
      | none => exact .inl rfl
      | some k => exact .inr (hrow k (.inr (h2.block k hv).1)))
    (fun Wc hb => ⟨⟨_, (hb.block _ (by omega : w.heap.size < W1.heap.size)).trans x1, by unfold OwnB TurnList; exact World.ownsRow_nil _ _ _ _⟩, hb.size, Nat.le_refl _, blink b1 hb⟩)
    (fun x b' => { tmps := #[.slice none 0 0, .func (.func 68) #[] #[.pointer (some ⟨Bs, 0, none⟩)], .pointer (some ⟨w.heap.size, 0, none⟩), undef, .slice none 0 0, .pointer (some ⟨b', 0, none⟩), .func (.func 68) #[] #[.pointer (some ⟨Bs, 0, none⟩)], .agg #[.int .i8 x.1.1, .int .i8 x.1.2.1, .int .i8 x.1.2.2], undef, undef, undef, undef, undef], defers := [] })
    (fun x => .cells #[.int .i8 x.1.1, .int .i8 x.1.2.1, .int .i8 x.1.2.2] 25) ?assign ?body ?done
  case assign =>
    intro l x W K hK
    unfold encT
    gi_wp2
    exact hK
  case body =>
    rintro l C pre x b' W hCw ⟨⟨v, hbx, hown⟩, hC1, hC2, hB⟩ hpl hbge hbl
    have hb3 : Blk3 W b' 25 x.1.1 x.1.2.1 x.1.2.2 := hbl
    have g0 := hb3.at3.1
    have g1 := hb3.at3.2.1
    have g2 := hb3.at3.2.2
    have g3 := hbx.cell
    have hl := TurnList_len pre
    have hsn := TurnList_snoc pre x
    obtain ⟨ps, hps⟩ : ∃ ps, TurnList pre = ps := ⟨_, rfl⟩
    rw [hps] at hown hl hsn
    obtain ⟨⟨p, q, r⟩, hx⟩ := x
    simp only at g0 g1 g2 hsn ⊢
    have HBX := Lib.hid hbx
    have HO := Lib.hid hown
    have HB := Lib.hid hB
    have HSN := Lib.hid hsn
    have HL := Lib.hid hl
    have hws : w.heap.size < W.heap.size := World.block_lt_of_cell? W _ g3
    clear hbx hown hB hsn hl hps hbl hb3
    have hpl2 : ps.length < 6 := by have := HL.out; omega
    gi_wp2_with (gi_at_builtin; refine wpListIn_append_own _ rfl _ _ 31 rfl C 25 i0 (.agg #[.int .i8 0, .int .i8 0, .int .i8 0]) 3 3 Try.underlying31 hi hz0 hz1 hz2 rfl (by decide) _ _ _ rfl ((show W.ownsRow C 25 3 v ps.length (flatB ps) from HO.out).alloc _) ⟨W.heap.size, 0, none⟩ 1 1 [.int .i8 p, .int .i8 q, .int .i8 r] rfl rfl ?c1 ?c2 ?c3 ?c4 ?c5 ?_)
    case c1 =>
      intro j u hj
      match j, hj with
      | 0, hj => simp at hj; subst hj; simp [Addr.add]
      | 1, hj => simp at hj; subst hj; simp [Addr.add]
      | 2, hj => simp at hj; subst hj; simp [Addr.add]
    case c2 => intro u hu; simp at hu; rcases hu with rfl | rfl | rfl <;> rfl
    case c3 => unfold maxLen; omega
    case c4 => omega
    case c5 => simp; omega
    intro v' w3 hown' hgrow _
    obtain ⟨gv, cv, rfl⟩ : ∃ gv cv, v' = .slice (some ⟨gv, 0, none⟩) (ps.length + 1) cv := by
      rcases hown'.2 with ⟨_, h0⟩ | ⟨gu, cu, cur, h1, _⟩
      · omega
      · exact ⟨gu, cu, h1⟩
    have hnot : ∀ k, k < C → some k ≠ v.ownBlock := fun k hk e => by have := (HO.out.block k e.symm).1; omega
    have o3 : OwnB 25 C w3 (.slice (some ⟨gv, 0, none⟩) (ps.length + 1) cv) (ps ++ [(p, q, r)]) := by
      unfold OwnB
      rw [flatB_append, List.length_append]
      exact hown'
    have x3 : Boxed w3 w.heap.size 31 v := (hgrow.block _ (by simp; omega) (hnot _ (by omega))).trans (HBX.out.alloc _)
    have c3 := x3.cell
    have f3 := x3.frozen
    have b3 : Below w.heap.size w w3 := (HB.out.alloc (by omega) _).grown hgrow (by simp; omega) (fun k e => by have := (HO.out.block k e).1; omega)
    have k3 : KeepsIn W1.heap.size C W w3 := (KeepsIn.below ((Below.refl _ _).alloc (Nat.le_refl _) _)).trans (KeepsIn.grown hgrow (fun r e => .inr (HO.out.block r e).1))
    have hz3 : C ≤ w3.heap.size := Nat.le_trans (by simp; omega) hgrow.size
    have O3 := Lib.hid o3
    have X3 := Lib.hid x3
    have B3 := Lib.hid b3
    have K3 := Lib.hid k3
    clear hown' hgrow hnot o3 x3 b3 k3
    gi_wp2
    have hO4 : OwnB 25 C (w3.setCell ⟨w.heap.size, 0, none⟩ (.slice (some ⟨gv, 0, none⟩) (ps.length + 1) cv)) (.slice (some ⟨gv, 0, none⟩) (ps.length + 1) cv) (ps ++ [(p, q, r)]) := O3.out.kept (grown_cell w3 ⟨w.heap.size, 0, none⟩ (.slice (some ⟨gv, 0, none⟩) (ps.length + 1) cv)) (by
      cases hv : (Value.slice (some ⟨gv, 0, none⟩) (ps.length + 1) cv).ownBlock with
      | none => exact .inl rfl
      | some k =>
        refine .inr fun e => ?_
        have h1 := (O3.out.block k hv).1
        have h2 : k = w.heap.size := by simpa using e
        omega)
    refine ⟨K3.out.trans (KeepsIn.grown (grown_cell w3 ⟨w.heap.size, 0, none⟩ (.slice (some ⟨gv, 0, none⟩) (ps.length + 1) cv)) (fun r e => by cases e; exact .inl (by show w.heap.size < W1.heap.size; omega))), ⟨(.slice (some ⟨gv, 0, none⟩) (ps.length + 1) cv), X3.out.set (.slice (some ⟨gv, 0, none⟩) (ps.length + 1) cv), by rw [HSN.out]; exact hO4⟩, hC1, by simpa [World.setCell] using hz3, B3.out.setCell (Nat.le_refl _) _⟩
  case done =>
    rintro D C ys W hD hC hys ⟨⟨v, hbx, hown⟩, hC1, hC2, hB⟩ hK
    have HO : Hid (OwnB 25 w.heap.size W v (turnsL (lo3 a b c) (mi3 a b c) (hi3 a b c))) := Lib.hid (by
      have h : TurnList ys = turnsL (lo3 a b c) (mi3 a b c) (hi3 a b c) := hys
      rw [← h]
      refine ⟨hown.1, ?_⟩
      rcases hown.2 with hn | ⟨g, cap, cur, rfl, hb, rest⟩
      · exact .inl hn
      · exact .inr ⟨g, cap, cur, rfl, by omega, rest⟩)
    have c1 := hbx.cell
    have HB := Lib.hid hB
    have HK := Lib.hid hK
    have hwD : w.heap.size ≤ D := by omega
    clear hys hbx hown hB hK
    gi_wp2
    refine ⟨by simp, .inl ⟨_, _, rfl, run_takeDeferred HK.out, ?_⟩⟩
    refine ⟨v, by simp [results, Try.results70, go_sem], v, rfl, ?_, Below.trans HB.out (belowK_b (w := w) (Nat.le_refl _) _ D _ _ hwD HK.out rfl rfl)⟩
    refine HO.out.kept (grownBy_putObj' W D (.deferred none)) ?_
    rcases HO.out.2 with ⟨rfl, _⟩ | ⟨g, cap, cur, rfl, hb, hg, _⟩
    · exact .inl rfl
    · refine .inr fun e => ?_
      have e2 : g = D := by simpa [Value.ownBlock] using e
      subst e2
      rw [HK.out] at hg
      simp at hg

theorem collect_any (Bs : Nat) (a b c : Int) (hok : okB a b c = true) (w : World) (hBs : At3 w Bs a b c) :
    Calls Try.prog 36 #[.func (.func 68) #[] #[.pointer (some ⟨Bs, 0, none⟩)]] w fun e w' => ∃ v, e = .returned v ∧ OwnB 25 w.heap.size w' v (turnsL (lo3 a b c) (mi3 a b c) (hi3 a b c)) ∧ Below w.heap.size w w' := by
  have HA := Lib.hid (callsIn_wide.1 (appendSeq_in Bs a b c hok w hBs))
  clear hBs hok
  go_enter Try.func36, Try.ntmps36
  go_wp2_with fail
  refine HA.out.mono ?_
  rintro e w2 ⟨v, rfl, o2, b2⟩
  have HO := Lib.hid o2
  have HB := Lib.hid b2
  clear o2 b2
  go_wp2_with fail
  go_ret
  exact ⟨v, rfl, HO.out, HB.out⟩

def tnCode (a b c : Int) : Int := if okB a b c = true then 0 else 1
def tnRes (a b c : Int) : List Tri := if okB a b c = true then turnsL (lo3 a b c) (mi3 a b c) (hi3 a b c) else []
theorem tn_ok {a b c : Int} (h : okB a b c = true) : tnRes a b c = turnsL (lo3 a b c) (mi3 a b c) (hi3 a b c) ∧ tnCode a b c = 0 := ⟨if_pos h, if_pos h⟩
theorem tn_no {a b c : Int} (h : okB a b c = false) : tnRes a b c = [] ∧ tnCode a b c = 1 := ⟨if_neg (by rw [h]; simp), if_neg (by rw [h]; simp)⟩
theorem tn_len (a b c : Int) : (tnRes a b c).length ≤ 6 := by
  unfold tnRes
  split
  · exact (turnsL_len _ _ _).2
  · simp
def RetTn (B : Nat) (w : World) (a b c : Int) (e : Ending) (w' : World) : Prop := ∃ v, e = .returned (.tuple #[v, .int .i64 (tnCode a b c)]) ∧ OwnB 25 B w' v (tnRes a b c) ∧ Below B w w'

set_option maxHeartbeats 1000000 in
set_option maxRecDepth 100000 in
theorem itn_any (a b c : Int) (w : World) (ha : I8s a b c) :
    Calls Try.prog 13 #[.agg #[.int .i8 a, .int .i8 b, .int .i8 c]] w (RetTn w.heap.size w a b c) := by
  have HA := Lib.hid ha
  have q1 : Hid (At3 (w.alloc (.cells #[.int .i8 a, .int .i8 b, .int .i8 c] 25)) w.heap.size a b c) := Lib.hid (At3.new _ _ _ _ _)
  have B1 : Hid (Below w.heap.size w (w.alloc (.cells #[.int .i8 a, .int .i8 b, .int .i8 c] 25))) := Lib.hid ((Below.refl _ _).alloc (Nat.le_refl _) _)
  obtain ⟨o, ho⟩ : ∃ o, okB a b c = o := ⟨_, rfl⟩
  have HO := Lib.hid ho
  clear ha
  go_enter Try.func13, Try.ntmps13
  go_wp2_with fail
  refine (ivbox_any a b c _ HA.out).mono ?_
  rintro e w2 ⟨rfl, b2⟩
  have q2 := q1.out.below b2
  have g0 := q2.1
  have g1 := q2.2.1
  have g2 := q2.2.2
  have B2 := Lib.hid (blink B1.out b2)
  rw [HO.out]
  clear b2 q2 ho
  cases o
  · have HT := Lib.hid (tn_no HO.out)
    go_wp2_with fail
    go_ret2
    exact ⟨_, by rw [HT.out.2]; rfl, by rw [HT.out.1]; exact World.ownsRow_nil _ _ _ _, B2.out⟩
  · have HT := Lib.hid (tn_ok HO.out)
    go_wp2_with fail
    refine (iturns_any a b c _).mono ?_
    rintro e w3 ⟨rfl, e3⟩
    have q3 : At3 w3 w2.heap.size a b c := by rw [e3]; exact At3.new _ _ _ _ _
    have b3 : Below w2.heap.size w2 w3 := by rw [e3]; exact (Below.refl _ _).alloc (Nat.le_refl _) _
    have HC := Lib.hid (collect_any w2.heap.size a b c HO.out w3 q3)
    have B3 := Lib.hid (blink B2.out b3)
    clear q3 b3 e3 g0 g1 g2
    go_wp2_with fail
    refine HC.out.mono ?_
    rintro e w4 ⟨v, rfl, o4, b4⟩
    have HO4 := Lib.hid o4
    have B4 := Lib.hid (blink B3.out b4)
    clear o4 b4
    go_wp2_with fail
    go_ret2
    refine ⟨v, by rw [HT.out.2]; rfl, ?_, B4.out⟩
    rw [HT.out.1]
    refine ⟨HO4.out.1, ?_⟩
    rcases HO4.out.2 with hn | ⟨g, cap, cur, rfl, hb, rest⟩
    · exact .inl hn
    · exact .inr ⟨g, cap, cur, rfl, by have := B3.out.size; omega, rest⟩

set_option maxHeartbeats 1000000 in
set_option maxRecDepth 100000 in
theorem stn_any (a b c : Int) (w : World) (ha : I8s a b c) :
    Calls Try.prog 12 #[.agg #[.int .i8 a, .int .i8 b, .int .i8 c]] w (RetTn w.heap.size w a b c) := by
  have HA := Lib.hid ha
  have q1 : Hid (At3 (w.alloc (.cells #[.int .i8 a, .int .i8 b, .int .i8 c] 25)) w.heap.size a b c) := Lib.hid (At3.new _ _ _ _ _)
  have B1 : Hid (Below w.heap.size w (w.alloc (.cells #[.int .i8 a, .int .i8 b, .int .i8 c] 25))) := Lib.hid ((Below.refl _ _).alloc (Nat.le_refl _) _)
  obtain ⟨o, ho⟩ : ∃ o, okB a b c = o := ⟨_, rfl⟩
  have HO := Lib.hid ho
  clear ha
  go_enter Try.func12, Try.ntmps12
  go_wp2_with fail
  refine (sok_any a b c _ HA.out).mono ?_
  rintro e w2 ⟨rfl, b2⟩
  have q2 := q1.out.below b2
  have g0 := q2.1
  have g1 := q2.2.1
  have g2 := q2.2.2
  have B2 := Lib.hid (blink B1.out b2)
  have hz2 : w.heap.size ≤ w2.heap.size := Nat.le_trans (by simp) b2.size
  rw [HO.out]
  clear b2 q2 ho
  cases o
  · have HT := Lib.hid (tn_no HO.out)
    have HE : Hid (OwnB 25 w.heap.size (w2.alloc (.cells #[] 25)) (.slice (some ⟨w2.heap.size, 0, none⟩) 0 0) []) := Lib.hid (by
      have h : OwnB 25 w2.heap.size (w2.alloc (.cells #[] 25)) (.slice (some ⟨w2.heap.size, 0, none⟩) 0 0) [] := World.ownsRow_made w2 #[] 0 (Nat.le_refl _) (Nat.zero_le _) rfl
      refine ⟨h.1, ?_⟩
      rcases h.2 with hn | ⟨g, cap, cur, e, hb, rest⟩
      · exact .inl hn
      · exact .inr ⟨g, cap, cur, e, by omega, rest⟩)
    go_wp2_with fail
    go_ret2
    exact ⟨_, by rw [HT.out.2]; rfl, by rw [HT.out.1]; exact HE.out, B2.out.alloc hz2 _⟩
  · have HT := Lib.hid (tn_ok HO.out)
    go_wp2_with fail
    refine (sturns_any a b c _).mono ?_
    rintro e w4 ⟨v, rfl, o4, b4⟩
    have HO4 := Lib.hid o4
    have B4 := Lib.hid (blink B2.out b4)
    clear o4 b4
    go_wp2_with fail
    go_ret2
    refine ⟨v, by rw [HT.out.2]; rfl, ?_, B4.out⟩
    rw [HT.out.1]
    refine ⟨HO4.out.1, ?_⟩
    rcases HO4.out.2 with hn | ⟨g, cap, cur, rfl, hb, rest⟩
    · exact .inl hn
    · exact .inr ⟨g, cap, cur, rfl, by omega, rest⟩
end Go.Proofs.Ytkhemijanhcibab
