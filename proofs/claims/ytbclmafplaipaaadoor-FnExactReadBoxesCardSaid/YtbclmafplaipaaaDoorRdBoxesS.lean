/-
  Reading the text of Boxes: the model's.
-/
import Derived.Test.YtbclmafplaipaaaDoorRdS
import Derived.Test.YtbclmafplaipaaaDoorRdBoxesP
import Derived.Test.YtbclmafplaipaaaDoorGrownT
import Derived.Laws.NewBlocks
import Derived.Deep.RegionHeld3
namespace Go.Proofs.YtbclmafplaipaaaDoor
open Go Go.RowKit
set_option linter.unusedVariables false

def RetRdBoxes (B : Nat) (w : World) (ps : List (Int × Int × Int)) (c : Int) (e : Ending) (w' : World) : Prop := ∃ v, e = .returned (.tuple #[v, .int .i64 c]) ∧ OwnB 90 B w' v ps ∧ Below w.heap.size w w'
theorem infoRdBoxes : (Tryd.prog.info? 90).map (fun i => (i.zero, i.size, i.bytes)) = some (some (.agg #[.int .i8 0, .int .i8 0, .int .i8 0]), 3, 3) := by kernel_rfl
theorem newBoxes {w : World} {x0 x1 x2 : Int} {T : TypeId} : ∀ j u, ([Value.int .i8 x0, .int .i8 x1, .int .i8 x2] : List Value)[j]? = some u → (w.alloc (.cells #[.int .i8 x0, .int .i8 x1, .int .i8 x2] T)).cell? (Addr.add ⟨w.heap.size, 0, none⟩ j) = some u := by
  intro j u hj
  have e := cell_of_row (w.alloc (.cells #[.int .i8 x0, .int .i8 x1, .int .i8 x2] T)) w.heap.size j _ T (0, 0) (heap_alloc_new w _)
  rw [show Addr.add ⟨w.heap.size, 0, none⟩ j = ⟨w.heap.size, j, none⟩ by unfold Addr.add; split <;> simp_all, e]
  simpa using hj
theorem onesBoxes {x0 x1 x2 : Int} : ∀ u ∈ ([Value.int .i8 x0, .int .i8 x1, .int .i8 x2] : List Value), u.oneCell' = true := by
  intro u hu
  simp at hu
  rcases hu with rfl | rfl | rfl <;> rfl
theorem ownBoxes_mono {B B' : Nat} {w : World} {v : Value} {ps : List (Int × Int × Int)} (h : OwnB 90 B w v ps) (hB : B' ≤ B) : OwnB 90 B' w v ps := by
  refine ⟨h.1, ?_⟩
  rcases h.2 with hn | ⟨g, cap, cur, e, hb, rest⟩
  · exact .inl hn
  · exact .inr ⟨g, cap, cur, e, Nat.le_trans hB hb, rest⟩
theorem ownBoxes_empty {w : World} : OwnB 90 w.heap.size (w.alloc (.cells #[] 90)) (.slice (some ⟨w.heap.size, 0, none⟩) 0 0) [] := World.ownsRow_made w #[] 0 (Nat.le_refl _) (Nat.zero_le _) rfl
theorem spl_lenw {b : UInt8} : ∀ {l : List UInt8} {w : List UInt8}, w ∈ spl b l → w.length ≤ l.length
  | [], w, h => by simp [spl] at h; simp [h]
  | c :: r, w, h => by
    by_cases e : c = b
    · subst e
      rw [spl_cons_eq] at h
      rcases List.mem_cons.1 h with rfl | h
      · simp
      · have := spl_lenw h; simp only [List.length_cons]; omega
    · rw [spl_cons_ne e] at h
      obtain ⟨x, xs, hx⟩ : ∃ x xs, spl b r = x :: xs := by
        cases h : spl b r with
        | nil => exact absurd h (spl_ne b r)
        | cons x xs => exact ⟨x, xs, rfl⟩
      rw [hx] at h
      rcases List.mem_cons.1 h with rfl | h
      · have := spl_lenw (b := b) (l := r) (w := x) (by rw [hx]; simp)
        simp only [List.headD_cons, List.length_cons]; omega
      · have := spl_lenw (b := b) (l := r) (w := w) (by rw [hx]; exact List.mem_cons_of_mem _ h)
        simp only [List.length_cons]; omega
theorem spl_short {b : UInt8} {l x : List UInt8} {r : List (List UInt8)} (h : spl b l = x :: r) (hx : x ≠ []) : (spl b l).length ≤ l.length := by
  have hj := spl_join b l
  rw [h] at hj ⊢
  have h1 := Lib.join_length x r [b]
  rw [hj] at h1
  have h2 : 0 < x.length := Nat.pos_of_ne_zero (fun e => hx (List.eq_nil_of_length_eq_zero e))
  have h3 : Lib.lens (x :: r) = x.length + Lib.lens r := by simp [Lib.lens]
  simp only [List.length_cons, List.length_nil] at h1 ⊢
  omega
theorem mapO_len {α : Type} {f : List UInt8 → Option α} : ∀ {ws : List (List UInt8)} {L : List α}, mapO f ws = some L → L.length = ws.length
  | [], L, e => by cases e; rfl
  | w :: ws, L, e => by
    unfold mapO at e
    split at e
    · cases e
    · split at e
      · cases e
      · rename_i a ha L' hL
        cases e
        rw [List.length_cons, List.length_cons, mapO_len hL]
theorem mapO_snoc {α : Type} {f : List UInt8 → Option α} {x : List UInt8} : ∀ {ws : List (List UInt8)} {L : List α}, mapO f ws = some L → mapO f (ws ++ [x]) = (f x).map (fun a => L ++ [a])
  | [], L, e => by
    cases e
    show mapO f [x] = _
    unfold mapO
    cases f x with
    | none => rfl
    | some a => rfl
  | w :: ws, L, e => by
    unfold mapO at e
    rw [List.cons_append, mapO]
    cases hw : f w with
    | none => rw [hw] at e; cases e
    | some a =>
      rw [hw] at e
      simp only at e ⊢
      cases hs : mapO f ws with
      | none => rw [hs] at e; cases e
      | some L' =>
        rw [hs] at e
        cases e
        rw [mapO_snoc hs]
        cases f x <;> rfl
theorem mapO_stop {α : Type} {f : List UInt8 → Option α} {x : List UInt8} (h : f x = none) : ∀ {ws : List (List UInt8)}, x ∈ ws → mapO f ws = none
  | w :: ws, hx => by
    unfold mapO
    rcases List.mem_cons.1 hx with rfl | hx
    · rw [h]
    · rw [mapO_stop h hx]
      cases f w <;> rfl
theorem row_typesW {T U : TypeId} (hT : T ≠ U) {lo lo' a b n n' : Nat} {w : World} {v u : Value} {xs ys : List Value} (h : w.ownsRow lo T a v n xs) (k : w.ownsRow lo' U b u n' ys) : ∀ p, v.ownBlock = some p → u.ownBlock = some p → False := by
  intro p hp hu
  rcases h.2 with ⟨rfl, _⟩ | ⟨g, cap, cur, rfl, _, hg, _⟩
  · simp [Value.ownBlock] at hp
  · rcases k.2 with ⟨rfl, _⟩ | ⟨g', cap', cur', rfl, _, hg', _⟩
    · simp [Value.ownBlock] at hu
    · simp [Value.ownBlock] at hp hu
      subst hp
      subst hu
      rw [hg] at hg'
      injection hg' with e
      injection e with _ e2 _
      exact hT e2
theorem ownW_some {w : World} {B n : Nat} {a : Option Addr} {c : Nat} {ws : List (List UInt8)} (h : OwnW B w (.slice a n c) ws) (hn : 0 < n) : ∃ g, a = some ⟨g, 0, none⟩ ∧ ws.length = n ∧ g < w.heap.size ∧ ∀ j, j < n → w.cell? ⟨g, j, none⟩ = some (vS (ws.getD j [])) := by
  obtain ⟨a', c', e⟩ := own_is h
  injection e with e1 e2 e3
  rcases h.2 with ⟨e', _⟩ | ⟨g, cap, cur, e', _⟩
  · injection e' with _ e' _; omega
  · injection e' with e4 e5 e6
    subst e4
    refine ⟨g, rfl, e2.symm, (World.ownsRow.lt h g rfl).2, fun j hj => ?_⟩
    have h' : w.ownsRow B 9 1 (.slice (some ⟨g, 0, none⟩) n c) n (ws.map vS) := by have := h; unfold OwnW at this; rw [← e2] at this; exact this
    exact OwnW.cell h' j hj

set_option maxHeartbeats 4000000 in
set_option maxRecDepth 100000 in
theorem sreadBoxes_any (l : List UInt8) (hl : l.length ≤ 1048576) (w : World) :
    Calls Tryd.prog 16 #[.string (str l)] w (RetRdBoxes w.heap.size w (rdRBoxes l) (rdCBoxes l)) := by
  obtain ⟨i0, hi, hz0, hz1, hz2⟩ := info_parts infoRdBoxes
  obtain ⟨rr, hrr⟩ : ∃ r, rdRBoxes l = r := ⟨_, rfl⟩
  obtain ⟨rc, hrc⟩ : ∃ r, rdCBoxes l = r := ⟨_, rfl⟩
  rw [hrr, hrc]
  have HO1 : Hid (OwnB 90 w.heap.size (w.alloc (.cells #[] 90)) (.slice (some ⟨w.heap.size, 0, none⟩) 0 0) []) := Lib.hid ownBoxes_empty
  have HB1 : Hid (Below w.heap.size w (w.alloc (.cells #[] 90))) := Lib.hid ((Below.refl _ _).alloc (Nat.le_refl _) _)
  by_cases h0 : l = []
  · have e1 : rr = [] := by rw [← hrr, h0]; rfl
    have e2 : rc = 0 := by rw [← hrc, h0]; rfl
    subst e1; subst e2
    subst h0
    have e0 : (str []).toList = [] := ByteArray.toList_mk []
    clear hrr hrc hl
    go_enter Tryd.func16, Tryd.ntmps16
    go_wp2_with fail
    go_ret2
    exact ⟨_, rfl, HO1.out, HB1.out⟩
  have teq : ((str l).toList == []) = false := by
    rw [beq_eq_false_iff_ne]
    intro e
    apply h0
    have : (str l).toList = l := by unfold str; exact ByteArray.toList_mk l
    rw [← this]; exact e
  have hne : ¬ (str l).toList = [] := fun e => by rw [e] at teq; simp at teq
  obtain ⟨W1, hW1⟩ : ∃ W, w.alloc (.cells #[] 90) = W := ⟨_, rfl⟩
  have HW1 := Lib.hid hW1
  rw [hW1] at HO1 HB1
  have HSP := Lib.hid (ssplit_any l 32 hl W1)
  obtain ⟨ws, hws⟩ : ∃ ws, spl 32 l = ws := ⟨_, rfl⟩
  have HWS := Lib.hid hws
  rw [hws] at HSP
  have HRD : Hid (rdBoxes l = match mapO triM ws with | none => none | some L => if vldX L = true then some L else none) := Lib.hid (by unfold rdBoxes rdM; rw [if_neg h0, hws]; cases mapO triM ws <;> rfl)
  have HRR := Lib.hid hrr
  have HRC := Lib.hid hrc
  have HFAIL : Hid (rdBoxes l = none → rr = [] ∧ rc = 5) := Lib.hid (fun h => ⟨by rw [← hrr]; unfold rdRBoxes; rw [h]; rfl, by rw [← hrc]; unfold rdCBoxes; rw [h]; rfl⟩)
  have HWL : Hid (∀ x ∈ ws, x.length ≤ 1048576) := Lib.hid (fun x hx => by rw [← hws] at hx; have := spl_lenw hx; omega)
  have HWN : Hid (ws.length ≤ 1048577) := Lib.hid (by rw [← hws]; have := spl_count 32 l; omega)
  have HNL : Hid (∀ (L : List (Int × Int × Int)), mapO triM ws = some L → ws.length ≤ 1048576)   := Lib.hid (fun L hm => by
    cases hw : ws with
    | nil => simp
    | cons x r =>
      rw [hw] at hm
      have hx : x ≠ [] := by
        rintro rfl
        unfold mapO at hm
        rw [triM_nil] at hm
        cases hm
      have := spl_short (b := 32) (l := l) (x := x) (r := r) (by rw [hws, hw]) hx
      rw [hws, hw] at this
      omega)
  clear hws hrr hrc h0 hl hW1
  go_enter Tryd.func16, Tryd.ntmps16
  go_wp2_with fail
  rw [HW1.out]
  refine HSP.out.mono ?_
  rintro e w2 ⟨sv, rfl, ows, b2⟩
  obtain ⟨sa, sc, hsv⟩ := own_is ows
  obtain ⟨nw, hnw⟩ : ∃ n, ws.length = n := ⟨_, rfl⟩
  have HNW := Lib.hid hnw
  rw [hnw] at hsv
  subst hsv
  have hnwl : nw ≤ 1048577 := by rw [← hnw]; exact HWN.out
  have HOW := Lib.hid ows
  have HB2 := Lib.hid (blink HB1.out b2)
  have HO2 := Lib.hid (HO1.out.below b2)
  clear ows b2 hnw HSP
  go_wp2_with fail
  go_loopw [4, 6] (fun ov iv wr => ∃ (k : Nat) (L : List (Int × Int × Int)), k ≤ nw ∧ iv = .int .i64 k ∧ OwnB 90 w.heap.size wr ov L ∧ OwnW W1.heap.size wr (.slice sa nw sc) ws ∧ mapO triM (ws.take k) = some L ∧ FitsB L ∧ Below w.heap.size w wr) (fun _ i _ => nw - (intOf i).toNat)
  case atStart => exact ⟨0, [], Nat.zero_le _, rfl, HO2.out, HOW.out, rfl, ((fun p hp => by cases hp) : FitsB []), HB2.out⟩
  case round =>
    obtain ⟨k, L, hk, rfl, ho, hw, hm, hfit, hb⟩ := hrel
    have HO := Lib.hid ho
    have HW := Lib.hid hw
    have HM := Lib.hid hm
    have HFIT := Lib.hid hfit
    have HB := Lib.hid hb
    have hwr : w.heap.size ≤ wr.heap.size := hb.size
    have hLl : L.length = k := by have h := mapO_len hm; rw [List.length_take, HNW.out] at h; omega
    obtain ⟨la, lc, hlv⟩ := own_is ho
    rw [hLl] at hlv
    have HLL := Lib.hid hLl
    subst hlv
    by_cases hlt : k < nw
    · obtain ⟨g, rfl, _, hg, hcell⟩ := ownW_some hw (by omega)
      have hck := hcell k hlt
      obtain ⟨x, hx⟩ : ∃ x, ws.getD k [] = x := ⟨_, rfl⟩
      rw [hx] at hck
      have hck : wr.cell? ⟨g, k, none⟩ = some (.string (str x)) := hck
      have hxm : x ∈ ws := by rw [← hx]; simp [List.getD, show k < ws.length by rw [HNW.out]; exact hlt]
      have HXL : Hid (x.length ≤ 1048576) := Lib.hid (HWL.out x hxm)
      have hkn : (k : Int) < (nw : Int) := by omega
      have hk0 : (0 : Int) ≤ (k : Int) := by omega
      have HTK : Hid (ws.take (k + 1) = ws.take k ++ [x]) := Lib.hid (by rw [List.take_succ_eq_append_getElem (by rw [HNW.out]; exact hlt), ← hx]; simp [List.getD, show k < ws.length by rw [HNW.out]; exact hlt])
      have HSTOP : Hid (triM x = none → rr = [] ∧ rc = 5) := Lib.hid (fun h => HFAIL.out (by rw [HRD.out, mapO_stop h hxm]))
      have HSX := Lib.hid (ssplit_any x 120 HXL.out wr)
      clear hx hxm hcell hw ho hm hfit hb hLl
      go_wp2_with fail
      refine HSX.out.mono ?_
      rintro e w3 ⟨pv, rfl, opv, b3⟩
      obtain ⟨pa, pc, hpv⟩ := own_is opv
      obtain ⟨ps, hps⟩ : ∃ ps, spl 120 x = ps := ⟨_, rfl⟩
      have HPS := Lib.hid hps
      rw [hps] at opv hpv
      obtain ⟨np, hnp⟩ : ∃ n, ps.length = n := ⟨_, rfl⟩
      rw [hnp] at hpv
      subst hpv
      have HB3 := Lib.hid (HB.out.trans (b3.mono hwr))
      have HO3 := Lib.hid (HO.out.below b3)
      have HW3 := Lib.hid (ownW_below HW.out b3)
      have HNP := Lib.hid hnp
      have HPO := Lib.hid opv
      have hnpl : np ≤ 1048577 := by rw [← hnp, ← hps]; have := spl_count 120 x; have := HXL.out; omega
      have hs3 : w.heap.size ≤ w3.heap.size := HB3.out.size
      clear opv b3 hnp hps hck HSX
      by_cases h2 : np = 3
      rotate_left
      · have t2 : ((np : Int) != 3) = true := by simp; omega
        obtain ⟨e1, e2⟩ := HSTOP.out (by
          unfold triM
          rw [HPS.out]
          have h := HNP.out
          match ps, h with
          | [], _ => rfl
          | [_], _ => rfl
          | [_, _], _ => rfl
          | [_, _, _], h => exact absurd h.symm (fun e => h2 (by rw [e]; rfl))
          | _ :: _ :: _ :: _ :: _, _ => rfl)
        subst e1; subst e2
        have HOE : Hid (OwnB 90 w3.heap.size (w3.alloc (.cells #[] 90)) (.slice (some ⟨w3.heap.size, 0, none⟩) 0 0) []) := Lib.hid ownBoxes_empty
        clear h2
        go_wp2_with fail
        go_ret2
        exact ⟨_, rfl, ownBoxes_mono HOE.out hs3, HB3.out.alloc hs3 _⟩
      subst h2
      obtain ⟨p, q, r, hpq⟩ : ∃ p q r, ps = [p, q, r] := by
        have h := HNP.out
        match ps, h with
        | [p, q, r], _ => exact ⟨p, q, r, rfl⟩
      obtain ⟨g2, rfl, _, hg2, hcell2⟩ := ownW_some HPO.out (by omega)
      have up : ∀ (o : Obj) (j : Nat) (v : Value), w3.cell? ⟨g2, j, none⟩ = some v → (w3.alloc o).cell? ⟨g2, j, none⟩ = some v := fun o j v h => (((Below.refl w3.heap.size w3).alloc (Nat.le_refl _) o).cell (p := ⟨g2, j, none⟩) hg2).trans h
      have cp : ∀ o, (w3.alloc o).cell? ⟨g2, 0, none⟩ = some (.string (str p)) := fun o => up o 0 _ (by have := hcell2 0 (by omega); rw [hpq] at this; exact this)
      have cq : ∀ o, (w3.alloc o).cell? ⟨g2, 1, none⟩ = some (.string (str q)) := fun o => up o 1 _ (by have := hcell2 1 (by omega); rw [hpq] at this; exact this)
      have cr : ∀ o, (w3.alloc o).cell? ⟨g2, 2, none⟩ = some (.string (str r)) := fun o => up o 2 _ (by have := hcell2 2 (by omega); rw [hpq] at this; exact this)
      have HPQ : Hid (spl 120 x = [p, q, r]) := Lib.hid (by rw [HPS.out, hpq])
      have hpl : p.length ≤ 1048576 := by have := spl_lenw (b := 120) (l := x) (w := p) (by rw [HPQ.out]; simp); have := HXL.out; omega
      have hql : q.length ≤ 1048576 := by have := spl_lenw (b := 120) (l := x) (w := q) (by rw [HPQ.out]; simp); have := HXL.out; omega
      have hrl : r.length ≤ 1048576 := by have := spl_lenw (b := 120) (l := x) (w := r) (by rw [HPQ.out]; simp); have := HXL.out; omega
      have HNp := Lib.hid (fun W => snum_any p hpl W)
      have HNq := Lib.hid (fun W => snum_any q hql W)
      have HNr := Lib.hid (fun W => snum_any r hrl W)
      have HPM : Hid (triM x = tri3 (num p) (num q) (num r)) := Lib.hid (triM_three HPQ.out)
      obtain ⟨rp, hrp⟩ : ∃ r, num p = r := ⟨_, rfl⟩
      obtain ⟨rq, hrq⟩ : ∃ r, num q = r := ⟨_, rfl⟩
      obtain ⟨rr', hrr⟩ : ∃ s, num r = s := ⟨_, rfl⟩
      rw [hrp] at HNp HPM
      rw [hrq] at HNq HPM
      rw [hrr] at HNr HPM
      have t2 : ((3 : Int) != 3) = false := by decide
      have HOE : Hid (∀ o, OwnB 90 w.heap.size ((w3.alloc o).alloc (.cells #[] 90)) (.slice (some ⟨w3.heap.size + 1, 0, none⟩) 0 0) []) := Lib.hid (fun o => by
        have h := ownBoxes_mono (w := (w3.alloc o).alloc (.cells #[] 90)) (B' := w.heap.size) (ownBoxes_empty (w := w3.alloc o)) (by simp; omega)
        rwa [World.size_alloc] at h)
      have HBE : Hid (∀ o, Below w.heap.size w ((w3.alloc o).alloc (.cells #[] 90))) := Lib.hid (fun o => (HB3.out.alloc hs3 _).alloc (by simp; omega) _)
      clear hpq hcell2 hpl hql hrl hrp hrq hrr HPS HNP up
      cases rp with
      | none =>
        obtain ⟨e1, e2⟩ := HSTOP.out (by rw [HPM.out]; exact tri3_n1 _ _)
        subst e1; subst e2
        simp only [Option.getD_none, Option.isSome_none] at HNp
        go_wp2_with fail
        refine wp_loop_rounds 4 ?_
        rw [rounds_succ]
        go_wp2_with (first | (go_at_call 56; refine (HNp.out _).mono ?_; rintro e _ ⟨rfl, rfl⟩))
        go_ret2
        exact ⟨_, rfl, HOE.out _, HBE.out _⟩
      | some a =>
      simp only [Option.getD_some, Option.isSome_some] at HNp
      by_cases hc1 : 60 < a
      · have tc1 : decide ((60 : Int) < (a : Int)) = true := decide_eq_true (by omega)
        obtain ⟨e1, e2⟩ := HSTOP.out (by rw [HPM.out]; exact tri3_a hc1 _ _)
        subst e1; subst e2
        clear hc1
        go_wp2_with fail
        refine wp_loop_rounds 4 ?_
        rw [rounds_succ]
        go_wp2_with (first | (go_at_call 56; refine (HNp.out _).mono ?_; rintro e _ ⟨rfl, rfl⟩))
        go_ret2
        exact ⟨_, rfl, HOE.out _, HBE.out _⟩
      have tc1 : decide ((60 : Int) < (a : Int)) = false := decide_eq_false (by omega)
      cases rq with
      | none =>
        obtain ⟨e1, e2⟩ := HSTOP.out (by rw [HPM.out]; exact tri3_n2 _ _)
        subst e1; subst e2
        simp only [Option.getD_none, Option.isSome_none] at HNq
        go_wp2_with fail
        refine wp_loop_rounds 4 ?_
        rw [rounds_succ]
        go_wp2_with (first | (go_at_call 56; refine (HNp.out _).mono ?_; rintro e _ ⟨rfl, rfl⟩))
        rw [rounds_succ]
        go_wp2_with (first | (go_at_call 56; refine (HNq.out _).mono ?_; rintro e _ ⟨rfl, rfl⟩))
        go_ret2
        exact ⟨_, rfl, HOE.out _, HBE.out _⟩
      | some b =>
      simp only [Option.getD_some, Option.isSome_some] at HNq
      by_cases hc2 : 60 < b
      · have tc2 : decide ((60 : Int) < (b : Int)) = true := decide_eq_true (by omega)
        obtain ⟨e1, e2⟩ := HSTOP.out (by rw [HPM.out]; exact tri3_b hc2 _ _)
        subst e1; subst e2
        clear hc2
        go_wp2_with fail
        refine wp_loop_rounds 4 ?_
        rw [rounds_succ]
        go_wp2_with (first | (go_at_call 56; refine (HNp.out _).mono ?_; rintro e _ ⟨rfl, rfl⟩))
        rw [rounds_succ]
        go_wp2_with (first | (go_at_call 56; refine (HNq.out _).mono ?_; rintro e _ ⟨rfl, rfl⟩))
        go_ret2
        exact ⟨_, rfl, HOE.out _, HBE.out _⟩
      have tc2 : decide ((60 : Int) < (b : Int)) = false := decide_eq_false (by omega)
      cases rr' with
      | none =>
        obtain ⟨e1, e2⟩ := HSTOP.out (by rw [HPM.out]; exact tri3_n3 _ _)
        subst e1; subst e2
        simp only [Option.getD_none, Option.isSome_none] at HNr
        go_wp2_with fail
        refine wp_loop_rounds 4 ?_
        rw [rounds_succ]
        go_wp2_with (first | (go_at_call 56; refine (HNp.out _).mono ?_; rintro e _ ⟨rfl, rfl⟩))
        rw [rounds_succ]
        go_wp2_with (first | (go_at_call 56; refine (HNq.out _).mono ?_; rintro e _ ⟨rfl, rfl⟩))
        rw [rounds_succ]
        go_wp2_with (first | (go_at_call 56; refine (HNr.out _).mono ?_; rintro e _ ⟨rfl, rfl⟩))
        go_ret2
        exact ⟨_, rfl, HOE.out _, HBE.out _⟩
      | some c =>
      simp only [Option.getD_some, Option.isSome_some] at HNr
      by_cases hc3 : 60 < c
      · have tc3 : decide ((60 : Int) < (c : Int)) = true := decide_eq_true (by omega)
        obtain ⟨e1, e2⟩ := HSTOP.out (by rw [HPM.out]; exact tri3_c hc3 _ _)
        subst e1; subst e2
        clear hc3
        go_wp2_with fail
        refine wp_loop_rounds 4 ?_
        rw [rounds_succ]
        go_wp2_with (first | (go_at_call 56; refine (HNp.out _).mono ?_; rintro e _ ⟨rfl, rfl⟩))
        rw [rounds_succ]
        go_wp2_with (first | (go_at_call 56; refine (HNq.out _).mono ?_; rintro e _ ⟨rfl, rfl⟩))
        rw [rounds_succ]
        go_wp2_with (first | (go_at_call 56; refine (HNr.out _).mono ?_; rintro e _ ⟨rfl, rfl⟩))
        go_ret2
        exact ⟨_, rfl, HOE.out _, HBE.out _⟩
      have tc3 : decide ((60 : Int) < (c : Int)) = false := decide_eq_false (by omega)
      have HPY : Hid (triM x = some ((a : Int), (b : Int), (c : Int))) := Lib.hid (by rw [HPM.out]; exact tri3_y (by omega) (by omega) (by omega))
      have HM2 : Hid (mapO triM (ws.take (k + 1)) = some (L ++ [((a : Int), (b : Int), (c : Int))])) := Lib.hid (by rw [HTK.out, mapO_snoc HM.out, HPY.out]; rfl)
      have HFIT2 : Hid (FitsB (L ++ [((a : Int), (b : Int), (c : Int))])) := Lib.hid (fun p hp => by
        rcases List.mem_append.1 hp with hp | hp
        · exact HFIT.out p hp
        · have : p = ((a : Int), (b : Int), (c : Int)) := by simpa using hp
          subst this
          exact ⟨⟨by simp only; omega, by simp only; omega⟩, ⟨by simp only; omega, by simp only; omega⟩, ⟨by simp only; omega, by simp only; omega⟩⟩)
      have HOA : Hid (((w3.alloc (.cells #[.int .i64 (a : Int), .int .i64 (b : Int), .int .i64 (c : Int)] 88)).alloc (.cells #[.int .i8 (a : Int), .int .i8 (b : Int), .int .i8 (c : Int)] 90)).ownsRow w.heap.size 90 3 (.slice la k lc) k (flatB L)) := Lib.hid (by have h := World.ownsRow.alloc (World.ownsRow.alloc (show w3.ownsRow w.heap.size 90 3 (.slice la k lc) L.length (flatB L) from HO3.out) (.cells #[.int .i64 (a : Int), .int .i64 (b : Int), .int .i64 (c : Int)] 88)) (.cells #[.int .i8 (a : Int), .int .i8 (b : Int), .int .i8 (c : Int)] 90); rw [HLL.out] at h; exact h)
      have HWA : Hid (OwnW W1.heap.size ((w3.alloc (.cells #[.int .i64 (a : Int), .int .i64 (b : Int), .int .i64 (c : Int)] 88)).alloc (.cells #[.int .i8 (a : Int), .int .i8 (b : Int), .int .i8 (c : Int)] 90)) (.slice (some ⟨g, 0, none⟩) nw sc) ws) := Lib.hid (ownW_below HW3.out (((Below.refl _ _).alloc (Nat.le_refl _) _).alloc (by simp) _))
      have HBA : Hid (Below w.heap.size w ((w3.alloc (.cells #[.int .i64 (a : Int), .int .i64 (b : Int), .int .i64 (c : Int)] 88)).alloc (.cells #[.int .i8 (a : Int), .int .i8 (b : Int), .int .i8 (c : Int)] 90))) := Lib.hid ((HB3.out.alloc hs3 _).alloc (by simp; omega) _)
      have hsz1 : (w3.alloc (.cells #[.int .i64 (a : Int), .int .i64 (b : Int), .int .i64 (c : Int)] 88)).heap.size = w3.heap.size + 1 := by simp
      have hnew : ∀ j u, ([Value.int .i8 (a : Int), .int .i8 (b : Int), .int .i8 (c : Int)] : List Value)[j]? = some u → ((w3.alloc (.cells #[.int .i64 (a : Int), .int .i64 (b : Int), .int .i64 (c : Int)] 88)).alloc (.cells #[.int .i8 (a : Int), .int .i8 (b : Int), .int .i8 (c : Int)] 90)).cell? (Addr.add ⟨w3.heap.size + 1, 0, none⟩ j) = some u := by rw [← hsz1]; exact newBoxes
      have HNEW := Lib.hid hnew
      clear hsz1 hnew hg hg2
      go_wp2_with fail
      refine wp_loop_rounds 4 ?_
      rw [rounds_succ]
      go_wp2_with (first | (go_at_call 56; refine (HNp.out _).mono ?_; rintro e _ ⟨rfl, rfl⟩))
      rw [rounds_succ]
      go_wp2_with (first | (go_at_call 56; refine (HNq.out _).mono ?_; rintro e _ ⟨rfl, rfl⟩))
      rw [rounds_succ]
      go_wp2_with (first | (go_at_call 56; refine (HNr.out _).mono ?_; rintro e _ ⟨rfl, rfl⟩))
      rw [rounds_succ]
      go_wp2_with (at_builtin; refine wpList_append_own _ rfl _ _ 28 rfl w.heap.size 90 i0 (.agg #[.int .i8 0, .int .i8 0, .int .i8 0]) 3 3 Tryd.underlying28 hi hz0 hz1 hz2 rfl (by decide) _ _ _ rfl HOA.out ⟨w3.heap.size + 1, 0, none⟩ 1 1 [.int .i8 (a : Int), .int .i8 (b : Int), .int .i8 (c : Int)] rfl rfl HNEW.out onesBoxes ?c3 ?c4 ?c5 ?_)
      case c3 => unfold maxLen; omega
      case c4 => omega
      case c5 => first | omega | (simp; omega)
      intro v' w9 hown' hgrow _
      have HO9 : Hid (OwnB 90 w.heap.size w9 v' (L ++ [((a : Int), (b : Int), (c : Int))])) := Lib.hid (by
        unfold OwnB
        rw [List.length_append, HLL.out]
        have e : flatB (L ++ [((a : Int), (b : Int), (c : Int))]) = flatB L ++ [.int .i8 (a : Int), .int .i8 (b : Int), .int .i8 (c : Int)] := by simp [flatB, flatE, encB]
        rw [e]
        exact hown')
      have HW9 : Hid (OwnW W1.heap.size w9 (.slice (some ⟨g, 0, none⟩) nw sc) ws) := Lib.hid (World.ownsRow.kept HWA.out hgrow (.inr (fun e => row_typesW (by decide) HWA.out HOA.out _ rfl (by rw [← e]; rfl))))
      have HB9 : Hid (Below w.heap.size w w9) := Lib.hid (HBA.out.grown hgrow (by simp; omega) (fun j e => (HOA.out.lt j e).1))
      clear hown' hgrow
      go_wp2_with fail
      go_roundw
      case rel => exact ⟨k + 1, _, by omega, by go_num, HO9.out, HW9.out, HM2.out, HFIT2.out, HB9.out⟩
      case measure => simp [intOf]; omega
    · have hkw : k = nw := by omega
      have HMA : Hid (mapO triM ws = some L) := Lib.hid (by
        have h := hm
        rw [hkw, ← HNW.out, List.take_length] at h
        exact h)
      have HSV := Lib.hid (svldX_any _ L wr HO.out.reads HFIT.out (by rw [HLL.out]; rw [hkw, ← HNW.out]; exact HNL.out L HMA.out))
      have HOE : Hid (∀ W, Below w.heap.size w W → OwnB 90 w.heap.size (W.alloc (.cells #[] 90)) (.slice (some ⟨W.heap.size, 0, none⟩) 0 0) []) := Lib.hid (fun W h => ownBoxes_mono ownBoxes_empty h.size)
      clear hw ho hm hfit hb hLl hkw
      go_wp2_with fail
      refine HSV.out.mono ?_
      rintro e w4 ⟨rfl, b4⟩
      have HB4 := Lib.hid (HB.out.trans (b4.mono hwr))
      have HO4 := Lib.hid (HO.out.below b4)
      have hs4 : w.heap.size ≤ w4.heap.size := HB4.out.size
      clear b4 HSV
      cases hv : vldX L with
      | false =>
        obtain ⟨e1, e2⟩ := HFAIL.out (by rw [HRD.out, HMA.out]; simp only; rw [if_neg (by rw [hv]; simp)])
        subst e1; subst e2
        go_wp2_with fail
        go_ret2
        exact ⟨_, rfl, HOE.out _ HB4.out, HB4.out.alloc hs4 _⟩
      | true =>
        have hsome : rdBoxes l = some L := by rw [HRD.out, HMA.out]; simp only; rw [if_pos hv]
        have e1 : rr = L := by rw [← HRR.out]; unfold rdRBoxes; rw [hsome]; rfl
        have e2 : rc = 0 := by rw [← HRC.out]; unfold rdCBoxes; rw [hsome]; rfl
        subst e1
        subst e2
        clear hsome
        go_wp2_with fail
        go_ret2
        exact ⟨_, rfl, HO4.out, HB4.out⟩
end Go.Proofs.YtbclmafplaipaaaDoor
