/-
  Reading the text of Parcels: the model's.
-/
import Derived.Test.YtbclmafplaipaaaDoorRdS
import Derived.Test.YtbclmafplaipaaaDoorRdParcelsP
import Derived.Test.YtbclmafplaipaaaDoorGrownT
import Derived.Deep.RegionHeld3
namespace Go.Proofs.YtbclmafplaipaaaDoor
open Go Go.RowKit
set_option linter.unusedVariables false

def RetRdParcels (B : Nat) (w : World) (ps : List (Int × Int)) (c : Int) (e : Ending) (w' : World) : Prop := ∃ v, e = .returned (.tuple #[v, .int .i64 c]) ∧ OwnQ 108 B w' v ps ∧ Below w.heap.size w w'
theorem infoRdParcels : (Tryd.prog.info? 108).map (fun i => (i.zero, i.size, i.bytes)) = some (some (.agg #[.int .i8 0, .int .i16 0]), 2, 4) := by kernel_rfl
theorem newParcels {w : World} {x0 x1 : Int} {T : TypeId} : ∀ j u, ([Value.int .i8 x0, .int .i16 x1] : List Value)[j]? = some u → (w.alloc (.cells #[.int .i8 x0, .int .i16 x1] T)).cell? (Addr.add ⟨w.heap.size, 0, none⟩ j) = some u := by
  intro j u hj
  have e := cell_of_row (w.alloc (.cells #[.int .i8 x0, .int .i16 x1] T)) w.heap.size j _ T (0, 0) (heap_alloc_new w _)
  rw [show Addr.add ⟨w.heap.size, 0, none⟩ j = ⟨w.heap.size, j, none⟩ by unfold Addr.add; split <;> simp_all, e]
  simpa using hj
theorem onesParcels {x0 x1 : Int} : ∀ u ∈ ([Value.int .i8 x0, .int .i16 x1] : List Value), u.oneCell' = true := by
  intro u hu
  simp at hu
  rcases hu with rfl | rfl <;> rfl
theorem ownParcels_mono {B B' : Nat} {w : World} {v : Value} {ps : List (Int × Int)} (h : OwnQ 108 B w v ps) (hB : B' ≤ B) : OwnQ 108 B' w v ps := by
  refine ⟨h.1, ?_⟩
  rcases h.2 with hn | ⟨g, cap, cur, e, hb, rest⟩
  · exact .inl hn
  · exact .inr ⟨g, cap, cur, e, Nat.le_trans hB hb, rest⟩
theorem ownParcels_empty {w : World} : OwnQ 108 w.heap.size (w.alloc (.cells #[] 108)) (.slice (some ⟨w.heap.size, 0, none⟩) 0 0) [] := World.ownsRow_made w #[] 0 (Nat.le_refl _) (Nat.zero_le _) rfl
theorem spl_lenw {b : UInt8} : ∀ {l : List UInt8} {w : List UInt8}, w ∈ spl b l → w.length ≤ l.length
  | [], w, h => by simp [spl] at h; simp [h]
  | c :: r, w, h => by
    by_cases e : c = b
    · subst e
      rw [spl_cons_eq] at h
      rcases List.mem_cons.1 h with rfl | h
      · simp
      · have := spl_lenw h; simp only [List.length_cons]; omega
    · rw [spl_cons_ne e] at h
      obtain ⟨x, xs, hx⟩ : ∃ x xs, spl b r = x :: xs := by
        cases h : spl b r with
        | nil => exact absurd h (spl_ne b r)
        | cons x xs => exact ⟨x, xs, rfl⟩
      rw [hx] at h
      rcases List.mem_cons.1 h with rfl | h
      · have := spl_lenw (b := b) (l := r) (w := x) (by rw [hx]; simp)
        simp only [List.headD_cons, List.length_cons]; omega
      · have := spl_lenw (b := b) (l := r) (w := w) (by rw [hx]; exact List.mem_cons_of_mem _ h)
        simp only [List.length_cons]; omega
theorem spl_short {b : UInt8} {l x : List UInt8} {r : List (List UInt8)} (h : spl b l = x :: r) (hx : x ≠ []) : (spl b l).length ≤ l.length := by
  have hj := spl_join b l
  rw [h] at hj ⊢
  have h1 := Lib.join_length x r [b]
  rw [hj] at h1
  have h2 : 0 < x.length := Nat.pos_of_ne_zero (fun e => hx (List.eq_nil_of_length_eq_zero e))
  have h3 : Lib.lens (x :: r) = x.length + Lib.lens r := by simp [Lib.lens]
  simp only [List.length_cons, List.length_nil] at h1 ⊢
  omega
theorem mapO_len {α : Type} {f : List UInt8 → Option α} : ∀ {ws : List (List UInt8)} {L : List α}, mapO f ws = some L → L.length = ws.length
  | [], L, e => by cases e; rfl
  | w :: ws, L, e => by
    unfold mapO at e
    split at e
    · cases e
    · split at e
      · cases e
      · rename_i a ha L' hL
        cases e
        rw [List.length_cons, List.length_cons, mapO_len hL]
theorem mapO_snoc {α : Type} {f : List UInt8 → Option α} {x : List UInt8} : ∀ {ws : List (List UInt8)} {L : List α}, mapO f ws = some L → mapO f (ws ++ [x]) = (f x).map (fun a => L ++ [a])
  | [], L, e => by
    cases e
    show mapO f [x] = _
    unfold mapO
    cases f x with
    | none => rfl
    | some a => rfl
  | w :: ws, L, e => by
    unfold mapO at e
    rw [List.cons_append, mapO]
    cases hw : f w with
    | none => rw [hw] at e; cases e
    | some a =>
      rw [hw] at e
      simp only at e ⊢
      cases hs : mapO f ws with
      | none => rw [hs] at e; cases e
      | some L' =>
        rw [hs] at e
        cases e
        rw [mapO_snoc hs]
        cases f x <;> rfl
theorem mapO_stop {α : Type} {f : List UInt8 → Option α} {x : List UInt8} (h : f x = none) : ∀ {ws : List (List UInt8)}, x ∈ ws → mapO f ws = none
  | w :: ws, hx => by
    unfold mapO
    rcases List.mem_cons.1 hx with rfl | hx
    · rw [h]
    · rw [mapO_stop h hx]
      cases f w <;> rfl
theorem row_typesW {T U : TypeId} (hT : T ≠ U) {lo lo' a b n n' : Nat} {w : World} {v u : Value} {xs ys : List Value} (h : w.ownsRow lo T a v n xs) (k : w.ownsRow lo' U b u n' ys) : ∀ p, v.ownBlock = some p → u.ownBlock = some p → False := by
  intro p hp hu
  rcases h.2 with ⟨rfl, _⟩ | ⟨g, cap, cur, rfl, _, hg, _⟩
  · simp [Value.ownBlock] at hp
  · rcases k.2 with ⟨rfl, _⟩ | ⟨g', cap', cur', rfl, _, hg', _⟩
    · simp [Value.ownBlock] at hu
    · simp [Value.ownBlock] at hp hu
      subst hp
      subst hu
      rw [hg] at hg'
      injection hg' with e
      injection e with _ e2 _
      exact hT e2
theorem ownW_some {w : World} {B n : Nat} {a : Option Addr} {c : Nat} {ws : List (List UInt8)} (h : OwnW B w (.slice a n c) ws) (hn : 0 < n) : ∃ g, a = some ⟨g, 0, none⟩ ∧ ws.length = n ∧ g < w.heap.size ∧ ∀ j, j < n → w.cell? ⟨g, j, none⟩ = some (vS (ws.getD j [])) := by
  obtain ⟨a', c', e⟩ := own_is h
  injection e with e1 e2 e3
  rcases h.2 with ⟨e', _⟩ | ⟨g, cap, cur, e', _⟩
  · injection e' with _ e' _; omega
  · injection e' with e4 e5 e6
    subst e4
    refine ⟨g, rfl, e2.symm, (World.ownsRow.lt h g rfl).2, fun j hj => ?_⟩
    have h' : w.ownsRow B 9 1 (.slice (some ⟨g, 0, none⟩) n c) n (ws.map vS) := by have := h; unfold OwnW at this; rw [← e2] at this; exact this
    exact OwnW.cell h' j hj

set_option maxHeartbeats 4000000 in
set_option maxRecDepth 100000 in
theorem sreadParcels_any (l : List UInt8) (hl : l.length ≤ 1048576) (w : World) :
    Calls Tryd.prog 26 #[.string (str l)] w (RetRdParcels w.heap.size w (rdRParcels l) (rdCParcels l)) := by
  obtain ⟨i0, hi, hz0, hz1, hz2⟩ := info_parts infoRdParcels
  obtain ⟨rr, hrr⟩ : ∃ r, rdRParcels l = r := ⟨_, rfl⟩
  obtain ⟨rc, hrc⟩ : ∃ r, rdCParcels l = r := ⟨_, rfl⟩
  rw [hrr, hrc]
  have HO1 : Hid (OwnQ 108 w.heap.size (w.alloc (.cells #[] 108)) (.slice (some ⟨w.heap.size, 0, none⟩) 0 0) []) := Lib.hid ownParcels_empty
  have HB1 : Hid (Below w.heap.size w (w.alloc (.cells #[] 108))) := Lib.hid ((Below.refl _ _).alloc (Nat.le_refl _) _)
  by_cases h0 : l = []
  · have e1 : rr = [] := by rw [← hrr, h0]; rfl
    have e2 : rc = 0 := by rw [← hrc, h0]; rfl
    subst e1; subst e2
    subst h0
    have e0 : (str []).toList = [] := ByteArray.toList_mk []
    clear hrr hrc hl
    go_enter Tryd.func26, Tryd.ntmps26
    go_wp2_with fail
    go_ret2
    exact ⟨_, rfl, HO1.out, HB1.out⟩
  have teq : ((str l).toList == []) = false := by
    rw [beq_eq_false_iff_ne]
    intro e
    apply h0
    have : (str l).toList = l := by unfold str; exact ByteArray.toList_mk l
    rw [← this]; exact e
  have hne : ¬ (str l).toList = [] := fun e => by rw [e] at teq; simp at teq
  obtain ⟨W1, hW1⟩ : ∃ W, w.alloc (.cells #[] 108) = W := ⟨_, rfl⟩
  have HW1 := Lib.hid hW1
  rw [hW1] at HO1 HB1
  have HSP := Lib.hid (ssplit_any l 32 hl W1)
  obtain ⟨ws, hws⟩ : ∃ ws, spl 32 l = ws := ⟨_, rfl⟩
  have HWS := Lib.hid hws
  rw [hws] at HSP
  have HRD : Hid (rdParcels l = match mapO (pairM 58 okWParcels) ws with | none => none | some L => if vldQ L = true then some L else none) := Lib.hid (by unfold rdParcels rdM; rw [if_neg h0, hws]; cases mapO (pairM 58 okWParcels) ws <;> rfl)
  have HRR := Lib.hid hrr
  have HRC := Lib.hid hrc
  have HFAIL : Hid (rdParcels l = none → rr = [] ∧ rc = 5) := Lib.hid (fun h => ⟨by rw [← hrr]; unfold rdRParcels; rw [h]; rfl, by rw [← hrc]; unfold rdCParcels; rw [h]; rfl⟩)
  have HWL : Hid (∀ x ∈ ws, x.length ≤ 1048576) := Lib.hid (fun x hx => by rw [← hws] at hx; have := spl_lenw hx; omega)
  have HWN : Hid (ws.length ≤ 1048577) := Lib.hid (by rw [← hws]; have := spl_count 32 l; omega)
  have HNL : Hid (∀ (L : List (Int × Int)), mapO (pairM 58 okWParcels) ws = some L → ws.length ≤ 1048576)   := Lib.hid (fun L hm => by
    cases hw : ws with
    | nil => simp
    | cons x r =>
      rw [hw] at hm
      have hx : x ≠ [] := by
        rintro rfl
        unfold mapO at hm
        rw [show pairM 58 okWParcels [] = none from rfl] at hm
        cases hm
      have := spl_short (b := 32) (l := l) (x := x) (r := r) (by rw [hws, hw]) hx
      rw [hws, hw] at this
      omega)
  clear hws hrr hrc h0 hl hW1
  go_enter Tryd.func26, Tryd.ntmps26
  go_wp2_with fail
  rw [HW1.out]
  refine HSP.out.mono ?_
  rintro e w2 ⟨sv, rfl, ows, b2⟩
  obtain ⟨sa, sc, hsv⟩ := own_is ows
  obtain ⟨nw, hnw⟩ : ∃ n, ws.length = n := ⟨_, rfl⟩
  have HNW := Lib.hid hnw
  rw [hnw] at hsv
  subst hsv
  have hnwl : nw ≤ 1048577 := by rw [← hnw]; exact HWN.out
  have HOW := Lib.hid ows
  have HB2 := Lib.hid (blink HB1.out b2)
  have HO2 := Lib.hid (HO1.out.below b2)
  clear ows b2 hnw HSP
  go_wp2_with fail
  go_loopw [4, 6] (fun ov iv wr => ∃ (k : Nat) (L : List (Int × Int)), k ≤ nw ∧ iv = .int .i64 k ∧ OwnQ 108 w.heap.size wr ov L ∧ OwnW W1.heap.size wr (.slice sa nw sc) ws ∧ mapO (pairM 58 okWParcels) (ws.take k) = some L ∧ FitsQ L ∧ Below w.heap.size w wr) (fun _ i _ => nw - (intOf i).toNat)
  case atStart => exact ⟨0, [], Nat.zero_le _, rfl, HO2.out, HOW.out, rfl, ((fun p hp => by cases hp) : FitsQ []), HB2.out⟩
  case round =>
    obtain ⟨k, L, hk, rfl, ho, hw, hm, hfit, hb⟩ := hrel
    have HO := Lib.hid ho
    have HW := Lib.hid hw
    have HM := Lib.hid hm
    have HFIT := Lib.hid hfit
    have HB := Lib.hid hb
    have hwr : w.heap.size ≤ wr.heap.size := hb.size
    have hLl : L.length = k := by have h := mapO_len hm; rw [List.length_take, HNW.out] at h; omega
    obtain ⟨la, lc, hlv⟩ := own_is ho
    rw [hLl] at hlv
    have HLL := Lib.hid hLl
    subst hlv
    by_cases hlt : k < nw
    · obtain ⟨g, rfl, _, hg, hcell⟩ := ownW_some hw (by omega)
      have hck := hcell k hlt
      obtain ⟨x, hx⟩ : ∃ x, ws.getD k [] = x := ⟨_, rfl⟩
      rw [hx] at hck
      have hck : wr.cell? ⟨g, k, none⟩ = some (.string (str x)) := hck
      have hxm : x ∈ ws := by rw [← hx]; simp [List.getD, show k < ws.length by rw [HNW.out]; exact hlt]
      have HXL : Hid (x.length ≤ 1048576) := Lib.hid (HWL.out x hxm)
      have hkn : (k : Int) < (nw : Int) := by omega
      have hk0 : (0 : Int) ≤ (k : Int) := by omega
      have HTK : Hid (ws.take (k + 1) = ws.take k ++ [x]) := Lib.hid (by rw [List.take_succ_eq_append_getElem (by rw [HNW.out]; exact hlt), ← hx]; simp [List.getD, show k < ws.length by rw [HNW.out]; exact hlt])
      have HSTOP : Hid (pairM 58 okWParcels x = none → rr = [] ∧ rc = 5) := Lib.hid (fun h => HFAIL.out (by rw [HRD.out, mapO_stop h hxm]))
      have HSX := Lib.hid (ssplit_any x 58 HXL.out wr)
      clear hx hxm hcell hw ho hm hfit hb hLl
      go_wp2_with fail
      refine HSX.out.mono ?_
      rintro e w3 ⟨pv, rfl, opv, b3⟩
      obtain ⟨pa, pc, hpv⟩ := own_is opv
      obtain ⟨ps, hps⟩ : ∃ ps, spl 58 x = ps := ⟨_, rfl⟩
      have HPS := Lib.hid hps
      rw [hps] at opv hpv
      obtain ⟨np, hnp⟩ : ∃ n, ps.length = n := ⟨_, rfl⟩
      rw [hnp] at hpv
      subst hpv
      have HB3 := Lib.hid (HB.out.trans (b3.mono hwr))
      have HO3 := Lib.hid (HO.out.below b3)
      have HW3 := Lib.hid (ownW_below HW.out b3)
      have HNP := Lib.hid hnp
      have HPO := Lib.hid opv
      have hnpl : np ≤ 1048577 := by rw [← hnp, ← hps]; have := spl_count 58 x; have := HXL.out; omega
      have hs3 : w.heap.size ≤ w3.heap.size := HB3.out.size
      clear opv b3 hnp hps hck HSX
      by_cases h2 : np = 2
      rotate_left
      · have t2 : ((np : Int) != 2) = true := by simp; omega
        obtain ⟨e1, e2⟩ := HSTOP.out (by
          unfold pairM
          rw [HPS.out]
          have h := HNP.out
          match ps, h with
          | [], _ => rfl
          | [_], _ => rfl
          | [_, _], h => exact absurd h.symm (fun e => h2 (by rw [e]; rfl))
          | _ :: _ :: _ :: _, _ => rfl)
        subst e1; subst e2
        have HOE : Hid (OwnQ 108 w3.heap.size (w3.alloc (.cells #[] 108)) (.slice (some ⟨w3.heap.size, 0, none⟩) 0 0) []) := Lib.hid ownParcels_empty
        clear h2
        go_wp2_with fail
        go_ret2
        exact ⟨_, rfl, ownParcels_mono HOE.out hs3, HB3.out.alloc hs3 _⟩
      subst h2
      obtain ⟨p, q, hpq⟩ : ∃ p q, ps = [p, q] := by
        have h := HNP.out
        match ps, h with
        | [p, q], _ => exact ⟨p, q, rfl⟩
      obtain ⟨g2, rfl, _, hg2, hcell2⟩ := ownW_some HPO.out (by omega)
      have cp : w3.cell? ⟨g2, 0, none⟩ = some (.string (str p)) := by have := hcell2 0 (by omega); rw [hpq] at this; exact this
      have cq : w3.cell? ⟨g2, 1, none⟩ = some (.string (str q)) := by have := hcell2 1 (by omega); rw [hpq] at this; exact this
      have HPQ : Hid (spl 58 x = [p, q]) := Lib.hid (by rw [HPS.out, hpq])
      have hpl : p.length ≤ 1048576 := by have := spl_lenw (b := 58) (l := x) (w := p) (by rw [HPQ.out]; simp); have := HXL.out; omega
      have hql : q.length ≤ 1048576 := by have := spl_lenw (b := 58) (l := x) (w := q) (by rw [HPQ.out]; simp); have := HXL.out; omega
      have HNp := Lib.hid (snum_any p hpl w3)
      have HNq := Lib.hid (snum_any q hql w3)
      have HPM : Hid (pairM 58 okWParcels x = match num p, num q with | some a, some b => if okWParcels a b = true then some ((a : Int), (b : Int)) else none | _, _ => none) := Lib.hid (by unfold pairM; rw [HPQ.out]; rfl)
      obtain ⟨rp, hrp⟩ : ∃ r, num p = r := ⟨_, rfl⟩
      obtain ⟨rq, hrq⟩ : ∃ r, num q = r := ⟨_, rfl⟩
      have HRP := Lib.hid hrp
      have HRQ := Lib.hid hrq
      rw [hrp] at HNp HPM
      rw [hrq] at HNq HPM
      have t2 : ((2 : Int) != 2) = false := by decide
      clear hpq hcell2 hpl hql hrp hrq HPS HNP
      go_wp2_with fail
      refine HNp.out.mono ?_
      rintro e _ ⟨rfl, rfl⟩
      go_wp2_with fail
      refine HNq.out.mono ?_
      rintro e _ ⟨rfl, rfl⟩
      clear HNp HNq cp cq
      have HOE : Hid (OwnQ 108 w3.heap.size (w3.alloc (.cells #[] 108)) (.slice (some ⟨w3.heap.size, 0, none⟩) 0 0) []) := Lib.hid ownParcels_empty
      cases rp with
      | none =>
        obtain ⟨e1, e2⟩ := HSTOP.out (by rw [HPM.out])
        subst e1; subst e2
        go_wp2_with fail
        go_ret2
        exact ⟨_, rfl, ownParcels_mono HOE.out hs3, HB3.out.alloc hs3 _⟩
      | some a =>
      cases rq with
      | none =>
        obtain ⟨e1, e2⟩ := HSTOP.out (by rw [HPM.out])
        subst e1; subst e2
        go_wp2_with fail
        go_ret2
        exact ⟨_, rfl, ownParcels_mono HOE.out hs3, HB3.out.alloc hs3 _⟩
      | some b =>
      have ha9 := (num_spec HRP.out).2
      have hb9 := (num_spec HRQ.out).2
      simp only [Option.getD_some, Option.isSome_some]
      by_cases hc0 : 9 ≤ a
      · have tc0 : decide ((9 : Int) ≤ (a : Int)) = true := decide_eq_true (by omega)
        obtain ⟨e1, e2⟩ := HSTOP.out (by rw [HPM.out]; simp only; rw [if_neg]; unfold okWParcels; simp; omega)
        subst e1; subst e2
        clear hc0
        go_wp2_with fail
        go_ret2
        exact ⟨_, rfl, ownParcels_mono HOE.out hs3, HB3.out.alloc hs3 _⟩
      have tc0 : decide ((9 : Int) ≤ (a : Int)) = false := decide_eq_false (by omega)
      by_cases hc1 : 5000 < b
      · have tc1 : decide ((5000 : Int) < (b : Int)) = true := decide_eq_true (by omega)
        obtain ⟨e1, e2⟩ := HSTOP.out (by rw [HPM.out]; simp only; rw [if_neg]; unfold okWParcels; simp; omega)
        subst e1; subst e2
        clear hc1
        go_wp2_with fail
        go_ret2
        exact ⟨_, rfl, ownParcels_mono HOE.out hs3, HB3.out.alloc hs3 _⟩
      have tc1 : decide ((5000 : Int) < (b : Int)) = false := decide_eq_false (by omega)
      have HYES : Hid (okWParcels a b = true) := Lib.hid (by unfold okWParcels; simp; omega)
      have HPY : Hid (pairM 58 okWParcels x = some ((a : Int), (b : Int))) := Lib.hid (by rw [HPM.out]; simp only; rw [if_pos HYES.out])
      have HM2 : Hid (mapO (pairM 58 okWParcels) (ws.take (k + 1)) = some (L ++ [((a : Int), (b : Int))])) := Lib.hid (by rw [HTK.out, mapO_snoc HM.out, HPY.out]; rfl)
      have HFIT2 : Hid (FitsQ (L ++ [((a : Int), (b : Int))])) := Lib.hid (fun p hp => by
        rcases List.mem_append.1 hp with hp | hp
        · exact HFIT.out p hp
        · have : p = ((a : Int), (b : Int)) := by simpa using hp
          subst this
          show (_ ∧ _) ∧ (_ ∧ _); simp only; omega)
      have HOA : Hid ((w3.alloc (.cells #[.int .i8 (a : Int), .int .i16 (b : Int)] 108)).ownsRow w.heap.size 108 2 (.slice la k lc) k (flatQ L)) := Lib.hid (by have h := World.ownsRow.alloc (show w3.ownsRow w.heap.size 108 2 (.slice la k lc) L.length (flatQ L) from HO3.out) (.cells #[.int .i8 (a : Int), .int .i16 (b : Int)] 108); rw [HLL.out] at h; exact h)
      have HWA : Hid (OwnW W1.heap.size (w3.alloc (.cells #[.int .i8 (a : Int), .int .i16 (b : Int)] 108)) (.slice (some ⟨g, 0, none⟩) nw sc) ws) := Lib.hid (ownW_below HW3.out ((Below.refl _ _).alloc (Nat.le_refl _) _))
      have HBA : Hid (Below w.heap.size w (w3.alloc (.cells #[.int .i8 (a : Int), .int .i16 (b : Int)] 108))) := Lib.hid (HB3.out.alloc hs3 _)
      clear HRP HRQ hg hg2
      go_wp2_with (first | (at_builtin; refine wpList_append_own _ rfl _ _ 41 rfl w.heap.size 108 i0 (.agg #[.int .i8 0, .int .i16 0]) 2 4 Tryd.underlying41 hi hz0 hz1 hz2 rfl (by decide) _ _ _ rfl HOA.out ⟨w3.heap.size, 0, none⟩ 1 1 [.int .i8 (a : Int), .int .i16 (b : Int)] rfl rfl newParcels onesParcels ?c3 ?c4 ?c5 ?_))
      case c3 => unfold maxLen; omega
      case c4 => omega
      case c5 => first | omega | (simp; omega)
      intro v' w9 hown' hgrow _
      have HO9 : Hid (OwnQ 108 w.heap.size w9 v' (L ++ [((a : Int), (b : Int))])) := Lib.hid (by
        unfold OwnQ
        rw [List.length_append, HLL.out]
        have e : flatQ (L ++ [((a : Int), (b : Int))]) = flatQ L ++ [.int .i8 (a : Int), .int .i16 (b : Int)] := by simp [flatQ, flatE, encQ]
        rw [e]
        exact hown')
      have HW9 : Hid (OwnW W1.heap.size w9 (.slice (some ⟨g, 0, none⟩) nw sc) ws) := Lib.hid (World.ownsRow.kept HWA.out hgrow (.inr (fun e => row_typesW (by decide) HWA.out HOA.out _ rfl (by rw [← e]; rfl))))
      have HB9 : Hid (Below w.heap.size w w9) := Lib.hid (HBA.out.grown hgrow (by simp; omega) (fun j e => (HOA.out.lt j e).1))
      clear hown' hgrow
      go_wp2_with fail
      go_roundw
      case rel => exact ⟨k + 1, _, by omega, by go_num, HO9.out, HW9.out, HM2.out, HFIT2.out, HB9.out⟩
      case measure => simp [intOf]; omega
    · have hkw : k = nw := by omega
      have HMA : Hid (mapO (pairM 58 okWParcels) ws = some L) := Lib.hid (by
        have h := hm
        rw [hkw, ← HNW.out, List.take_length] at h
        exact h)
      have HSV := Lib.hid (sokQ_any _ L wr HO.out.reads HFIT.out (by rw [HLL.out]; rw [hkw, ← HNW.out]; exact HNL.out L HMA.out))
      have HOE : Hid (∀ W, Below w.heap.size w W → OwnQ 108 w.heap.size (W.alloc (.cells #[] 108)) (.slice (some ⟨W.heap.size, 0, none⟩) 0 0) []) := Lib.hid (fun W h => ownParcels_mono ownParcels_empty h.size)
      clear hw ho hm hfit hb hLl hkw
      go_wp2_with fail
      refine HSV.out.mono ?_
      rintro e w4 ⟨rfl, b4⟩
      have HB4 := Lib.hid (HB.out.trans (b4.mono hwr))
      have HO4 := Lib.hid (HO.out.below b4)
      have hs4 : w.heap.size ≤ w4.heap.size := HB4.out.size
      clear b4 HSV
      cases hv : vldQ L with
      | false =>
        obtain ⟨e1, e2⟩ := HFAIL.out (by rw [HRD.out, HMA.out]; simp only; rw [if_neg (by rw [hv]; simp)])
        subst e1; subst e2
        go_wp2_with fail
        go_ret2
        exact ⟨_, rfl, HOE.out _ HB4.out, HB4.out.alloc hs4 _⟩
      | true =>
        have hsome : rdParcels l = some L := by rw [HRD.out, HMA.out]; simp only; rw [if_pos hv]
        have e1 : rr = L := by rw [← HRR.out]; unfold rdRParcels; rw [hsome]; rfl
        have e2 : rc = 0 := by rw [← HRC.out]; unfold rdCParcels; rw [hsome]; rfl
        subst e1
        subst e2
        clear hsome
        go_wp2_with fail
        go_ret2
        exact ⟨_, rfl, HO4.out, HB4.out⟩
end Go.Proofs.YtbclmafplaipaaaDoor
