/-
  Reading the text of a form: the model's ReadForm.
-/
import Derived.Test.YtbclmafplaipaaaDoorRfmS
import Derived.Test.YtbclmafplaipaaaDoorCuW
import Derived.Test.YtbclmafplaipaaaDoorTLine
namespace Go.Proofs.YtbclmafplaipaaaDoor
open Go Go.RowKit
set_option linter.unusedVariables false

def rfL (cs : List Ln4) (text : List UInt8) : List Ln4 := if vldC cs = true then (formM cs.length text).getD [] else []
def rfC (cs : List Ln4) (text : List UInt8) : Int := if vldC cs = true then (if (formM cs.length text).isSome = true then 0 else 5) else 1
def RetRf (B : Nat) (w : World) (ps : List Ln4) (c : Int) (e : Ending) (w' : World) : Prop := ∃ v, e = .returned (.tuple #[v, .int .i64 c]) ∧ OwnL 124 B w' v ps ∧ Below w.heap.size w w'
theorem rf_inv {cs : List Ln4} {text : List UInt8} (h : vldC cs = false) : rfL cs text = [] ∧ rfC cs text = 1 := by unfold rfL rfC; rw [h]; simp
theorem rf_no {cs : List Ln4} {text : List UInt8} (hc : vldC cs = true) (h : formM cs.length text = none) : rfL cs text = [] ∧ rfC cs text = 5 := by unfold rfL rfC; rw [hc, h]; simp
theorem rf_yes {cs : List Ln4} {text : List UInt8} {L : List Ln4} (hc : vldC cs = true) (h : formM cs.length text = some L) : rfL cs text = L ∧ rfC cs text = 0 := by unfold rfL rfC; rw [hc, h]; simp
theorem rfL_len (cs : List Ln4) (text : List UInt8) : (rfL cs text).length ≤ 10 := by
  cases hc : vldC cs with
  | false => rw [(rf_inv hc).1]; decide
  | true =>
    cases h : formM cs.length text with
    | none => rw [(rf_no hc h).1]; decide
    | some L => rw [(rf_yes hc h).1]; exact (vldF_spec (formM_of hc h).1).2.1
theorem ownF_empty {w : World} {B : Nat} (hB : B ≤ w.heap.size) : OwnL 124 B (w.alloc (.cells #[] 124)) (.slice (some ⟨w.heap.size, 0, none⟩) 0 0) [] := by
  refine ⟨by simp [flatL, flatE], .inr ⟨w.heap.size, _, _, rfl, hB, heap_alloc_new w _, Nat.le_refl _, by unfold maxLen; omega, by simp, by simp [flatL, flatE]⟩⟩
theorem newF {w : World} {x0 x1 x2 x3 : Value} {T : TypeId} : ∀ j u, ([x0, x1, x2, x3] : List Value)[j]? = some u → (w.alloc (.cells #[x0, x1, x2, x3] T)).cell? (Addr.add ⟨w.heap.size, 0, none⟩ j) = some u := by
  intro j u hj
  have e := cell_of_row (w.alloc (.cells #[x0, x1, x2, x3] T)) w.heap.size j _ T (0, 0) (heap_alloc_new w _)
  rw [show Addr.add ⟨w.heap.size, 0, none⟩ j = ⟨w.heap.size, j, none⟩ by unfold Addr.add; split <;> simp_all, e]
  simpa using hj
theorem onesF {x0 x1 x2 x3 : Int} : ∀ u ∈ ([Value.int .i8 x0, .int .i16 x1, .int .i32 x2, .int .i32 x3] : List Value), u.oneCell' = true := by
  intro u hu
  simp at hu
  rcases hu with rfl | rfl | rfl | rfl <;> rfl
theorem w32g {n : Nat} (h : n < 1000000000) : IntKind.i32.wrap (n : Int) = (n : Int) := by simp only [IntKind.wrap, IntKind.bits, IntKind.signed]; simp; omega
theorem spl_lenF {b : UInt8} : ∀ {l : List UInt8} {w : List UInt8}, w ∈ spl b l → w.length ≤ l.length
  | [], w, h => by simp [spl] at h; simp [h]
  | c :: r, w, h => by
    by_cases e : c = b
    · subst e
      rw [spl_cons_eq] at h
      rcases List.mem_cons.1 h with rfl | h
      · simp
      · have := spl_lenF h; simp only [List.length_cons]; omega
    · rw [spl_cons_ne e] at h
      obtain ⟨x, xs, hx⟩ : ∃ x xs, spl b r = x :: xs := by
        cases h : spl b r with
        | nil => exact absurd h (spl_ne b r)
        | cons x xs => exact ⟨x, xs, rfl⟩
      rw [hx] at h
      rcases List.mem_cons.1 h with rfl | h
      · have := spl_lenF (b := b) (l := r) (w := x) (by rw [hx]; simp)
        simp only [List.headD_cons, List.length_cons]; omega
      · have := spl_lenF (b := b) (l := r) (w := w) (by rw [hx]; exact List.mem_cons_of_mem _ h)
        simp only [List.length_cons]; omega
theorem mapO_lenF {α : Type} {f : List UInt8 → Option α} : ∀ {ws : List (List UInt8)} {L : List α}, mapO f ws = some L → L.length = ws.length
  | [], L, e => by cases e; rfl
  | w :: ws, L, e => by
    unfold mapO at e
    split at e
    · cases e
    · split at e
      · cases e
      · rename_i a ha L' hL
        cases e
        rw [List.length_cons, List.length_cons, mapO_lenF hL]
theorem mapO_snocF {α : Type} {f : List UInt8 → Option α} {x : List UInt8} : ∀ {ws : List (List UInt8)} {L : List α}, mapO f ws = some L → mapO f (ws ++ [x]) = (f x).map (fun a => L ++ [a])
  | [], L, e => by
    cases e
    show mapO f [x] = _
    unfold mapO
    cases f x with
    | none => rfl
    | some a => rfl
  | w :: ws, L, e => by
    unfold mapO at e
    rw [List.cons_append, mapO]
    cases hw : f w with
    | none => rw [hw] at e; cases e
    | some a =>
      rw [hw] at e
      simp only at e ⊢
      cases hs : mapO f ws with
      | none => rw [hs] at e; cases e
      | some L' =>
        rw [hs] at e
        cases e
        rw [mapO_snocF hs]
        cases f x <;> rfl
theorem mapO_stopF {α : Type} {f : List UInt8 → Option α} {x : List UInt8} (h : f x = none) : ∀ {ws : List (List UInt8)}, x ∈ ws → mapO f ws = none
  | w :: ws, hx => by
    unfold mapO
    rcases List.mem_cons.1 hx with rfl | hx
    · rw [h]
    · rw [mapO_stopF h hx]
      cases f w <;> rfl
theorem row_typesF {T U : TypeId} (hT : T ≠ U) {lo lo' a b n n' : Nat} {w : World} {v u : Value} {xs ys : List Value} (h : w.ownsRow lo T a v n xs) (k : w.ownsRow lo' U b u n' ys) : ∀ p, v.ownBlock = some p → u.ownBlock = some p → False := by
  intro p hp hu
  rcases h.2 with ⟨rfl, _⟩ | ⟨g, cap, cur, rfl, _, hg, _⟩
  · simp [Value.ownBlock] at hp
  · rcases k.2 with ⟨rfl, _⟩ | ⟨g', cap', cur', rfl, _, hg', _⟩
    · simp [Value.ownBlock] at hu
    · simp [Value.ownBlock] at hp hu
      subst hp
      subst hu
      rw [hg] at hg'
      injection hg' with e
      injection e with _ e2 _
      exact hT e2
theorem ownW_someF {w : World} {B n : Nat} {a : Option Addr} {c : Nat} {ws : List (List UInt8)} (h : OwnW B w (.slice a n c) ws) (hn : 0 < n) : ∃ g, a = some ⟨g, 0, none⟩ ∧ ws.length = n ∧ g < w.heap.size ∧ ∀ j, j < n → w.cell? ⟨g, j, none⟩ = some (vS (ws.getD j [])) := by
  obtain ⟨a', c', e⟩ := own_is h
  injection e with e1 e2 e3
  rcases h.2 with ⟨e', _⟩ | ⟨g, cap, cur, e', _⟩
  · injection e' with _ e' _; omega
  · injection e' with e4 e5 e6
    subst e4
    refine ⟨g, rfl, e2.symm, (World.ownsRow.lt h g rfl).2, fun j hj => ?_⟩
    have h' : w.ownsRow B 9 1 (.slice (some ⟨g, 0, none⟩) n c) n (ws.map vS) := by have := h; unfold OwnW at this; rw [← e2] at this; exact this
    exact OwnW.cell h' j hj

theorem snumsF_any (l : List UInt8) (hl : l.length ≤ 1048576) (w : World) :
    Calls Tryd.prog 90 #[.string (str l)] w fun e w' => ∃ (x0 x1 x2 x3 : Nat) (ok : Bool), e = .returned (.tuple #[.agg #[.int .i64 (x0 : Int), .int .i64 (x1 : Int), .int .i64 (x2 : Int), .int .i64 (x3 : Int)], .bool ok]) ∧ ((ok = true ∧ numG [58, 120, 47] l = some [x0, x1, x2, x3] ∧ x0 < 1000000000 ∧ x1 < 1000000000 ∧ x2 < 1000000000 ∧ x3 < 1000000000) ∨ (ok = false ∧ numG [58, 120, 47] l = none)) ∧ Below w.heap.size w w' := by
  refine (snums_any l hl w).mono ?_
  rintro e w' ⟨ns, ok, rfl, _, h9, h, hb⟩
  refine ⟨ns.getD 0 0, ns.getD 1 0, ns.getD 2 0, ns.getD 3 0, ok, rfl, ?_, hb⟩
  rcases h with ⟨rfl, h⟩ | ⟨rfl, h⟩
  · have hn := (numG_of h).2
    match ns, hn with
    | [a, b, c, d], _ => exact .inl ⟨rfl, h, h9 a (by simp), h9 b (by simp), h9 c (by simp), h9 d (by simp)⟩
  · exact .inr ⟨rfl, h⟩

set_option maxHeartbeats 3200000 in
set_option maxRecDepth 100000 in
theorem sreadF_any (v : Value) (cs : List Ln4) (l : List UInt8) (w : World) (hv : ReadsC w v cs) (hfc : FitsC cs) (hx : cs.length ≤ 1048576) (hl : l.length ≤ 1048576) :
    Calls Tryd.prog 37 #[v, .string (str l)] w (RetRf w.heap.size w (rfL cs l) (rfC cs l)) := by
  obtain ⟨o0, ho0, oz0, oz1, oz2⟩ := info_parts infoR_L
  have HINV := Lib.hid (fun h => rf_inv (cs := cs) (text := l) h)
  have HNO := Lib.hid (fun hc h => rf_no (cs := cs) (text := l) hc h)
  have HYES := Lib.hid (fun L hc h => rf_yes (cs := cs) (text := l) (L := L) hc h)
  obtain ⟨rr, hrr⟩ : ∃ r, rfL cs l = r := ⟨_, rfl⟩
  obtain ⟨rc, hrc⟩ : ∃ r, rfC cs l = r := ⟨_, rfl⟩
  rw [hrr, hrc] at HINV HNO HYES ⊢
  have ho1 := ownF_empty (w := w) (B := w.heap.size) (Nat.le_refl _)
  have b1 : Below w.heap.size w (w.alloc (.cells #[] 124)) := (Below.refl _ _).alloc (Nat.le_refl _) _
  obtain ⟨W1, hW1⟩ : ∃ W, w.alloc (.cells #[] 124) = W := ⟨_, rfl⟩
  have HW1 := Lib.hid hW1
  rw [hW1] at ho1 b1
  have HO1 := Lib.hid ho1
  have HB1 := Lib.hid b1
  have HVL := Lib.hid (sclasses_any v cs W1 (hv.below b1) hfc hx)
  have HSP := Lib.hid (fun W => ssplit_any l 10 hl W)
  obtain ⟨a, ccap, rfl, _⟩ := hv
  obtain ⟨nc, hnc⟩ : ∃ n, cs.length = n := ⟨_, rfl⟩
  have HNC := Lib.hid hnc
  rw [hnc] at HVL HNO HYES hx ⊢
  obtain ⟨ws, hws⟩ : ∃ ws, spl 10 l = ws := ⟨_, rfl⟩
  obtain ⟨n, hn⟩ : ∃ n, nF l = n := ⟨_, rfl⟩
  obtain ⟨nw, hnw⟩ : ∃ n, ws.length = n := ⟨_, rfl⟩
  have hnn : nw = n + 1 := by
    have h1 := List.length_pos_iff.2 (spl_ne 10 l)
    rw [hws, hnw] at h1
    unfold nF at hn
    rw [hws, hnw] at hn
    omega
  have HCON : Hid (¬ (ws.getD n [] = [] ∧ n ≤ 10) → formM nc l = none) := Lib.hid (fun h => by unfold formM; rw [hn, hws, if_neg h])
  have HFIN : Hid (ws.getD n [] = [] ∧ n ≤ 10 → formM nc l = mapO (lineM nc) (ws.take n)) := Lib.hid (fun h => by unfold formM; rw [hn, hws, if_pos h])
  rw [hws] at HSP
  have HWL : Hid (∀ x ∈ ws, x.length ≤ 1048576) := Lib.hid (fun x hx => by rw [← hws] at hx; have := spl_lenF hx; omega)
  have hnl : n ≤ 1048576 := by have h := spl_count 10 l; rw [hws, hnw] at h; omega
  have HNW := Lib.hid hnw
  have hn1 : (nw : Int) - 1 = (n : Int) := by omega
  have hnwl : nw ≤ 1048577 := by omega
  clear hws hn hrr hrc hl hnw hW1 ho1 b1 hfc hnc
  go_enter Tryd.func37, Tryd.ntmps37
  go_wp2_with fail
  rw [HW1.out]
  refine HVL.out.mono ?_
  rintro e w2 ⟨rfl, b2⟩
  have HB2 := Lib.hid (blink HB1.out b2)
  have HO2 := Lib.hid (HO1.out.below b2)
  clear b2 HVL
  cases hvc : vldC cs with
  | false =>
    obtain ⟨e1, e2⟩ := HINV.out hvc
    subst e1; subst e2
    clear hvc
    go_wp2_with fail
    go_ret2
    exact ⟨_, rfl, HO2.out, HB2.out⟩
  | true =>
  have HVC := Lib.hid hvc
  have hnc8 : nc ≤ 8 := by have := (vldC_spec hvc).1.2; rw [HNC.out] at this; exact this
  clear hvc
  go_wp2_with fail
  refine (HSP.out w2).mono ?_
  rintro e w3 ⟨sv, rfl, ows, b3⟩
  obtain ⟨sa, sc, hsv⟩ := own_is ows
  rw [HNW.out] at hsv
  subst hsv
  obtain ⟨g, rfl, _, hg3, hcell⟩ := ownW_someF (show OwnW w2.heap.size w3 (.slice sa nw sc) ws from ows) (by omega)
  obtain ⟨y, hy⟩ : ∃ y, ws.getD n [] = y := ⟨_, rfl⟩
  have hcy := hcell n (by omega)
  rw [hy] at hcy
  replace hcy : w3.cell? ⟨g, n, none⟩ = some (.string (str y)) := hcy
  have HOW := Lib.hid (show OwnW w2.heap.size w3 (.slice (some ⟨g, 0, none⟩) nw sc) ws from ows)
  have HBE := Lib.hid (blink HB2.out b3)
  have HO3 := Lib.hid (HO2.out.below b3)
  have hnr : (0 : Int) ≤ (n : Int) := by omega
  have hnr2 : (n : Int) < (nw : Int) := by omega
  clear ows b3 hcell HSP hg3
  by_cases hye : y = []
  rotate_left
  · have teq : ((str y).toList == []) = false := by
      rw [beq_eq_false_iff_ne]
      intro e
      apply hye
      have : (str y).toList = y := by unfold str; exact ByteArray.toList_mk y
      rw [← this]; exact e
    have hne : ¬ (str y).toList = [] := fun e => by rw [e] at teq; simp at teq
    obtain ⟨e1, e2⟩ := HNO.out HVC.out (by rw [← HNC.out] at HCON; rw [HNC.out] at HCON; exact HCON.out (by rw [hy]; exact fun h => hye h.1))
    subst e1; subst e2
    clear hye hy
    go_wp2_with fail
    go_ret2
    exact ⟨_, rfl, HO3.out, HBE.out⟩
  subst hye
  have e0 : (str []).toList = [] := ByteArray.toList_mk []
  by_cases hn10 : n ≤ 10
  rotate_left
  · have t3 : decide ((10 : Int) < (n : Int)) = true := decide_eq_true (by omega)
    have t3' : decide ((n : Int) > 10) = true := decide_eq_true (by omega)
    obtain ⟨e1, e2⟩ := HNO.out HVC.out (HCON.out (fun h => hn10 h.2))
    subst e1; subst e2
    clear hn10 hy
    go_wp2_with fail
    go_ret2
    exact ⟨_, rfl, HO3.out, HBE.out⟩
  have t3 : decide ((10 : Int) < (n : Int)) = false := decide_eq_false (by omega)
  have t3' : decide ((n : Int) > 10) = false := decide_eq_false (by omega)
  have HDEF := Lib.hid (HFIN.out ⟨hy, hn10⟩)
  clear hy HFIN HCON
  go_wp2_with fail
  clear hcy
  go_loopw [6, 9] (fun ov iv wr => ∃ (k : Nat) (L : List Ln4), k ≤ n ∧ iv = .int .i64 k ∧ OwnL 124 w.heap.size wr ov L ∧ OwnW w2.heap.size wr (.slice (some ⟨g, 0, none⟩) nw sc) ws ∧ mapO (lineM nc) (ws.take k) = some L ∧ Below w.heap.size w wr) (fun _ i _ => n - (intOf i).toNat)
  case atStart => exact ⟨0, [], Nat.zero_le _, rfl, HO3.out, HOW.out, rfl, HBE.out⟩
  case round =>
    obtain ⟨k, L, hk, rfl, ho, hw, hm, hb⟩ := hrel
    have HO := Lib.hid ho
    have HW := Lib.hid hw
    have HM := Lib.hid hm
    have HB := Lib.hid hb
    have hwr : w.heap.size ≤ wr.heap.size := hb.size
    have hLl : L.length = k := by have h := mapO_lenF hm; rw [List.length_take, HNW.out] at h; omega
    obtain ⟨la, lc, hlv⟩ := own_is ho
    rw [hLl] at hlv
    have HLL := Lib.hid hLl
    subst hlv
    by_cases hlt : k < n
    · obtain ⟨g', hgg, _, hg, hcell⟩ := ownW_someF hw (by omega)
      injection hgg with hgg
      injection hgg with hgg
      subst hgg
      obtain ⟨x, hx⟩ : ∃ x, ws.getD k [] = x := ⟨_, rfl⟩
      have hck := hcell k (by omega)
      rw [hx] at hck
      replace hck : wr.cell? ⟨g, k, none⟩ = some (.string (str x)) := hck
      have hkl : k < ws.length := by rw [HNW.out]; omega
      have hxm : x ∈ ws.take n := by
        rw [← hx]
        refine List.mem_iff_getElem.2 ⟨k, by rw [List.length_take]; omega, ?_⟩
        rw [List.getElem_take]
        simp [List.getD, hkl]
      have HXL : Hid (x.length ≤ 1048576) := Lib.hid (HWL.out x (List.mem_of_mem_take hxm))
      have hkn : (k : Int) < (n : Int) := by omega
      have hk0 : (0 : Int) ≤ (k : Int) := by omega
      have hkw : (k : Int) < (nw : Int) := by omega
      have HTK : Hid (ws.take (k + 1) = ws.take k ++ [x]) := Lib.hid (by rw [List.take_succ_eq_append_getElem hkl, ← hx]; simp [List.getD, hkl])
      have HSTOP : Hid (lineM nc x = none → rr = [] ∧ rc = 5) := Lib.hid (fun h => HNO.out HVC.out (by rw [HDEF.out, mapO_stopF h hxm]))
      have HSN := Lib.hid (snumsF_any x HXL.out wr)
      have HLM : Hid (lineM nc x = match numG [58, 120, 47] x with
        | some [a, b, c, d] => if okL nc ((a : Int), (b : Int), (c : Int), (d : Int)) then some ((a : Int), (b : Int), (c : Int), (d : Int)) else none
        | _ => none) := Lib.hid rfl
      obtain ⟨ng, hng⟩ : ∃ r, numG [58, 120, 47] x = r := ⟨_, rfl⟩
      rw [hng] at HSN HLM
      clear hx hxm hcell hw ho hm hb hLl hng hg hkl
      go_wp2_with fail
      refine HSN.out.mono ?_
      rintro e w4 ⟨x0, x1, x2, x3, ok, rfl, hok, b4⟩
      have HOK := Lib.hid hok
      have HBR := Lib.hid b4
      have HB4 := Lib.hid (HB.out.trans (b4.mono hwr))
      have hs4 : w.heap.size ≤ w4.heap.size := HB4.out.size
      have HBE4 : Hid (∀ X, Below w.heap.size w (w4.alloc X)) := Lib.hid (fun X => HB4.out.alloc hs4 X)
      clear hok b4 HSN hck
      rcases HOK.out with ⟨rfl, hg1, h0, h1, h2, h3⟩ | ⟨rfl, hg1⟩
      rotate_left
      · obtain ⟨e1, e2⟩ := HSTOP.out (by rw [HLM.out, hg1])
        subst e1; subst e2
        have HE := Lib.hid (ownF_empty (w := w4.alloc (.cells #[.int .i64 (x0 : Int), .int .i64 (x1 : Int), .int .i64 (x2 : Int), .int .i64 (x3 : Int)] 120)) (B := w.heap.size) (by simp; omega))
        have HE2 := Lib.hid ((HBE4.out (.cells #[.int .i64 (x0 : Int), .int .i64 (x1 : Int), .int .i64 (x2 : Int), .int .i64 (x3 : Int)] 120)).alloc (by simp; omega) (.cells #[] 124))
        rw [World.size_alloc] at HE
        clear hg1 HOK
        go_wp2_with fail
        go_ret2
        exact ⟨_, rfl, HE.out, HE2.out⟩
      by_cases hc : okL nc ((x0 : Int), (x1 : Int), (x2 : Int), (x3 : Int))
      rotate_left
      · obtain ⟨e1, e2⟩ := HSTOP.out (by rw [HLM.out, hg1]; simp only; rw [if_neg hc])
        subst e1; subst e2
        have HE := Lib.hid (ownF_empty (w := w4.alloc (.cells #[.int .i64 (x0 : Int), .int .i64 (x1 : Int), .int .i64 (x2 : Int), .int .i64 (x3 : Int)] 120)) (B := w.heap.size) (by simp; omega))
        have HE2 := Lib.hid ((HBE4.out (.cells #[.int .i64 (x0 : Int), .int .i64 (x1 : Int), .int .i64 (x2 : Int), .int .i64 (x3 : Int)] 120)).alloc (by simp; omega) (.cells #[] 124))
        rw [World.size_alloc] at HE
        by_cases hx0 : nc ≤ x0
        · have u0 : decide ((x0 : Int) ≥ (nc : Int)) = true := decide_eq_true (by omega)
          have u0' : (nc : Int) ≤ (x0 : Int) := by omega
          have u0n : ¬ x0 < nc := by omega
          have u0m : nc ≤ x0 := hx0
          clear hg1 HOK hc h0 h1 h2 h3
          go_wp2_with fail
          go_ret2
          exact ⟨_, rfl, HE.out, HE2.out⟩
        have u0 : decide ((x0 : Int) ≥ (nc : Int)) = false := decide_eq_false (by omega)
        have u0' : decide ((nc : Int) ≤ (x0 : Int)) = false := decide_eq_false (by omega)
        have u0n : x0 < nc := by omega
        by_cases hx1 : 1000 < x1
        · have u1 : decide ((x1 : Int) > 1000) = true := decide_eq_true (by omega)
          have u1' : (1000 : Int) < (x1 : Int) := by omega
          clear hg1 HOK hc h0 h1 h2 h3
          go_wp2_with fail
          go_ret2
          exact ⟨_, rfl, HE.out, HE2.out⟩
        have u1 : decide ((x1 : Int) > 1000) = false := decide_eq_false (by omega)
        have u1' : decide ((1000 : Int) < (x1 : Int)) = false := decide_eq_false (by omega)
        have v0 := w8f (n := x0) (by omega)
        have v1 := w16f (n := x1) (by omega)
        have v2 := w32g h2
        have v3 := w32g h3
        have HLN := Lib.hid (fun W => sline_any nc (x0 : Int) (x1 : Int) (x2 : Int) (x3 : Int) hx (by unfold FitL; simp only; omega) W)
        rw [lineB_false hc] at HLN
        have bA : Below w4.heap.size w4 ((w4.alloc (.cells #[.int .i64 (x0 : Int), .int .i64 (x1 : Int), .int .i64 (x2 : Int), .int .i64 (x3 : Int)] 120)).alloc (.cells #[.int .i8 (x0 : Int), .int .i16 (x1 : Int), .int .i32 (x2 : Int), .int .i32 (x3 : Int)] 124)) := ((Below.refl _ _).alloc (Nat.le_refl _) _).alloc (by simp) _
        have HBA := Lib.hid bA
        clear hg1 HOK hc h0 h1 h2 h3 bA HE HE2
        go_wp2_with fail
        refine (HLN.out _).mono ?_
        rintro e w5 ⟨rfl, b5⟩
        have HB5 := Lib.hid (HB4.out.trans ((blink HBA.out b5).mono hs4))
        have hs5 : w.heap.size ≤ w5.heap.size := HB5.out.size
        clear b5
        go_wp2_with fail
        go_ret2
        exact ⟨_, rfl, ownF_empty hs5, HB5.out.alloc hs5 _⟩
      have hcc := hc
      unfold okL at hcc
      simp only at hcc
      have u0 : decide ((x0 : Int) ≥ (nc : Int)) = false := decide_eq_false (by omega)
      have u0' : decide ((nc : Int) ≤ (x0 : Int)) = false := decide_eq_false (by omega)
      have u0n : x0 < nc := by omega
      have u1 : decide ((x1 : Int) > 1000) = false := decide_eq_false (by omega)
      have u1' : decide ((1000 : Int) < (x1 : Int)) = false := decide_eq_false (by omega)
      have v0 := w8f (n := x0) (by omega)
      have v1 := w16f (n := x1) (by omega)
      have v2 := w32g h2
      have v3 := w32g h3
      have HLN := Lib.hid (fun W => sline_any nc (x0 : Int) (x1 : Int) (x2 : Int) (x3 : Int) hx (by unfold FitL; simp only; omega) W)
      rw [lineB_true hc] at HLN
      have bA : Below w4.heap.size w4 ((w4.alloc (.cells #[.int .i64 (x0 : Int), .int .i64 (x1 : Int), .int .i64 (x2 : Int), .int .i64 (x3 : Int)] 120)).alloc (.cells #[.int .i8 (x0 : Int), .int .i16 (x1 : Int), .int .i32 (x2 : Int), .int .i32 (x3 : Int)] 124)) := ((Below.refl _ _).alloc (Nat.le_refl _) _).alloc (by simp) _
      have BLA : BlkA ((w4.alloc (.cells #[.int .i64 (x0 : Int), .int .i64 (x1 : Int), .int .i64 (x2 : Int), .int .i64 (x3 : Int)] 120)).alloc (.cells #[.int .i8 (x0 : Int), .int .i16 (x1 : Int), .int .i32 (x2 : Int), .int .i32 (x3 : Int)] 124)) (w4.heap.size + 1) 124 #[.int .i8 (x0 : Int), .int .i16 (x1 : Int), .int .i32 (x2 : Int), .int .i32 (x3 : Int)] := BlkA.new (by simp) _ _
      have HBA := Lib.hid bA
      have HBLA := Lib.hid BLA
      have HPY : Hid (lineM nc x = some ((x0 : Int), (x1 : Int), (x2 : Int), (x3 : Int))) := Lib.hid (by rw [HLM.out, hg1]; simp only; rw [if_pos hc])
      have HM2 : Hid (mapO (lineM nc) (ws.take (k + 1)) = some (L ++ [((x0 : Int), (x1 : Int), (x2 : Int), (x3 : Int))])) := Lib.hid (by rw [HTK.out, mapO_snocF HM.out, HPY.out]; rfl)
      clear hg1 HOK hc h0 h1 h2 h3 bA BLA hcc HPY
      go_wp2_with fail
      refine (HLN.out _).mono ?_
      rintro e w5 ⟨rfl, b5⟩
      have b45 : Below w4.heap.size w4 w5 := blink HBA.out b5
      have HB5 := Lib.hid (HB4.out.trans (b45.mono hs4))
      have hs5 : w.heap.size ≤ w5.heap.size := HB5.out.size
      have hbl5 := HBLA.out.below b5
      have y0 := hbl5.at 0
      have y1 := hbl5.at 1
      have y2 := hbl5.at 2
      have y3 := hbl5.at 3
      have br5 : Below wr.heap.size wr w5 := blink HBR.out b45
      have HOA : Hid ((w5.alloc (.cells #[.int .i8 (x0 : Int), .int .i16 (x1 : Int), .int .i32 (x2 : Int), .int .i32 (x3 : Int)] 124)).ownsRow w.heap.size 124 4 (.slice la k lc) k (flatL L)) := Lib.hid (by have h := World.ownsRow.alloc (show w5.ownsRow w.heap.size 124 4 (.slice la k lc) L.length (flatL L) from HO.out.below br5) (.cells #[.int .i8 (x0 : Int), .int .i16 (x1 : Int), .int .i32 (x2 : Int), .int .i32 (x3 : Int)] 124); rw [HLL.out] at h; exact h)
      have HWA : Hid (OwnW w2.heap.size (w5.alloc (.cells #[.int .i8 (x0 : Int), .int .i16 (x1 : Int), .int .i32 (x2 : Int), .int .i32 (x3 : Int)] 124)) (.slice (some ⟨g, 0, none⟩) nw sc) ws) := Lib.hid (ownW_below (ownW_below HW.out br5) ((Below.refl _ _).alloc (Nat.le_refl _) _))
      have HBAA : Hid (Below w.heap.size w (w5.alloc (.cells #[.int .i8 (x0 : Int), .int .i16 (x1 : Int), .int .i32 (x2 : Int), .int .i32 (x3 : Int)] 124))) := Lib.hid (HB5.out.alloc hs5 _)
      clear b5 b45 br5 hbl5
      go_wp2_with (at_builtin; refine wpList_append_own _ rfl _ _ 53 rfl w.heap.size 124 o0 (.agg #[.int .i8 0, .int .i16 0, .int .i32 0, .int .i32 0]) 4 12 Tryd.underlying53 ho0 oz0 oz1 oz2 rfl (by decide) _ _ _ rfl HOA.out ⟨w5.heap.size, 0, none⟩ 1 1 [.int .i8 (x0 : Int), .int .i16 (x1 : Int), .int .i32 (x2 : Int), .int .i32 (x3 : Int)] rfl rfl newF onesF ?c3 ?c4 ?c5 ?_)
      case c3 => unfold maxLen; omega
      case c4 => omega
      case c5 => first | omega | (simp; omega)
      intro v' w9 hown' hgrow _
      have HO9 : Hid (OwnL 124 w.heap.size w9 v' (L ++ [((x0 : Int), (x1 : Int), (x2 : Int), (x3 : Int))])) := Lib.hid (by
        unfold OwnL
        rw [List.length_append, HLL.out]
        have e : flatL (L ++ [((x0 : Int), (x1 : Int), (x2 : Int), (x3 : Int))]) = flatL L ++ [.int .i8 (x0 : Int), .int .i16 (x1 : Int), .int .i32 (x2 : Int), .int .i32 (x3 : Int)] := by simp [flatL, flatE, encL]
        rw [e]
        exact hown')
      have HW9 : Hid (OwnW w2.heap.size w9 (.slice (some ⟨g, 0, none⟩) nw sc) ws) := Lib.hid (World.ownsRow.kept HWA.out hgrow (.inr (fun e => row_typesF (by decide) HWA.out HOA.out _ rfl (by rw [← e]; rfl))))
      have HB9 : Hid (Below w.heap.size w w9) := Lib.hid (HBAA.out.grown hgrow (by simp; omega) (fun j e => (HOA.out.lt j e).1))
      clear hown' hgrow
      go_wp2_with fail
      go_roundw
      case rel => exact ⟨k + 1, _, by omega, by go_num, HO9.out, HW9.out, HM2.out, HB9.out⟩
      case measure => simp [intOf]; omega
    · have hkn : k = n := by omega
      subst hkn
      obtain ⟨e1, e2⟩ := HYES.out L HVC.out (by rw [HDEF.out]; exact hm)
      subst e1; subst e2
      have tkk : decide ((k : Int) < (k : Int)) = false := decide_eq_false (by omega)
      clear hw ho hm hb hLl
      go_wp2_with fail
      go_ret2
      exact ⟨_, rfl, HO.out, HB.out⟩
end Go.Proofs.YtbclmafplaipaaaDoor
