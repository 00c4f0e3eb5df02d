/-
  Rows of pairs of int16 (a stock's stamps) in memory; contracts of the laws' helpers over them.
-/
import Derived.Test.YtbclmafplaipaaaDoorIn
import Derived.StillTailTactics
import Derived.Laws.ResultCell
namespace Go.Proofs.YtbclmafplaipaaaDoor
open Go Go.RowKit
set_option linter.unusedVariables false

/-! ### Rows of records: each element is k cells -/
def flatE {α : Type} (enc : α → List Value) (ps : List α) : List Value := ps.flatMap enc
theorem flatE_length {α : Type} {enc : α → List Value} {k : Nat} (hk : ∀ p, (enc p).length = k) (ps : List α) : (flatE enc ps).length = ps.length * k := by
  induction ps with
  | nil => simp [flatE]
  | cons p ps ih =>
    have e : flatE enc (p :: ps) = enc p ++ flatE enc ps := rfl
    rw [e, List.length_append, ih, hk, List.length_cons, Nat.succ_mul, Nat.add_comm]
theorem flatE_get {α : Type} {enc : α → List Value} {k : Nat} (hk : ∀ p, (enc p).length = k) (ps : List α) (i j : Nat) (hi : i < ps.length) (hj : j < k) : (flatE enc ps)[i * k + j]? = (enc (ps[i]))[j]? := by
  induction ps generalizing i with
  | nil => simp at hi
  | cons p ps ih =>
    have e : flatE enc (p :: ps) = enc p ++ flatE enc ps := rfl
    rw [e]
    cases i with
    | zero => rw [Nat.zero_mul, Nat.zero_add, List.getElem?_append_left (by rw [hk]; exact hj)]; rfl
    | succ i =>
      rw [List.getElem?_append_right (by rw [hk, Nat.succ_mul]; omega), hk]
      have e2 : (i + 1) * k + j - k = i * k + j := by rw [Nat.succ_mul]; omega
      rw [e2, ih i (by simpa using hi)]
      rfl
/-- A field written: the list with the same element changed by that field. -/
theorem flatE_set {α : Type} {enc : α → List Value} {k : Nat} (hk : ∀ p, (enc p).length = k) (ps : List α) (i j : Nat) (u : Value) (q : α) (hi : i < ps.length) (hj : j < k) (hq : enc q = (enc (ps[i])).set j u) :
    (flatE enc ps).set (i * k + j) u = flatE enc (ps.set i q) := by
  induction ps generalizing i with
  | nil => simp at hi
  | cons p ps ih =>
    have e : flatE enc (p :: ps) = enc p ++ flatE enc ps := rfl
    rw [e]
    cases i with
    | zero =>
      have e3 : flatE enc ((p :: ps).set 0 q) = enc q ++ flatE enc ps := rfl
      rw [Nat.zero_mul, Nat.zero_add, List.set_append_left _ _ (by rw [hk]; exact hj), e3, hq]; rfl
    | succ i =>
      have e3 : flatE enc ((p :: ps).set (i + 1) q) = enc p ++ flatE enc (ps.set i q) := rfl
      rw [List.set_append_right _ _ (by rw [hk, Nat.succ_mul]; omega), hk, e3]
      have e2 : (i + 1) * k + j - k = i * k + j := by rw [Nat.succ_mul]; omega
      rw [e2, ih i (by simpa using hi) (by simpa using hq)]

/-- A pair of int16. -/
def encP (p : Int × Int) : List Value := [.int .i16 p.1, .int .i16 p.2]
theorem encP_len (p : Int × Int) : (encP p).length = 2 := rfl
def flatP (ps : List (Int × Int)) : List Value := flatE encP ps
theorem flatP_length (ps : List (Int × Int)) : (flatP ps).length = ps.length * 2 := flatE_length encP_len ps
theorem flatP_0 (ps : List (Int × Int)) (i : Nat) (hi : i < ps.length) : (flatP ps)[i * 2]? = some (.int .i16 (ps.getD i (0, 0)).1) := by
  have h := flatE_get encP_len ps i 0 hi (by omega)
  rw [Nat.add_zero] at h
  unfold flatP
  rw [h]; simp [encP, List.getD, hi]
theorem flatP_1 (ps : List (Int × Int)) (i : Nat) (hi : i < ps.length) : (flatP ps)[i * 2 + 1]? = some (.int .i16 (ps.getD i (0, 0)).2) := by
  have h := flatE_get encP_len ps i 1 hi (by omega)
  unfold flatP
  rw [h]; simp [encP, List.getD, hi]
theorem flatP_set (ps : List (Int × Int)) (i : Nat) (x y : Int) (hi : i < ps.length) : ((flatP ps).set (i * 2) (.int .i16 x)).set (i * 2 + 1) (.int .i16 y) = flatP (ps.set i (x, y)) := by
  unfold flatP
  have h1 := flatE_set encP_len ps i 0 (.int .i16 x) (x, (ps[i]).2) hi (by omega) rfl
  rw [Nat.add_zero] at h1
  rw [h1]
  have h2 := flatE_set encP_len (ps.set i (x, (ps[i]).2)) i 1 (.int .i16 y) (x, y) (by simpa using hi) (by omega) (by simp [encP])
  rw [h2, List.set_set]

/-- The cells of block b read as pairs. -/
def CellsP (w : World) (b : Nat) (ps : List (Int × Int)) : Prop := ∀ i, i < ps.length → w.cell? ⟨b, i * 2, none⟩ = some (.int .i16 (ps.getD i (0, 0)).1) ∧ w.cell? ⟨b, i * 2 + 1, none⟩ = some (.int .i16 (ps.getD i (0, 0)).2)
theorem CellsP.below {w w' : World} {b : Nat} {ps : List (Int × Int)} (h : CellsP w b ps) (hb : Below w.heap.size w w') : CellsP w' b ps := fun i hi => by
  obtain ⟨h0, h1⟩ := h i hi
  rw [hb.cell (p := ⟨b, i * 2, none⟩) (World.block_lt_of_cell? w _ h0), hb.cell (p := ⟨b, i * 2 + 1, none⟩) (World.block_lt_of_cell? w _ h1)]
  exact ⟨h0, h1⟩
/-- The slice value v is the call's own: a row of pairs of type T. -/
def OwnP (T : TypeId) (B : Nat) (w : World) (v : Value) (ps : List (Int × Int)) : Prop := w.ownsRow B T 2 v ps.length (flatP ps)
theorem OwnP.cases {T : TypeId} {B : Nat} {w : World} {v : Value} {ps : List (Int × Int)} (h : OwnP T B w v ps) :
    (v = .slice none 0 0 ∧ ps = []) ∨ ∃ g cap, v = .slice (some ⟨g, 0, none⟩) ps.length cap ∧ B ≤ g ∧ g < w.heap.size ∧ ps.length ≤ cap ∧ cap ≤ maxLen ∧ CellsP w g ps ∧ (∀ j, w.frozen? ⟨g, j, none⟩ = false) := by
  rcases h.2 with ⟨rfl, h0⟩ | ⟨g, cap, cur, rfl, hb, hg, hn, hm, _, _⟩
  · exact .inl ⟨rfl, List.eq_nil_of_length_eq_zero h0⟩
  · refine .inr ⟨g, cap, rfl, hb, (Array.getElem?_eq_some_iff.1 hg).1, hn, hm, fun i hi => ⟨?_, ?_⟩, fun j => World.ownsRow.frozenAt h j⟩
    · rw [World.ownsRow.cellAt h (i * 2) (by omega), flatP_0 ps i hi]
    · rw [World.ownsRow.cellAt h (i * 2 + 1) (by omega), flatP_1 ps i hi]
theorem OwnP.below {T : TypeId} {B : Nat} {w w' : World} {v : Value} {ps : List (Int × Int)} (h : OwnP T B w v ps) (hb : Below w.heap.size w w') : OwnP T B w' v ps := by
  refine ⟨h.1, ?_⟩
  rcases h.2 with hn | ⟨g, cap, cur, rfl, hB, hg, rest⟩
  · exact .inl hn
  · exact .inr ⟨g, cap, cur, rfl, hB, by rw [hb.block g (Array.getElem?_eq_some_iff.1 hg).1]; exact hg, rest⟩
def ReadsP (w : World) (v : Value) (ps : List (Int × Int)) : Prop := ∃ (a : Option Addr) (cap : Nat), v = .slice a ps.length cap ∧ (ps ≠ [] → ∃ b, a = some ⟨b, 0, none⟩ ∧ CellsP w b ps)
theorem OwnP.reads {T : TypeId} {B : Nat} {w : World} {v : Value} {ps : List (Int × Int)} (h : OwnP T B w v ps) : ReadsP w v ps := by
  rcases h.cases with ⟨rfl, rfl⟩ | ⟨g, cap, rfl, _, _, _, _, hc, _⟩
  · exact ⟨none, 0, rfl, fun h => absurd rfl h⟩
  · exact ⟨_, cap, rfl, fun _ => ⟨g, rfl, hc⟩⟩
theorem ReadsP.below {w w' : World} {v : Value} {ps : List (Int × Int)} (h : ReadsP w v ps) (hb : Below w.heap.size w w') : ReadsP w' v ps := by
  obtain ⟨a, cap, rfl, h⟩ := h
  exact ⟨a, cap, rfl, fun hx => by obtain ⟨b, rfl, hc⟩ := h hx; exact ⟨b, rfl, hc.below hb⟩⟩
/-- A slice of pairs that came in. -/
def IsRowP (w : World) (a : Option Addr) (len cap : Nat) (ps : List (Int × Int)) : Prop :=
  (a = none ∧ len = 0 ∧ cap = 0 ∧ ps = []) ∨
  ∃ x, a = some x ∧ len ≤ cap ∧ cap ≤ maxLen ∧ ps.length = len ∧ ∀ i, i < ps.length → w.cell? (x.add (i * 2)) = some (.int .i16 (ps.getD i (0, 0)).1) ∧ w.cell? (x.add (i * 2 + 1)) = some (.int .i16 (ps.getD i (0, 0)).2)
theorem IsRowP.below {w w' : World} {a : Option Addr} {len cap : Nat} {ps : List (Int × Int)} (h : IsRowP w a len cap ps) (hb : Below w.heap.size w w') : IsRowP w' a len cap ps := by
  rcases h with h | ⟨x, rfl, h1, h2, h3, h4⟩
  · exact .inl h
  · refine .inr ⟨x, rfl, h1, h2, h3, fun i hi => ?_⟩
    obtain ⟨g0, g1⟩ := h4 i hi
    rw [hb.cell (World.block_lt_of_cell? w _ g0), hb.cell (World.block_lt_of_cell? w _ g1)]
    exact ⟨g0, g1⟩
theorem IsRowP.len_eq {w : World} {a : Option Addr} {len cap : Nat} {ps : List (Int × Int)} (h : IsRowP w a len cap ps) : ps.length = len := by
  rcases h with ⟨_, rfl, _, rfl⟩ | ⟨x, rfl, h1, h2, h3, h4⟩
  · rfl
  · exact h3

theorem info_stamp : (Tryd.prog.info? 82).map (fun i => (i.zero, i.size, i.bytes)) = some (some (.agg #[.int .i16 0, .int .i16 0]), 2, 4) := by kernel_rfl

/-- What 'toStampS' has copied after k rounds. -/
def copiedP (ps : List (Int × Int)) (k : Nat) : List (Int × Int) := ps.take k ++ List.replicate (ps.length - k) (0, 0)
theorem copiedP_zero (ps : List (Int × Int)) : copiedP ps 0 = List.replicate ps.length (0, 0) := by simp [copiedP]
theorem copiedP_all (ps : List (Int × Int)) : copiedP ps ps.length = ps := by simp [copiedP]
theorem copiedP_length (ps : List (Int × Int)) (k : Nat) (h : k ≤ ps.length) : (copiedP ps k).length = ps.length := by simp [copiedP]; omega
theorem copiedP_set (ps : List (Int × Int)) (k : Nat) (h : k < ps.length) : (copiedP ps k).set k (ps.getD k (0, 0)) = copiedP ps (k + 1) := by
  have h1 : (List.take k ps).length = k := by simp; omega
  have h2 : ps.length - k = (ps.length - (k + 1)) + 1 := by omega
  unfold copiedP
  rw [List.set_append_right _ _ (by omega), h1, Nat.sub_self, h2, List.replicate_succ, List.set_cons_zero]
  rw [List.take_succ_eq_append_getElem h, List.append_assoc]
  simp [List.getD, h]
theorem made_pairs (n : Nat) : (madeCells (Value.agg #[.int .i16 0, .int .i16 0]).cells (n * 2)).toList = flatP (List.replicate n (0, 0)) := by
  apply List.ext_getElem?
  intro j
  have hs : (Value.agg #[.int .i16 0, .int .i16 0]).cells = #[.int .i16 0, .int .i16 0] := rfl
  rw [hs]
  have hl : (flatP (List.replicate n ((0 : Int), (0 : Int)))).length = n * 2 := by rw [flatP_length]; simp
  by_cases hj : j < n * 2
  · have e : (flatP (List.replicate n ((0 : Int), (0 : Int))))[j]? = some (.int .i16 0) := by
      have h2 : j = (j / 2) * 2 ∨ j = (j / 2) * 2 + 1 := by omega
      rcases h2 with h2 | h2
      · rw [h2, flatP_0 _ _ (by simp; omega)]; simp [List.getD, show j / 2 < n by omega]
      · rw [h2, flatP_1 _ _ (by simp; omega)]; simp [List.getD, show j / 2 < n by omega]
    rw [e]
    have h2 : j % 2 = 0 ∨ j % 2 = 1 := by omega
    rcases h2 with h2 | h2 <;> simp [madeCells, hj, h2]
  · rw [List.getElem?_eq_none (by rw [Array.length_toList, size_madeCells]; omega), List.getElem?_eq_none (by rw [hl]; omega)]

def eqPB (p q : Int × Int) : Bool := decide (p = q)
set_option maxHeartbeats 1000000 in
theorem eqStamp_any (x y x' y' : Int) (w : World) :
    Calls Tryd.prog 61 #[.agg #[.int .i16 x, .int .i16 y], .agg #[.int .i16 x', .int .i16 y']] w fun e w' => e = .returned (.bool (eqPB (x, y) (x', y'))) ∧ Below w.heap.size w w' := by
  by_cases h1 : x = x'
  · by_cases h2 : y = y'
    · subst h1; subst h2
      go_enter Tryd.func61, Tryd.ntmps61
      go_wp2
      go_ret
      exact ⟨(ret_bool (decide_eq_true rfl)).symm, by repeat (first | exact Below.refl _ _ | refine Below.drew ?_ | refine Below.alloc ?_ (by first | (simp; done) | (simp; omega)) _)⟩
    · subst h1
      have t2 : (y != y') = true := by simpa using h2
      have HN : Hid (eqPB (x, y) (x, y') = false) := Lib.hid (decide_eq_false (fun h => h2 (by simpa using h)))
      go_enter Tryd.func61, Tryd.ntmps61
      go_wp2
      go_ret
      exact ⟨(ret_bool HN.out).symm, by repeat (first | exact Below.refl _ _ | refine Below.drew ?_ | refine Below.alloc ?_ (by first | (simp; done) | (simp; omega)) _)⟩
  · have t1 : (x != x') = true := by simpa using h1
    have HN : Hid (eqPB (x, y) (x', y') = false) := Lib.hid (decide_eq_false (fun h => h1 (by simp at h; exact h.1)))
    go_enter Tryd.func61, Tryd.ntmps61
    go_wp2
    go_ret
    exact ⟨(ret_bool HN.out).symm, by repeat (first | exact Below.refl _ _ | refine Below.drew ?_ | refine Below.alloc ?_ (by first | (simp; done) | (simp; omega)) _)⟩

/-- Whether two lists of pairs are equal. -/
def eqPs (xs ys : List (Int × Int)) : Bool := decide (xs = ys)
theorem eqPs_true {xs ys : List (Int × Int)} (h : xs = ys) : eqPs xs ys = true := decide_eq_true h
theorem eqPs_false {xs ys : List (Int × Int)} (h : xs ≠ ys) : eqPs xs ys = false := decide_eq_false h
theorem takeP_step {xs ys : List (Int × Int)} {k : Nat} (hx : k < xs.length) (hy : k < ys.length) (h : xs.take k = ys.take k) (he : xs.getD k (0, 0) = ys.getD k (0, 0)) : xs.take (k + 1) = ys.take (k + 1) := by
  rw [List.take_succ_eq_append_getElem hx, List.take_succ_eq_append_getElem hy, h]
  simp only [List.getD, List.getElem?_eq_getElem hx, List.getElem?_eq_getElem hy, Option.getD_some] at he
  rw [he]

set_option maxHeartbeats 2000000 in
set_option maxRecDepth 100000 in
theorem eqStampS_row (b c len cap cap2 : Nat) (xs ys : List (Int × Int)) (hx : xs.length = len) (hy : ys.length = len) (hm : len ≤ 1048576) (w : World) (hcx : CellsP w b xs) (hcy : CellsP w c ys) :
    Calls Tryd.prog 13 #[.slice (some ⟨b, 0, none⟩) len cap, .slice (some ⟨c, 0, none⟩) len cap2] w fun e w' => e = .returned (.bool (eqPs xs ys)) ∧ Below w.heap.size w w' := by
  go_enter Tryd.func13, Tryd.ntmps13
  go_wp2_with fail
  go_loopw [5] (fun i wr => ∃ k : Nat, k ≤ len ∧ i = .int .i64 k ∧ xs.take k = ys.take k ∧ Below w.heap.size w wr) (fun i _ => len - (intOf i).toNat)
  case atStart => exact ⟨0, Nat.zero_le _, rfl, by simp, Below.refl _ _⟩
  case round =>
    obtain ⟨k, hk, rfl, htk, hnx⟩ := hrel
    have HT := Lib.hid htk
    have HB := Lib.hid hnx
    have HX := Lib.hid hx
    have HY := Lib.hid hy
    by_cases hlt : k < len
    · obtain ⟨c0, c1⟩ := hcx.below hnx k (by omega)
      obtain ⟨d0, d1⟩ := hcy.below hnx k (by omega)
      obtain ⟨p, hp⟩ : ∃ p, xs.getD k (0, 0) = p := ⟨_, rfl⟩
      obtain ⟨q, hq⟩ : ∃ q, ys.getD k (0, 0) = q := ⟨_, rfl⟩
      rw [hp] at c0 c1
      rw [hq] at d0 d1
      obtain ⟨x, y⟩ := p
      obtain ⟨x', y'⟩ := q
      have HP := Lib.hid hp
      have HQ := Lib.hid hq
      have HCX := Lib.hid hcx
      have HCY := Lib.hid hcy
      have hwr : w.heap.size ≤ wr.heap.size := hnx.size
      have hkl : (k : Int) < (len : Int) := by omega
      clear hcx hcy hx hy htk hnx hp hq
      go_wp2_with fail
      go_still_tail 8, (by kernel_rfl)
      change wpList _ _ _ _ _ wr.drew
      have HBD : Hid (Below w.heap.size w wr.drew) := Lib.hid HB.out.drew
      have hwd : w.heap.size ≤ wr.drew.heap.size := hwr
      generalize wr.drew = wd at HBD hwd ⊢
      go_wp2_with fail
      refine (eqStamp_any x y x' y' _).mono ?_
      rintro e w2 ⟨rfl, b2⟩
      have HB2 : Hid (Below w.heap.size w w2) := Lib.hid (HBD.out.trans (b2.mono hwd))
      clear b2
      by_cases hxy : (x, y) = (x', y')
      · rw [show eqPB (x, y) (x', y') = true from decide_eq_true hxy]
        have HXY := Lib.hid hxy
        clear hxy
        go_wp2_with fail
        go_roundw
        case rel => exact ⟨k + 1, by omega, by go_num, takeP_step (by have := HX.out; omega) (by have := HY.out; omega) HT.out (by rw [HP.out, HQ.out]; exact HXY.out), HB2.out⟩
        case measure => simp [intOf]; omega
      · rw [show eqPB (x, y) (x', y') = false from decide_eq_false hxy]
        have HXY := Lib.hid hxy
        clear hxy
        go_wp2_with fail
        go_ret
        exact ⟨ret_bool (eqPs_false (fun h => HXY.out (by rw [← HP.out, ← HQ.out, h]))).symm, HB2.out⟩
    · clear hcx hcy hx hy htk hnx
      have hke : k = len := by omega
      have HE := Lib.hid hke
      clear hke
      go_wp2_with fail
      go_ret
      refine ⟨ret_bool (eqPs_true ?_).symm, HB.out⟩
      have h := HT.out
      rw [HE.out, List.take_of_length_le (by rw [HX.out]; omega), List.take_of_length_le (by rw [HY.out]; omega)] at h
      exact h

set_option maxHeartbeats 1000000 in
theorem eqStampS_differ (a c : Option Addr) (l m cap cap2 : Nat) (hne : l ≠ m) (hl : l ≤ 1048576) (hm : m ≤ 1048576) (w : World) :
    Calls Tryd.prog 13 #[.slice a l cap, .slice c m cap2] w fun e w' => e = .returned (.bool false) ∧ Below w.heap.size w w' := by
  have hb : ((l : Int) != (m : Int)) = true := by simp; omega
  go_enter Tryd.func13, Tryd.ntmps13
  go_wp2
  go_ret
  exact ⟨rfl, Below.refl _ _⟩

set_option maxHeartbeats 1000000 in
theorem eqStampS_empty (a c : Option Addr) (cap cap2 : Nat) (w : World) :
    Calls Tryd.prog 13 #[.slice a 0 cap, .slice c 0 cap2] w fun e w' => e = .returned (.bool true) ∧ Below w.heap.size w w' := by
  go_enter Tryd.func13, Tryd.ntmps13
  go_wp2
  refine wp_loop_rounds 1 ?_
  rw [rounds_succ]
  go_wp2
  go_ret
  exact ⟨rfl, Below.refl _ _⟩

/-- eqStampS on any two slices that read as lists of pairs. -/
theorem eqStampS_any (v u : Value) (xs ys : List (Int × Int)) (w : World) (hv : ReadsP w v xs) (hu : ReadsP w u ys) (hx : xs.length ≤ 1048576) (hy : ys.length ≤ 1048576) :
    Calls Tryd.prog 13 #[v, u] w fun e w' => e = .returned (.bool (eqPs xs ys)) ∧ Below w.heap.size w w' := by
  obtain ⟨a, cap, rfl, ha⟩ := hv
  obtain ⟨c, cap2, rfl, hc⟩ := hu
  by_cases hl : xs.length = ys.length
  · by_cases h0 : xs = []
    · subst h0
      have h1 : ys = [] := List.eq_nil_of_length_eq_zero hl.symm
      subst h1
      exact eqStampS_empty a c cap cap2 w
    · have h1 : ys ≠ [] := fun h => h0 (List.eq_nil_of_length_eq_zero (by rw [hl, h]; rfl))
      obtain ⟨b1, rfl, c1⟩ := ha h0
      obtain ⟨b2, rfl, c2⟩ := hc h1
      rw [← hl]
      exact eqStampS_row b1 b2 xs.length cap cap2 xs ys rfl hl.symm hx w c1 c2
  · rw [eqPs_false (fun h => hl (by rw [h]))]
    exact eqStampS_differ a c xs.length ys.length cap cap2 hl hx hy w

end Go.Proofs.YtbclmafplaipaaaDoor
