/-
  Reading the text of a table (plain): the model's way, the program's way, and that both are the same.
-/
import Derived.Test.YtbclmafplaipaaaDoorRdP
import Derived.Test.YtbclmafplaipaaaDoorTtP
namespace Go.Proofs.YtbclmafplaipaaaDoor
open Go Go.RowKit
set_option linter.unusedVariables false

/-- A line without its line feed. -/
def lnJ (r : List Int) : List UInt8 := Lib.join (rowW r) [32]
theorem lineB_eq (r : List Int) : lineB r = lnJ r ++ [10] := by unfold lineB lnJ; rw [wJ_all' r]
where wJ_all' (r : List Int) : wJ (rowW r) r.length = Lib.join (rowW r) [32] := by have h := wJ_all (rowW r); rw [rowW_len] at h; exact h
def cat : List (List Int) → List UInt8
  | [] => []
  | r :: rs => lnJ r ++ 10 :: cat rs
theorem cat_snoc (r : List Int) : ∀ rs, cat (rs ++ [r]) = cat rs ++ lineB r
  | [] => by simp [cat, lineB_eq]
  | x :: rs => by rw [List.cons_append, cat, cat_snoc r rs, cat]; simp [List.append_assoc]
theorem lnT_cat (S : List Int) (R : List (List Int)) : ∀ k, k ≤ R.length → lnT S R k = cat (S :: R.take k)
  | 0, _ => by simp [lnT, cat, lineB_eq]
  | k + 1, h => by
    rw [lnT, lnT_cat S R k (by omega), List.take_succ_eq_append_getElem (by omega), ← List.cons_append, cat_snoc]
    simp [List.getD, show k < R.length by omega]
theorem lnT_all (S : List Int) (R : List (List Int)) : lnT S R R.length = cat (S :: R) := by rw [lnT_cat S R _ (Nat.le_refl _), List.take_length]
theorem dgJ {b : UInt8} (hb : isDg b = false) : ∀ {ws : List (List UInt8)}, (∀ w ∈ ws, b ∉ w) → b ≠ 32 → b ∉ Lib.join ws [32]
  | [], _, _ => by simp [Lib.join_nil]
  | x :: r, h, hb' => by
    rw [Lib.join_cons, List.mem_append, not_or]
    refine ⟨h x (by simp), ?_⟩
    unfold Lib.joinTail
    intro hm
    obtain ⟨l, hl, hbl⟩ := List.mem_flatten.1 hm
    obtain ⟨w, hw, rfl⟩ := List.mem_map.1 hl
    rcases List.mem_append.1 hbl with e | e
    · simp at e; exact hb' e
    · exact h w (by simp [hw]) e
theorem rowW_free {b : UInt8} (hb : isDg b = false) (r : List Int) : ∀ w ∈ rowW r, b ∉ w := fun w hw => by
  obtain ⟨x, _, rfl⟩ := List.mem_map.1 hw
  exact dec_free hb
theorem lnJ_free (r : List Int) : (10 : UInt8) ∉ lnJ r := dgJ (by decide) (rowW_free (by decide) r) (by decide)
theorem spl_cat : ∀ rs : List (List Int), spl 10 (cat rs) = rs.map lnJ ++ [[]]
  | [] => rfl
  | r :: rs => by rw [cat, spl_app _ (lnJ_free r), spl_cat rs]; rfl
theorem join_cat : ∀ rs : List (List Int), Lib.join (rs.map lnJ ++ [[]]) [10] = cat rs := fun rs => by
  have h := spl_join 10 (cat rs)
  rw [spl_cat] at h
  exact h
theorem rowW_ne {r : List Int} (h : r ≠ []) : rowW r ≠ [] := by unfold rowW; simpa using h
theorem spl_lnJ {r : List Int} (h : r ≠ []) : spl 32 (lnJ r) = rowW r := spl_of_join (rowW_ne h) (rowW_free (by decide) r)

/-! A line. -/
def numM (w : List UInt8) : Option Int := match num w with
  | some a => if a ≤ 10000 then some (a : Int) else none
  | none => none
def numI (w : List UInt8) : Option Int := match okI (Lib.parseIntB 16 w) with
  | some v => some (IntKind.i16.wrap v)
  | none => none
def lineM (l : List UInt8) : Option (List Int) := mapO numM (spl 32 l)
def lineI (l : List UInt8) : Option (List Int) := mapO numI (spl 32 l)
theorem numM_of (w : List UInt8) (a : Int) (h : numM w = some a) : w = dec a.toNat := by
  unfold numM at h
  split at h
  · rename_i n hn
    split at h
    · cases h
      obtain ⟨rfl, _⟩ := num_spec hn
      simp
    · cases h
  · cases h
theorem numM_at {n : Nat} (h : n ≤ 10000) : numM (dec n) = some (n : Int) := by
  unfold numM
  rw [num_dec (by omega)]
  simp only
  rw [if_pos h]
theorem numI_at {n : Nat} (h : n ≤ 10000) : numI (dec n) = some (n : Int) := by
  unfold numI
  rw [parse_dec (B := 16) (by omega) (by omega)]
  simp only [okI]
  congr 1
  simp only [IntKind.wrap, IntKind.bits, IntKind.signed]
  simp
  omega
theorem lineM_of {l : List UInt8} {r : List Int} (h : lineM l = some r) : l = lnJ r := by
  have e := mapO_of (g := fun x : Int => dec x.toNat) numM_of h
  have j := spl_join 32 l
  rw [e] at j
  exact j.symm
theorem lineM_at {r : List Int} (h : okN r) : lineM (lnJ r) = some r := by
  unfold lineM
  rw [spl_lnJ h.ne]
  exact mapO_map fun a ha => by
    obtain ⟨i, hi, rfl⟩ := List.getElem_of_mem ha
    obtain ⟨n, hn, hb⟩ := h.nat hi
    have : r[i] = (n : Int) := by rw [← hn]; simp [List.getD, hi]
    rw [this, Int.toNat_natCast]
    exact numM_at hb
theorem lineI_at {r : List Int} (h : okN r) : lineI (lnJ r) = some r := by
  unfold lineI
  rw [spl_lnJ h.ne]
  exact mapO_map fun a ha => by
    obtain ⟨i, hi, rfl⟩ := List.getElem_of_mem ha
    obtain ⟨n, hn, hb⟩ := h.nat hi
    have : r[i] = (n : Int) := by rw [← hn]; simp [List.getD, hi]
    rw [this, Int.toNat_natCast]
    exact numI_at hb

/-! A table. -/
def nL (text : List UInt8) : Nat := (spl 10 text).length - 1
def tabM (text : List UInt8) : Option (List Int × List (List Int)) :=
  if (spl 10 text).getD (nL text) [] = [] ∧ 2 ≤ nL text then match mapO lineM ((spl 10 text).take (nL text)) with
    | some (S :: R) => if vldT S R = true then some (S, R) else none
    | _ => none
  else none
def trimS (text : List UInt8) : List UInt8 := if text.getLast? = some 10 then text.dropLast else text
def tabI (text : List UInt8) : Option (List Int × List (List Int)) := match mapO lineI (spl 10 (trimS text)) with
  | some (S :: R) => if textT S R = text then some (S, R) else none
  | _ => none
theorem okAll {S : List Int} {R : List (List Int)} (h : vldT S R = true) : ∀ r ∈ S :: R, okN r := fun r hr => by
  rcases List.mem_cons.1 hr with rfl | hr
  · exact vldT_okS h
  · obtain ⟨i, hi, rfl⟩ := List.getElem_of_mem hr
    have := vldT_okR h hi
    rw [show R.getD i [] = R[i] by simp [List.getD, hi]] at this
    exact this
theorem tab_at {S : List Int} {R : List (List Int)} (h : vldT S R = true) : tabM (cat (S :: R)) = some (S, R) ∧ tabI (cat (S :: R)) = some (S, R) := by
  have hn : nL (cat (S :: R)) = R.length + 1 := by unfold nL; rw [spl_cat]; simp
  constructor
  · unfold tabM
    rw [hn, spl_cat, if_pos ⟨by simp [List.getD], by have := (vldT_spec h).2.1; omega⟩]
    rw [List.take_left' (by simp), mapO_map (fun a ha => lineM_at (okAll h a ha))]
    simp only
    rw [if_pos h]
  · have e1 : ∀ rs : List (List Int), rs ≠ [] → cat rs = Lib.join (rs.map lnJ) [10] ++ [10] := fun rs hne => by
      induction rs with
      | nil => exact absurd rfl hne
      | cons r rs ih =>
        rw [cat]
        by_cases e : rs = []
        · subst e; simp [cat, Lib.join_one]
        · rw [ih e]
          obtain ⟨y, ys, rfl⟩ := List.exists_cons_of_ne_nil e
          rw [List.map_cons, List.map_cons, Lib.join_cons, Lib.join_cons]
          simp [Lib.joinTail, List.append_assoc]
    have e2 : trimS (cat (S :: R)) = Lib.join ((S :: R).map lnJ) [10] := by
      unfold trimS
      rw [e1 _ (by simp), if_pos (by simp), List.dropLast_concat]
    unfold tabI
    rw [e2, spl_of_join (by simp) (fun w hw => by obtain ⟨r, _, rfl⟩ := List.mem_map.1 hw; exact lnJ_free r), mapO_map (fun a ha => lineI_at (okAll h a ha))]
    simp only
    rw [if_pos (by rw [textT_ok h, lnT_all])]
theorem tabM_of {text : List UInt8} {S : List Int} {R : List (List Int)} (h : tabM text = some (S, R)) : vldT S R = true ∧ text = cat (S :: R) := by
  unfold tabM at h
  split at h
  · rename_i hc
    split at h
    · rename_i S' R' hm
      split at h
      · rename_i hv
        cases h
        refine ⟨hv, ?_⟩
        have e := mapO_of (g := lnJ) (fun w a h => lineM_of h) hm
        have hne := spl_ne 10 text
        have hl : (spl 10 text).length = nL text + 1 := by unfold nL; have := List.length_pos_iff.2 hne; omega
        have e2 : spl 10 text = (S :: R).map lnJ ++ [[]] := by
          rw [← e]
          have h1 := hc.1
          conv => lhs; rw [← List.take_append_drop (nL text) (spl 10 text)]
          congr 1
          rw [List.drop_eq_getElem_cons (by omega), List.drop_eq_nil_of_le (by omega)]
          congr 1
          rw [← h1]
          simp [List.getD, show nL text < (spl 10 text).length by omega]
        rw [← join_cat, ← e2, spl_join]
      · cases h
    · cases h
  · cases h
theorem tabI_of {text : List UInt8} {S : List Int} {R : List (List Int)} (h : tabI text = some (S, R)) : vldT S R = true ∧ text = cat (S :: R) := by
  have h' := h
  unfold tabI at h
  split at h
  · split at h
    · rename_i ht
      cases h
      cases hv : vldT S R with
      | true => exact ⟨rfl, by rw [← ht, textT_ok hv, lnT_all]⟩
      | false =>
        rw [textT_no hv] at ht
        subst ht
        exact absurd h' (by rw [show tabI [] = none from by decide +kernel]; simp)
    · cases h
  · cases h
theorem tab_same (text : List UInt8) : tabM text = tabI text := by
  cases hm : tabM text with
  | some q =>
    obtain ⟨S, R⟩ := q
    obtain ⟨hv, e⟩ := tabM_of hm
    rw [e, (tab_at hv).2]
  | none =>
    cases hi : tabI text with
    | none => rfl
    | some q =>
      obtain ⟨S, R⟩ := q
      obtain ⟨hv, e⟩ := tabI_of hi
      rw [e, (tab_at hv).1] at hm
      cases hm
/-! What both answer. -/
def rtS (text : List UInt8) : List Int := ((tabM text).getD ([], [])).1
def rtR (text : List UInt8) : List (List Int) := ((tabM text).getD ([], [])).2
def rtC (text : List UInt8) : Int := if (tabM text).isSome = true then 0 else 5
theorem rt_no {text : List UInt8} (h : tabM text = none) : rtS text = [] ∧ rtR text = [] ∧ rtC text = 5 := by simp [rtS, rtR, rtC, h]
theorem rt_yes {text : List UInt8} {S : List Int} {R : List (List Int)} (h : tabM text = some (S, R)) : rtS text = S ∧ rtR text = R ∧ rtC text = 0 := by simp [rtS, rtR, rtC, h]
theorem tot_bd : ∀ (R : List (List Int)), (∀ r ∈ R, r.length ≤ 10) → tot R ≤ 10 * R.length
  | [], _ => by simp [tot]
  | r :: R, h => by
    have h1 := tot_bd R (fun x hx => h x (by simp [hx]))
    have h2 := h r (by simp)
    unfold tot at h1 ⊢
    simp only [List.map_cons, List.sum_cons, List.length_cons]
    omega
theorem rt_bd (text : List UInt8) : (rtS text).length ≤ 10 ∧ (rtR text).length ≤ 6 ∧ tot (rtR text) ≤ 60 ∧ ∀ j, j < (rtR text).length → ((rtR text).getD j []).length ≤ 10 := by
  cases h : tabM text with
  | none => obtain ⟨e1, e2, _⟩ := rt_no h; rw [e1, e2]; simp [tot]
  | some q =>
    obtain ⟨S, R⟩ := q
    obtain ⟨e1, e2, _⟩ := rt_yes h
    obtain ⟨hv, _⟩ := tabM_of h
    rw [e1, e2]
    have h6 := (vldT_spec hv).2.2.1
    have ha := okAll hv
    refine ⟨(vldT_okS hv).2.1, h6, ?_, fun j hj => (vldT_okR hv hj).2.1⟩
    have := tot_bd R (fun r hr => (ha r (by simp [hr])).2.1)
    omega
end Go.Proofs.YtbclmafplaipaaaDoor
