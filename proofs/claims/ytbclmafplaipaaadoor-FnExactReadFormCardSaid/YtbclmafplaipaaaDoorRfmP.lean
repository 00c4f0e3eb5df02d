/-
  Reading the text of a form (plain): the model's way, the program's way, and that both are the same.
-/
import Derived.Test.YtbclmafplaipaaaDoorLnP
import Derived.Test.YtbclmafplaipaaaDoorFxP
namespace Go.Proofs.YtbclmafplaipaaaDoor
open Go Go.RowKit
set_option linter.unusedVariables false

/-- Numbers with marks between. -/
def numG : List UInt8 → List UInt8 → Option (List Nat)
  | [], l => match num (l.takeWhile isDg), l.dropWhile isDg with
    | some n, [] => some [n]
    | _, _ => none
  | m :: ms, l => match num (l.takeWhile isDg), l.dropWhile isDg with
    | some n, c :: r => if c = m then (match numG ms r with | some ns => some (n :: ns) | none => none) else none
    | _, _ => none
def fmtG : List UInt8 → List Nat → List UInt8
  | m :: ms, n :: ns => dec n ++ m :: fmtG ms ns
  | _, n :: _ => dec n
  | _, [] => []
theorem tw_dec (n : Nat) {r : List UInt8} (h : r = [] ∨ ∃ c s, r = c :: s ∧ isDg c = false) : (dec n ++ r).takeWhile isDg = dec n ∧ (dec n ++ r).dropWhile isDg = r := by
  have ha := List.all_eq_true.1 (dec_all n)
  rw [List.takeWhile_append_of_pos ha, List.dropWhile_append_of_pos ha]
  rcases h with rfl | ⟨c, s, rfl, hc⟩
  · simp
  · rw [List.takeWhile_cons, List.dropWhile_cons, hc]; simp
theorem tw_join (l : List UInt8) : l.takeWhile isDg ++ l.dropWhile isDg = l := List.takeWhile_append_dropWhile
theorem numG_of : ∀ {ms l : List UInt8} {ns : List Nat}, numG ms l = some ns → l = fmtG ms ns ∧ ns.length = ms.length + 1
  | [], l, ns, h => by
    unfold numG at h
    split at h
    · rename_i n hn hd
      cases h
      have e := tw_join l
      rw [hd, List.append_nil, (num_spec hn).1] at e
      exact ⟨e.symm, rfl⟩
    · cases h
  | m :: ms, l, ns, h => by
    unfold numG at h
    split at h
    · rename_i n c r hn hd
      split at h
      · rename_i hc
        cases hg : numG ms r with
        | none => rw [hg] at h; cases h
        | some ns' =>
          rw [hg] at h
          cases h
          have e := tw_join l
          rw [hd, (num_spec hn).1, (numG_of hg).1, hc] at e
          exact ⟨e.symm, by rw [List.length_cons, (numG_of hg).2]; rfl⟩
      · cases h
    · cases h
theorem numG_at : ∀ {ms : List UInt8} {ns : List Nat}, (∀ m ∈ ms, isDg m = false) → (∀ n ∈ ns, n < 1000000000) → ns.length = ms.length + 1 → numG ms (fmtG ms ns) = some ns
  | [], [n], _, hn, _ => by
    have e := tw_dec n (r := []) (.inl rfl)
    rw [List.append_nil] at e
    unfold numG fmtG
    rw [e.1, e.2, num_dec (hn n (by simp))]
  | m :: ms, n :: ns, hm, hn, hl => by
    have e := tw_dec n (r := m :: fmtG ms ns) (.inr ⟨_, _, rfl, hm m (by simp)⟩)
    unfold numG fmtG
    rw [e.1, e.2, num_dec (hn n (by simp))]
    simp only [if_true]
    rw [numG_at (fun m' h => hm m' (by simp [h])) (fun n' h => hn n' (by simp [h])) (by simpa using hl)]

abbrev Ln4 := Int × Int × Int × Int
def lineM (nc : Nat) (l : List UInt8) : Option Ln4 := match numG [58, 120, 47] l with
  | some [a, b, c, d] => if okL nc ((a : Int), (b : Int), (c : Int), (d : Int)) then some ((a : Int), (b : Int), (c : Int), (d : Int)) else none
  | _ => none
def lineW (q : Ln4) : List UInt8 := dec q.1.toNat ++ 58 :: (dec q.2.1.toNat ++ 120 :: (dec q.2.2.1.toNat ++ 47 :: dec q.2.2.2.toNat))
theorem lineT_eq (q : Ln4) : lineT q = lineW q ++ [10] := by unfold lineT lineW; simp [List.append_assoc]
def lineI (l : List UInt8) : Option Ln4 :=
  match okI (Lib.parseIntB 8 (Lib.cut l [58]).1), okI (Lib.parseIntB 16 (Lib.cut (Lib.cut l [58]).2.1 [120]).1), okI (Lib.parseIntB 32 (Lib.cut (Lib.cut (Lib.cut l [58]).2.1 [120]).2.1 [47]).1), okI (Lib.parseIntB 32 (Lib.cut (Lib.cut (Lib.cut l [58]).2.1 [120]).2.1 [47]).2.1) with
  | some a, some b, some c, some d => some (IntKind.i8.wrap a, IntKind.i16.wrap b, IntKind.i32.wrap c, IntKind.i32.wrap d)
  | _, _, _, _ => none
theorem lineW_free (q : Ln4) : (10 : UInt8) ∉ lineW q := by
  unfold lineW
  simp only [List.mem_append, List.mem_cons, not_or]
  exact ⟨dec_free (by decide), by decide, dec_free (by decide), by decide, dec_free (by decide), by decide, dec_free (by decide)⟩
theorem lineM_of {nc : Nat} {l : List UInt8} {q : Ln4} (h : lineM nc l = some q) : l = lineW q ∧ okL nc q := by
  unfold lineM at h
  split at h
  · rename_i a b c d hg
    split at h
    · rename_i hk
      cases h
      refine ⟨?_, hk⟩
      rw [(numG_of hg).1]
      simp [fmtG, lineW]
    · cases h
  · cases h
theorem okL_nats {nc : Nat} {q : Ln4} (h : okL nc q) (hn : nc ≤ 8) : ∃ a b c d : Nat, q = ((a : Int), (b : Int), (c : Int), (d : Int)) ∧ a < 8 ∧ b ≤ 1000 ∧ c ≤ 1000000 ∧ d ≤ 1000000 := by
  obtain ⟨q0, q1, q2, q3⟩ := q
  unfold okL at h
  simp only at h
  refine ⟨q0.toNat, q1.toNat, q2.toNat, q3.toNat, ?_, by omega, by omega, by omega, by omega⟩
  rw [Int.toNat_of_nonneg (by omega), Int.toNat_of_nonneg (by omega), Int.toNat_of_nonneg (by omega), Int.toNat_of_nonneg (by omega)]
theorem lineM_at {nc : Nat} {q : Ln4} (h : okL nc q) (hn : nc ≤ 8) : lineM nc (lineW q) = some q := by
  have hk := h
  obtain ⟨a, b, c, d, rfl, ha, hb, hc, hd⟩ := okL_nats h hn
  have e : lineW ((a : Int), (b : Int), (c : Int), (d : Int)) = fmtG [58, 120, 47] [a, b, c, d] := by simp [fmtG, lineW]
  unfold lineM
  rw [e, numG_at (by decide) (by simp; omega) rfl]
  simp only
  rw [if_pos hk]
theorem w8f {n : Nat} (h : n ≤ 8) : IntKind.i8.wrap (n : Int) = (n : Int) := by simp only [IntKind.wrap, IntKind.bits, IntKind.signed]; simp; omega
theorem w16f {n : Nat} (h : n ≤ 1000) : IntKind.i16.wrap (n : Int) = (n : Int) := by simp only [IntKind.wrap, IntKind.bits, IntKind.signed]; simp; omega
theorem w32f {n : Nat} (h : n ≤ 1000000) : IntKind.i32.wrap (n : Int) = (n : Int) := by simp only [IntKind.wrap, IntKind.bits, IntKind.signed]; simp; omega
theorem lineI_at {nc : Nat} {q : Ln4} (h : okL nc q) (hn : nc ≤ 8) : lineI (lineW q) = some q := by
  obtain ⟨a, b, c, d, rfl, ha, hb, hc, hd⟩ := okL_nats h hn
  unfold lineI lineW
  simp only [Int.toNat_natCast]
  rw [cut_app _ (dec_free (by decide))]
  simp only
  rw [cut_app _ (dec_free (by decide))]
  simp only
  rw [cut_app _ (dec_free (by decide))]
  simp only
  rw [parse_dec (show a < 2 ^ (8 - 1) by omega) (by omega), parse_dec (show b < 2 ^ (16 - 1) by omega) (by omega), parse_dec (show c < 2 ^ (32 - 1) by omega) (by omega), parse_dec (show d < 2 ^ (32 - 1) by omega) (by omega)]
  simp only [okI]
  rw [w8f (by omega), w16f hb, w32f hc, w32f hd]

/-! A form. -/
def catF : List Ln4 → List UInt8
  | [] => []
  | r :: rs => lineW r ++ 10 :: catF rs
theorem catF_snoc (r : Ln4) : ∀ rs, catF (rs ++ [r]) = catF rs ++ lineT r
  | [] => by simp [catF, lineT_eq]
  | x :: rs => by rw [List.cons_append, catF, catF_snoc r rs, catF]; simp [List.append_assoc]
theorem formK_cat (ls : List Ln4) : ∀ k, k ≤ ls.length → formK ls k = catF (ls.take k)
  | 0, _ => rfl
  | k + 1, h => by
    rw [formK, formK_cat ls k (by omega), List.take_succ_eq_append_getElem (by omega), catF_snoc]
    simp [List.getD, show k < ls.length by omega]
theorem formK_all (ls : List Ln4) : formK ls ls.length = catF ls := by rw [formK_cat ls _ (Nat.le_refl _), List.take_length]
theorem spl_catF : ∀ rs : List Ln4, spl 10 (catF rs) = rs.map lineW ++ [[]]
  | [] => rfl
  | r :: rs => by rw [catF, spl_app _ (lineW_free r), spl_catF rs]; rfl
def nF (text : List UInt8) : Nat := (spl 10 text).length - 1
def formM (nc : Nat) (text : List UInt8) : Option (List Ln4) :=
  if (spl 10 text).getD (nF text) [] = [] ∧ nF text ≤ 10 then mapO (lineM nc) ((spl 10 text).take (nF text)) else none
def formI (cs : List Ln4) (text : List UInt8) : Option (List Ln4) := match mapO lineI (lns text) with
  | some L => if formT cs L = text then some L else none
  | none => none
theorem form_lines {cs L : List Ln4} (h : vldF cs L = true) : ∀ q ∈ L, okL cs.length q ∧ cs.length ≤ 8 := fun q hq => by
  have hk := vldF_spec h
  obtain ⟨i, hi, rfl⟩ := List.getElem_of_mem hq
  have := hk.2.2 i hi
  exact ⟨by simpa [List.getD, hi] using this, (vldC_spec hk.1).1.2⟩
theorem form_at {cs L : List Ln4} (h : vldF cs L = true) : formM cs.length (catF L) = some L ∧ formI cs (catF L) = some L := by
  have hn : nF (catF L) = L.length := by unfold nF; rw [spl_catF]; simp
  have h10 := (vldF_spec h).2.1
  constructor
  · unfold formM
    rw [hn, spl_catF, if_pos ⟨by simp [List.getD], h10⟩, List.take_left' (by simp)]
    exact mapO_map (fun q hq => lineM_at (form_lines h q hq).1 (form_lines h q hq).2)
  · unfold formI
    rw [show lns (catF L) = L.map lineW by unfold lns; rw [spl_catF, if_pos (by simp), List.dropLast_concat]]
    rw [mapO_map (fun q hq => lineI_at (form_lines h q hq).1 (form_lines h q hq).2)]
    simp only
    rw [if_pos (by rw [formT_ok h, formK_all])]
theorem mapO_allF {nc : Nat} : ∀ {ws : List (List UInt8)} {L : List Ln4}, mapO (lineM nc) ws = some L → (∀ q ∈ L, okL nc q)
  | [], L, h => by cases h; intro q hq; cases hq
  | w :: ws, L, h => by
    unfold mapO at h
    cases hw : lineM nc w with
    | none => rw [hw] at h; cases h
    | some a =>
      rw [hw] at h
      simp only at h
      cases hs : mapO (lineM nc) ws with
      | none => rw [hs] at h; cases h
      | some L' =>
        rw [hs] at h
        cases h
        intro q hq
        rcases List.mem_cons.1 hq with rfl | hq
        · exact (lineM_of hw).2
        · exact mapO_allF hs q hq
theorem formM_of {cs : List Ln4} {text : List UInt8} {L : List Ln4} (hc : vldC cs = true) (h : formM cs.length text = some L) : vldF cs L = true ∧ text = catF L := by
  unfold formM at h
  split at h
  · rename_i hk
    have e := mapO_of (g := lineW) (fun w a h => (lineM_of h).1) h
    have ha := mapO_allF h
    have hl : (spl 10 text).length = nF text + 1 := by unfold nF; have := List.length_pos_iff.2 (spl_ne 10 text); omega
    have hL : L.length = nF text := by have := congrArg List.length e; simp at this; omega
    refine ⟨vldF_true hc (by omega) (fun i hi => by have := ha _ (List.getElem_mem hi); simpa [List.getD, hi] using this), ?_⟩
    have e2 : spl 10 text = L.map lineW ++ [[]] := by
      rw [← e]
      conv => lhs; rw [← List.take_append_drop (nF text) (spl 10 text)]
      congr 1
      rw [List.drop_eq_getElem_cons (by omega), List.drop_eq_nil_of_le (by omega)]
      congr 1
      rw [← hk.1]
      simp [List.getD, show nF text < (spl 10 text).length by omega]
    rw [← spl_join 10 text, e2, ← spl_catF, spl_join]
  · cases h
theorem formI_of {cs : List Ln4} {text : List UInt8} {L : List Ln4} (hc : vldC cs = true) (h : formI cs text = some L) : vldF cs L = true ∧ text = catF L := by
  unfold formI at h
  split at h
  · rename_i L' hm
    split at h
    · rename_i ht
      cases h
      cases hv : vldF cs L with
      | true => exact ⟨rfl, by rw [← ht, formT_ok hv, formK_all]⟩
      | false =>
        rw [formT_no hv] at ht
        subst ht
        rw [lns_nil] at hm
        cases hm
        have : vldF cs [] = true := vldF_true hc (by simp) (fun i hi => absurd hi (by simp))
        rw [this] at hv
        cases hv
    · cases h
  · cases h
theorem form_same {cs : List Ln4} (hc : vldC cs = true) (text : List UInt8) : formM cs.length text = formI cs text := by
  cases hm : formM cs.length text with
  | some L =>
    obtain ⟨hv, e⟩ := formM_of hc hm
    rw [e, (form_at hv).2]
  | none =>
    cases hi : formI cs text with
    | none => rfl
    | some L =>
      obtain ⟨hv, e⟩ := formI_of hc hi
      rw [e, (form_at hv).1] at hm
      cases hm
end Go.Proofs.YtbclmafplaipaaaDoor
