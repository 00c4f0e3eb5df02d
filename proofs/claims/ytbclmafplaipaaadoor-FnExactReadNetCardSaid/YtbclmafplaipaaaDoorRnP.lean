/-
  Reading the text of a net (plain): the model's way, the program's way, and that both are the same.
-/
import Derived.Test.YtbclmafplaipaaaDoorRdP
import Derived.Test.YtbclmafplaipaaaDoorNxP
import Derived.Test.YtbclmafplaipaaaDoorLnP
namespace Go.Proofs.YtbclmafplaipaaaDoor
open Go Go.RowKit
set_option linter.unusedVariables false

def ok40 (a b : Nat) : Bool := decide (a ≤ 40) && decide (b ≤ 40)
theorem ok40_yes {a b : Nat} (h1 : a ≤ 40) (h2 : b ≤ 40) : ok40 a b = true := by unfold ok40; simp; omega
def laneM (l : List UInt8) : Option Lan := match spl 32 l with
  | [x, y] => match pairM 45 ok40 x, pairM 45 ok40 y with
    | some p, some q => some (p.1, p.2, q.1, q.2)
    | _, _ => none
  | _ => none
def laneI (l : List UInt8) : Option Lan := match pairI 45 (IntKind.i8.wrap) (IntKind.i8.wrap) (Lib.cut l [32]).1, pairI 45 (IntKind.i16.wrap) (IntKind.i16.wrap) (Lib.cut l [32]).2.1 with
  | some p, some q => some (p.1, p.2, q.1, q.2)
  | _, _ => none
def laneW (q : Lan) : List UInt8 := pairW 45 (q.1, q.2.1) ++ 32 :: pairW 45 (q.2.2.1, q.2.2.2)
theorem lnT_eq (q : Lan) : lnT q = laneW q ++ [10] := by unfold lnT laneW pairW; simp [List.append_assoc]
def catN : List Lan → List UInt8
  | [] => []
  | r :: rs => laneW r ++ 10 :: catN rs
theorem catN_snoc (r : Lan) : ∀ rs, catN (rs ++ [r]) = catN rs ++ lnT r
  | [] => by simp [catN, lnT_eq]
  | x :: rs => by rw [List.cons_append, catN, catN_snoc r rs, catN]; simp [List.append_assoc]
def netW (st sy : Int) (ps : List Lan) : List UInt8 := pairW 32 (st, sy) ++ 10 :: catN ps
theorem ntK_cat (st sy : Int) (ps : List Lan) : ∀ k, k ≤ ps.length → ntK st sy ps k = netW st sy (ps.take k)
  | 0, _ => by unfold ntK netW pairW; simp [catN, List.append_assoc]
  | k + 1, h => by
    rw [ntK, ntK_cat st sy ps k (by omega), List.take_succ_eq_append_getElem (by omega)]
    unfold netW
    rw [catN_snoc]
    simp [List.getD, show k < ps.length by omega, List.append_assoc]
theorem ntK_all (st sy : Int) (ps : List Lan) : ntK st sy ps ps.length = netW st sy ps := by rw [ntK_cat st sy ps _ (Nat.le_refl _), List.take_length]
theorem laneW_free (q : Lan) : (10 : UInt8) ∉ laneW q := by
  unfold laneW
  simp only [List.mem_append, List.mem_cons, not_or]
  exact ⟨pairW_free (by decide) (by decide) _, by decide, pairW_free (by decide) (by decide) _⟩
theorem spl_catN : ∀ rs : List Lan, spl 10 (catN rs) = rs.map laneW ++ [[]]
  | [] => rfl
  | r :: rs => by rw [catN, spl_app _ (laneW_free r), spl_catN rs]; rfl
theorem hdr_free (st sy : Int) : (10 : UInt8) ∉ pairW 32 (st, sy) := pairW_free (by decide) (by decide) _
theorem spl_netW (st sy : Int) (ps : List Lan) : spl 10 (netW st sy ps) = pairW 32 (st, sy) :: (ps.map laneW ++ [[]]) := by unfold netW; rw [spl_app _ (hdr_free st sy), spl_catN]
theorem laneM_of {l : List UInt8} {q : Lan} (h : laneM l = some q) : l = laneW q := by
  unfold laneM at h
  have hj := spl_join 32 l
  split at h
  · rename_i x y hs
    rw [hs] at hj
    split at h
    · rename_i p r hp hr
      cases h
      rw [← hj, Lib.join_cons, pairM_of hp, pairM_of hr]
      simp [laneW, Lib.joinTail]
    · cases h
  · cases h
theorem laneM_at {n0 n1 n2 n3 : Nat} (h0 : n0 ≤ 40) (h1 : n1 ≤ 40) (h2 : n2 ≤ 40) (h3 : n3 ≤ 40) : laneM (laneW ((n0 : Int), (n1 : Int), (n2 : Int), (n3 : Int))) = some ((n0 : Int), (n1 : Int), (n2 : Int), (n3 : Int)) := by
  unfold laneM laneW
  rw [spl_app _ (pairW_free (by decide) (by decide) _), spl_free (pairW_free (by decide) (by decide) _)]
  simp only
  rw [pairM_at (by decide) (by omega) (by omega) (ok40_yes h0 h1), pairM_at (by decide) (by omega) (by omega) (ok40_yes h2 h3)]
theorem w8 {n : Nat} (h : n ≤ 40) : IntKind.i8.wrap (n : Int) = (n : Int) := by simp only [IntKind.wrap, IntKind.bits, IntKind.signed]; simp; omega
theorem w16 {n : Nat} (h : n ≤ 40) : IntKind.i16.wrap (n : Int) = (n : Int) := by simp only [IntKind.wrap, IntKind.bits, IntKind.signed]; simp; omega
theorem laneI_at {n0 n1 n2 n3 : Nat} (h0 : n0 ≤ 40) (h1 : n1 ≤ 40) (h2 : n2 ≤ 40) (h3 : n3 ≤ 40) : laneI (laneW ((n0 : Int), (n1 : Int), (n2 : Int), (n3 : Int))) = some ((n0 : Int), (n1 : Int), (n2 : Int), (n3 : Int)) := by
  unfold laneI laneW
  rw [cut_app _ (pairW_free (by decide) (by decide) _)]
  simp only
  rw [pairI_at (by decide) (by omega) (by omega) (w8 h0) (w8 h1), pairI_at (by decide) (by omega) (by omega) (w16 h2) (w16 h3)]

/-! A net. -/
def nN (text : List UInt8) : Nat := (spl 10 text).length - 1
def netM (text : List UInt8) : Option (Int × Int × List Lan) :=
  if (spl 10 text).getD (nN text) [] = [] ∧ 1 ≤ nN text ∧ nN text ≤ 21 then match pairM 32 ok40 ((spl 10 text).getD 0 []), mapO laneM (((spl 10 text).take (nN text)).drop 1) with
    | some p, some L => if vldN p.1 p.2 L = true then some (p.1, p.2, L) else none
    | _, _ => none
  else none
def netI (text : List UInt8) : Option (Int × Int × List Lan) := match pairI 32 (IntKind.i8.wrap) (IntKind.i16.wrap) (Lib.cut text [10]).1, mapO laneI (lns (Lib.cut text [10]).2.1) with
  | some p, some L => if netT p.1 p.2 L = text then some (p.1, p.2, L) else none
  | _, _ => none
theorem net_head {st sy : Int} {L : List Lan} (h : vldN st sy L = true) : ∃ a b : Nat, st = (a : Int) ∧ sy = (b : Int) ∧ a ≤ 8 ∧ b ≤ 40 := by
  have hk := vldN_spec h
  exact ⟨st.toNat, sy.toNat, by have := hk.1; omega, by have := hk.2.1; omega, by have := hk.1; omega, by have := hk.2.1; omega⟩
theorem net_lane {st sy : Int} {L : List Lan} (h : vldN st sy L = true) : ∀ q ∈ L, ∃ n0 n1 n2 n3 : Nat, q = ((n0 : Int), (n1 : Int), (n2 : Int), (n3 : Int)) ∧ n0 ≤ 40 ∧ n1 ≤ 40 ∧ n2 ≤ 40 ∧ n3 ≤ 40 := fun q hq => by
  obtain ⟨i, hi, rfl⟩ := List.getElem_of_mem hq
  obtain ⟨n0, n1, n2, n3, e, h0, h1, h2, h3⟩ := lane_nats (vldN_spec h) hi
  exact ⟨n0, n1, n2, n3, by rw [← e]; simp [List.getD, hi], by omega, by omega, h2, h3⟩
theorem net_at {st sy : Int} {L : List Lan} (h : vldN st sy L = true) : netM (netW st sy L) = some (st, sy, L) ∧ netI (netW st sy L) = some (st, sy, L) := by
  obtain ⟨a, b, rfl, rfl, ha, hb⟩ := net_head h
  have hn : nN (netW a b L) = L.length + 1 := by unfold nN; rw [spl_netW]; simp
  have h20 := (vldN_spec h).2.2.1
  constructor
  · unfold netM
    rw [hn, spl_netW, if_pos ⟨by simp [List.getD], by omega, by omega⟩]
    rw [show ((pairW 32 ((a : Int), (b : Int)) :: (L.map laneW ++ [[]])).take (L.length + 1)).drop 1 = L.map laneW by
      rw [List.take_succ_cons, List.drop_succ_cons, List.drop_zero, List.take_left' (by simp)]]
    rw [mapO_map (fun q hq => by
      obtain ⟨n0, n1, n2, n3, rfl, h0, h1, h2, h3⟩ := net_lane h q hq
      exact laneM_at h0 h1 h2 h3)]
    rw [show (pairW 32 ((a : Int), (b : Int)) :: (L.map laneW ++ [[]])).getD 0 [] = pairW 32 ((a : Int), (b : Int)) from rfl, pairM_at (by decide) (by omega) (by omega) (ok40_yes (by omega) hb)]
    simp only
    rw [if_pos h]
  · unfold netI
    rw [show Lib.cut (netW a b L) [10] = (pairW 32 ((a : Int), (b : Int)), catN L, true) from cut_app _ (hdr_free _ _)]
    simp only
    rw [pairI_at (by decide) (by omega) (by omega) (w8 (by omega)) (w16 hb)]
    rw [show lns (catN L) = L.map laneW by unfold lns; rw [spl_catN, if_pos (by simp), List.dropLast_concat]]
    rw [mapO_map (fun q hq => by
      obtain ⟨n0, n1, n2, n3, rfl, h0, h1, h2, h3⟩ := net_lane h q hq
      exact laneI_at h0 h1 h2 h3)]
    simp only
    rw [if_pos (by rw [netT_ok h, ntK_all])]
theorem netM_of {text : List UInt8} {st sy : Int} {L : List Lan} (h : netM text = some (st, sy, L)) : vldN st sy L = true ∧ text = netW st sy L := by
  unfold netM at h
  split at h
  · rename_i hc
    split at h
    · rename_i p L' hp hm
      split at h
      · rename_i hv
        cases h
        refine ⟨hv, ?_⟩
        have e := mapO_of (g := laneW) (fun w a h => laneM_of h) hm
        have e0 := pairM_of hp
        have hl : (spl 10 text).length = nN text + 1 := by unfold nN; have := List.length_pos_iff.2 (spl_ne 10 text); omega
        have e2 : spl 10 text = pairW 32 (p.1, p.2) :: (L.map laneW ++ [[]]) := by
          rw [← e]
          have h1 := hc.1
          have h2 := hc.2.1
          obtain ⟨x, r, hx⟩ : ∃ x r, spl 10 text = x :: r := List.exists_cons_of_ne_nil (spl_ne 10 text)
          rw [hx] at e0 h1 hl ⊢
          obtain ⟨m, hm'⟩ : ∃ m, nN text = m + 1 := ⟨nN text - 1, by omega⟩
          rw [hm'] at h1 hl ⊢
          have e0' : x = pairW 32 p := e0
          have h1' : r.getD m [] = [] := h1
          have hr : r.length = m + 1 := by simpa using hl
          rw [e0', List.take_succ_cons, List.drop_succ_cons, List.drop_zero]
          congr 1
          conv => lhs; rw [← List.take_append_drop m r]
          congr 1
          rw [List.drop_eq_getElem_cons (by omega), List.drop_eq_nil_of_le (by omega)]
          congr 1
          rw [← h1']
          simp [List.getD, show m < r.length by omega]
        rw [← spl_join 10 text, e2, ← spl_netW, spl_join]
      · cases h
    · cases h
  · cases h
theorem netI_of {text : List UInt8} {st sy : Int} {L : List Lan} (h : netI text = some (st, sy, L)) : vldN st sy L = true ∧ text = netW st sy L := by
  have h' := h
  unfold netI at h
  split at h
  · rename_i p L' hp hm
    split at h
    · rename_i ht
      cases h
      cases hv : vldN p.1 p.2 L with
      | true => exact ⟨rfl, by rw [← ht, netT_ok hv, ntK_all]⟩
      | false =>
        rw [netT_no hv] at ht
        subst ht
        exact absurd h' (by rw [show netI [] = none from by decide +kernel]; simp)
    · cases h
  · cases h
theorem net_same (text : List UInt8) : netM text = netI text := by
  cases hm : netM text with
  | some q =>
    obtain ⟨st, sy, L⟩ := q
    obtain ⟨hv, e⟩ := netM_of hm
    rw [e, (net_at hv).2]
  | none =>
    cases hi : netI text with
    | none => rfl
    | some q =>
      obtain ⟨st, sy, L⟩ := q
      obtain ⟨hv, e⟩ := netI_of hi
      rw [e, (net_at hv).1] at hm
      cases hm
end Go.Proofs.YtbclmafplaipaaaDoor
