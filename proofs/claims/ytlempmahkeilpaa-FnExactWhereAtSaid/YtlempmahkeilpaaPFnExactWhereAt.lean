/-
  'FnExactWhereAt' answers true at every input, and leaves all memory that was there as it was. Conditions: none beyond the row's own.
-/
import Derived.Test.YtlempmahkeilpaaRows
import Derived.ProofKit
import Derived.OpenShut
import Derived.ShutString
import Derived.ChangeOld
import Derived.Below
import Derived.Deep.SlicePairs
import Derived.Lib.SmallJoins
import Derived.Test.YtlempmahkeilpaaONet
import Derived.Test.YtlempmahkeilpaaCgS
import Derived.Test.YtlempmahkeilpaaAsI
import Derived.Test.YtlempmahkeilpaaFsI
import Derived.BigQuiet
import Derived.Maps.AppendAt
import Derived.OwnWalk
import Derived.Laws.NewBlocks
import Derived.Test.YtlempmahkeilpaaArW
import Derived.Test.YtlempmahkeilpaaRarr
import Derived.Test.YtlempmahkeilpaaRelI
import Derived.Test.YtlempmahkeilpaaStI
import Derived.OwnWalkIn
import Derived.Test.YtlempmahkeilpaaNtA
import Derived.Test.YtlempmahkeilpaaTScan
import Derived.Test.YtlempmahkeilpaaToI
import Derived.Test.YtlempmahkeilpaaKeepO
/-
  The model's ArrivalsAt.
-/
namespace Go.Proofs.Ytlempmahkeilpaa
open Go Go.RowKit
set_option linter.unusedVariables false

def aaC (st sy : Int) (ps : List Lan) (x0 x1 y : Int) : Int := askC st sy ps (scB st x0 x1 && inB y 0 (st - 1))
noncomputable def aaR (st sy : Int) (ps : List Lan) (x0 x1 y : Int) : List Int := if aaC st sy ps x0 x1 y = 0 then hourTo (fun h => arrB ps (-1) sy x0 x1 y (h : Int)) 301 else []
theorem aaR_len (st sy : Int) (ps : List Lan) (x0 x1 y : Int) : (aaR st sy ps x0 x1 y).length ≤ 1048575 := by
  unfold aaR
  split
  · have := hourTo_len (fun h => arrB ps (-1) sy x0 x1 y (h : Int)) 301
    omega
  · simp
theorem own_ne {w : World} {B n k Bt : Nat} {T T' : TypeId} {v : Value} {xs : List Value} {cs : Array Value} (h : w.ownsRow B T n v k xs) (hb : BlkA w Bt T' cs) (hT : T ≠ T') : some Bt ≠ v.ownBlock := by
  rcases h.2 with ⟨rfl, _⟩ | ⟨g, cap, cur, rfl, hB, hg, rest⟩
  · intro e; cases e
  · intro e
    have e2 : Bt = g := by simpa [Value.ownBlock] using e
    subst e2
    have h1 : w.heap[Bt]? = some (.cells cs T' (0, 0)) := hb
    rw [h1] at hg
    simp only [Option.some.injEq, Obj.cells.injEq] at hg
    exact hT hg.2.1.symm
theorem stat_nat {st y : Int} (hst : st ≤ 8) (h : inB y 0 (st - 1) = true) : ∃ s : Nat, y = (s : Int) ∧ s < 8 := by
  have h1 : 0 ≤ y ∧ y ≤ st - 1 := by simpa [inB] using h
  exact ⟨y.toNat, by omega, by omega⟩

end Go.Proofs.Ytlempmahkeilpaa
/-
  The least hour for which something holds, looked for from above (plain, for the model's EarliestAt).
-/
namespace Go.Proofs.Ytlempmahkeilpaa
open Go Go.RowKit
set_option linter.unusedVariables false

/-- The n hours from k on for which p holds. -/
def hourFrom (p : Nat → Bool) : Nat → Nat → List Int
  | _, 0 => []
  | k, n + 1 => if p k = true then (k : Int) :: hourFrom p (k + 1) n else hourFrom p (k + 1) n
theorem hourTo_from (p : Nat → Bool) (n k : Nat) : hourTo p (k + n) = hourTo p k ++ hourFrom p k n := by
  induction n generalizing k with
  | zero => simp [hourFrom]
  | succ n ih =>
    rw [show k + (n + 1) = (k + 1) + n by omega, ih (k + 1), hourTo, hourFrom]
    split
    · simp
    · rfl
/-- The least of the last j hours up to 300, or -1. -/
def bst (p : Nat → Bool) : Nat → Int
  | 0 => -1
  | j + 1 => if p (300 - j) = true then ((300 - j : Nat) : Int) else bst p j
theorem bst_is (p : Nat → Bool) (j : Nat) (hj : j ≤ 301) : bst p j = (hourFrom p (301 - j) j).headD (-1) := by
  induction j with
  | zero => rfl
  | succ j ih =>
    rw [bst, show 301 - (j + 1) = 300 - j by omega, hourFrom]
    split
    · rfl
    · rw [ih (by omega), show 300 - j + 1 = 301 - j by omega]
theorem bst_frst (p : Nat → Bool) : bst p 301 = frst p := by
  rw [bst_is p 301 (Nat.le_refl _), frst]
  have h := hourTo_from p 301 0
  rw [Nat.zero_add] at h
  rw [h]
  rfl
theorem bst_yes {p : Nat → Bool} {j : Nat} (h : p (300 - j) = true) : bst p (j + 1) = ((300 - j : Nat) : Int) := if_pos h
theorem bst_no {p : Nat → Bool} {j : Nat} (h : p (300 - j) = false) : bst p (j + 1) = bst p j := if_neg (by rw [h]; simp)

def eaC (st sy : Int) (ps : List Lan) (x0 x1 : Int) : Int := askC st sy ps (scB st x0 x1)
/-- It can be there then. -/
noncomputable def eaP (sy : Int) (ps : List Lan) (x0 x1 : Int) (s h : Nat) : Bool := arrB ps (-1) sy x0 x1 (s : Int) (h : Int) || decide ((h : Int) = x1 ∧ (s : Int) = x0)
noncomputable def eaR (st sy : Int) (ps : List Lan) (x0 x1 : Int) : List Int := if eaC st sy ps x0 x1 = 0 then (List.range st.toNat).map (fun s => frst (eaP sy ps x0 x1 s)) else []
end Go.Proofs.Ytlempmahkeilpaa
/-
  Where a parcel can be (plain): at stations in its stay, and on lanes.
-/
namespace Go.Proofs.Ytlempmahkeilpaa
open Go Go.RowKit
set_option linter.unusedVariables false

open Classical in
/-- It has come and not gone yet. -/
noncomputable def waB (f : Nat → Bool) (y H : Nat) : Bool := decide (∃ c, c ≤ H ∧ H ≤ c + y ∧ f c = true)
open Classical in
/-- It has left and not come yet. -/
noncomputable def wlB (f : Nat → Bool) (y M H : Nat) : Bool := decide (∃ c, c < H ∧ (max c (H + 1 - M) ≤ min (c + y) (H - 1)) ∧ f c = true)
open Classical in
theorem waB_iff {f : Nat → Bool} {y H : Nat} : waB f y H = true ↔ ∃ c, c ≤ H ∧ H ≤ c + y ∧ f c = true := by unfold waB; exact decide_eq_true_iff
open Classical in
theorem wlB_iff {f : Nat → Bool} {y M H : Nat} : wlB f y M H = true ↔ ∃ c, c < H ∧ (max c (H + 1 - M) ≤ min (c + y) (H - 1)) ∧ f c = true := by unfold wlB; exact decide_eq_true_iff
theorem waB_congr {f g : Nat → Bool} {y H : Nat} (h : ∀ c, c ≤ H → f c = g c) : waB f y H = waB g y H := by
  rw [Bool.eq_iff_iff, waB_iff, waB_iff]
  constructor
  · rintro ⟨c, h1, h2, h3⟩; exact ⟨c, h1, h2, (h c h1).symm.trans h3⟩
  · rintro ⟨c, h1, h2, h3⟩; exact ⟨c, h1, h2, (h c h1).trans h3⟩
theorem wlB_congr {f g : Nat → Bool} {y M H : Nat} (h : ∀ c, c ≤ H → f c = g c) : wlB f y M H = wlB g y M H := by
  rw [Bool.eq_iff_iff, wlB_iff, wlB_iff]
  constructor
  · rintro ⟨c, h1, h2, h3⟩; exact ⟨c, h1, h2, (h c (by omega)).symm.trans h3⟩
  · rintro ⟨c, h1, h2, h3⟩; exact ⟨c, h1, h2, (h c (by omega)).trans h3⟩
/-! The program's bits. -/
theorem wa_bit {N y H : Nat} (hN : N < 2 ^ room) (hH : H ≤ 300) : (mvK N 0 (y + 1)).testBit H = waB (fun c => N.testBit c) y H := by
  rw [Bool.eq_iff_iff, mvK_bit hN, waB_iff]
  constructor
  · rintro ⟨j, h1, h2, h3, h4, h5⟩; exact ⟨H - j, by omega, by omega, h5⟩
  · rintro ⟨c, h1, h2, h3⟩; exact ⟨H - c, by omega, by omega, by omega, by omega, by rw [show H - (H - c) = c by omega]; exact h3⟩
theorem wl_bit {N y M H : Nat} (hN : N < 2 ^ room) (hH : H ≤ 300) (hM : 1 ≤ M) : (mvK (mvK N 0 (y + 1)) 1 (M - 1 + 1)).testBit H = wlB (fun c => N.testBit c) y M H := by
  rw [Bool.eq_iff_iff, mvK_bit (mvK_lt hN _ _), wlB_iff]
  constructor
  · rintro ⟨d, h1, h2, h3, h4, h5⟩
    obtain ⟨e, g1, g2, g3, g4, g5⟩ := (mvK_bit hN _ _ _).1 h5
    exact ⟨H - d - e, by omega, by omega, g5⟩
  · rintro ⟨c, h1, h2, h3⟩
    refine ⟨H - max c (H + 1 - M), by omega, by omega, by omega, by omega, (mvK_bit hN _ _ _).2 ⟨max c (H + 1 - M) - c, by omega, by omega, by omega, by omega, ?_⟩⟩
    rw [show H - (H - max c (H + 1 - M)) - (max c (H + 1 - M) - c) = c by omega]
    exact h3
/-! The model's loops. -/
/-- A stretch of hours, looked through. -/
def anyK (f : Nat → Bool) (a : Nat) : Nat → Bool
  | 0 => false
  | k + 1 => anyK f a k || f (a + k)
theorem anyK_iff (f : Nat → Bool) (a : Nat) : ∀ k, anyK f a k = true ↔ ∃ c, a ≤ c ∧ c < a + k ∧ f c = true
  | 0 => by
    unfold anyK
    constructor
    · intro h; cases h
    · rintro ⟨c, h1, h2, _⟩; omega
  | k + 1 => by
    rw [anyK, Bool.or_eq_true, anyK_iff f a k]
    constructor
    · rintro (⟨c, h1, h2, h3⟩ | h)
      · exact ⟨c, h1, by omega, h3⟩
      · exact ⟨a + k, by omega, by omega, h⟩
    · rintro ⟨c, h1, h2, h3⟩
      by_cases e : c = a + k
      · exact .inr (e ▸ h3)
      · exact .inl ⟨c, h1, by omega, h3⟩
theorem waB_any {f : Nat → Bool} {y H : Nat} : anyK f (H - y) (H + 1 - (H - y)) = waB f y H := by
  rw [Bool.eq_iff_iff, anyK_iff, waB_iff]
  constructor
  · rintro ⟨c, h1, h2, h3⟩; exact ⟨c, by omega, by omega, h3⟩
  · rintro ⟨c, h1, h2, h3⟩; exact ⟨c, by omega, by omega, h3⟩
/-- At one hour of coming. -/
def lanB (f : Nat → Bool) (y M H c : Nat) : Bool := f c && decide (max c (H + 1 - M) ≤ min (c + y) (H - 1))
theorem wlB_any {f : Nat → Bool} {y M H : Nat} : anyK (lanB f y M H) 0 H = wlB f y M H := by
  rw [Bool.eq_iff_iff, anyK_iff, wlB_iff]
  unfold lanB
  constructor
  · rintro ⟨c, h1, h2, h3⟩
    rw [Bool.and_eq_true, decide_eq_true_iff] at h3
    exact ⟨c, by omega, h3.2, h3.1⟩
  · rintro ⟨c, h1, h2, h3⟩
    exact ⟨c, by omega, by omega, by rw [Bool.and_eq_true, decide_eq_true_iff]; exact ⟨h3, h2⟩⟩
/-! The two lists. -/
def pickL (g : Nat → Bool) : Nat → List Int
  | 0 => []
  | k + 1 => if g k = true then pickL g k ++ [(k : Int)] else pickL g k
theorem pickL_yes {g : Nat → Bool} {k : Nat} (h : g k = true) : pickL g (k + 1) = pickL g k ++ [(k : Int)] := if_pos h
theorem pickL_no {g : Nat → Bool} {k : Nat} (h : g k = false) : pickL g (k + 1) = pickL g k := if_neg (by rw [h]; simp)
theorem pickL_len (g : Nat → Bool) : ∀ k, (pickL g k).length ≤ k
  | 0 => by simp [pickL]
  | k + 1 => by
    have := pickL_len g k
    rw [pickL]; split
    · simp; exact this
    · omega
theorem pickL_congr {g h : Nat → Bool} : ∀ k, (∀ i, i < k → g i = h i) → pickL g k = pickL h k
  | 0, _ => rfl
  | k + 1, e => by rw [pickL, pickL, pickL_congr k (fun i hi => e i (by omega)), e k (by omega)]
def waC (st sy : Int) (ps : List Lan) (x0 x1 hr : Int) : Int := askC st sy ps (scB st x0 x1 && inB hr 0 300)
noncomputable def wsG (sy : Int) (ps : List Lan) (x0 x1 hr : Int) (s : Nat) : Bool := waB (eaP sy ps x0 x1 s) sy.toNat hr.toNat
noncomputable def wlG (sy : Int) (ps : List Lan) (x0 x1 hr : Int) (i : Nat) : Bool := wlB (eaP sy ps x0 x1 (ps.getD i (0, 0, 0, 0)).1.toNat) sy.toNat (ps.getD i (0, 0, 0, 0)).2.2.2.toNat hr.toNat
noncomputable def wsR (st sy : Int) (ps : List Lan) (x0 x1 hr : Int) : List Int := if waC st sy ps x0 x1 hr = 0 then pickL (wsG sy ps x0 x1 hr) st.toNat else []
noncomputable def wlR (st sy : Int) (ps : List Lan) (x0 x1 hr : Int) : List Int := if waC st sy ps x0 x1 hr = 0 then pickL (wlG sy ps x0 x1 hr) ps.length else []
theorem waC_ok {st sy : Int} {ps : List Lan} {x0 x1 hr : Int} (h : waC st sy ps x0 x1 hr = 0) : okNet st sy ps ∧ scB st x0 x1 = true ∧ 0 ≤ hr ∧ hr ≤ 300 := by
  have h1 := askC_ok (show askC st sy ps (scB st x0 x1 && inB hr 0 300) = 0 from h)
  rw [Bool.and_eq_true] at h1
  exact ⟨vldN_spec h1.1, h1.2.1, of_decide_eq_true h1.2.2⟩
theorem wsR_len (st sy : Int) (ps : List Lan) (x0 x1 hr : Int) : (wsR st sy ps x0 x1 hr).length ≤ 1048575 := by
  unfold wsR
  split
  · rename_i h
    have h1 := (waC_ok h).1.1
    have := pickL_len (wsG sy ps x0 x1 hr) st.toNat
    omega
  · simp
theorem wlR_len (st sy : Int) (ps : List Lan) (x0 x1 hr : Int) : (wlR st sy ps x0 x1 hr).length ≤ 1048575 := by
  unfold wlR
  split
  · rename_i h
    have h1 := (waC_ok h).1.2.2.1
    have := pickL_len (wlG sy ps x0 x1 hr) ps.length
    omega
  · simp
/-- Two lists of the call's own, apart, and a code. -/
def RetL2 (B : Nat) (w : World) (xs ys : List Int) (c : Int) (e : Ending) (w' : World) : Prop := ∃ v u, e = .returned (.tuple #[v, u, .int .i64 c]) ∧ OwnI B w' v xs ∧ OwnI B w' u ys ∧ (v.ownBlock = none ∨ v.ownBlock ≠ u.ownBlock) ∧ Below w.heap.size w w'
theorem ret_trip {v u : Value} {a b : Int} (h : a = b) : Ending.returned (.tuple #[v, u, .int .i64 a]) = .returned (.tuple #[v, u, .int .i64 b]) := by rw [h]
end Go.Proofs.Ytlempmahkeilpaa
/-
  The model's WhereAt.
-/
namespace Go.Proofs.Ytlempmahkeilpaa
open Go Go.RowKit
set_option linter.unusedVariables false

def RetM2 (B : Nat) (w : World) (xs ys : List Int) (c : Int) (e : Ending) (w' : World) : Prop := ∃ v u, e = .returned (.tuple #[v, u, .int .i64 c]) ∧ OwnI B w' v xs ∧ OwnI B w' u ys ∧ Below w.heap.size w w'
theorem sminW_any (a b : Int) (w : World) : Calls Try.prog 37 #[.int .i64 a, .int .i64 b] w fun e w' => e = .returned (.int .i64 (min a b)) ∧ w' = w := by
  by_cases h : a < b
  · have t : min a b = a := by omega
    have HT := Lib.hid t
    clear t
    go_enter Try.func37, Try.ntmps37
    go_wp2_with fail
    go_ret
    exact ⟨ret_int HT.out.symm, rfl⟩
  · have t : min a b = b := by omega
    have HT := Lib.hid t
    clear t
    go_enter Try.func37, Try.ntmps37
    go_wp2_with fail
    go_ret
    exact ⟨ret_int HT.out.symm, rfl⟩
theorem smaxW_any (a b : Int) (w : World) : Calls Try.prog 36 #[.int .i64 a, .int .i64 b] w fun e w' => e = .returned (.int .i64 (max a b)) ∧ w = w' := by
  by_cases h : b < a
  · have t : max a b = a := by omega
    have HT := Lib.hid t
    clear t
    go_enter Try.func36, Try.ntmps36
    go_wp2_with fail
    go_ret
    exact ⟨ret_int HT.out.symm, rfl⟩
  · have t : max a b = b := by omega
    have HT := Lib.hid t
    clear t
    go_enter Try.func36, Try.ntmps36
    go_wp2_with fail
    go_ret
    exact ⟨ret_int HT.out.symm, rfl⟩
theorem net_natsW {st sy : Int} {L : List Lan} (h : okNet st sy L) {k : Nat} (hk : k < L.length) : ∃ f t a b : Nat, L.getD k (0, 0, 0, 0) = ((f : Int), (t : Int), (a : Int), (b : Int)) ∧ f < 8 ∧ (f : Int) < st ∧ 1 ≤ b ∧ b ≤ 40 := by
  have h2 := h.2.2.2 k hk
  have hs := h.1
  obtain ⟨q, hq⟩ : ∃ q, L.getD k (0, 0, 0, 0) = q := ⟨_, rfl⟩
  rw [hq] at h2
  obtain ⟨x0, x1, x2, x3⟩ := q
  unfold okLa at h2
  simp only at h2
  exact ⟨x0.toNat, x1.toNat, x2.toNat, x3.toNat, by rw [hq]; simp only [Prod.mk.injEq]; omega, by omega, by omega, by omega, by omega⟩

set_option maxHeartbeats 16000000 in
set_option maxRecDepth 100000 in
theorem swa_any (st sy : Int) (v : Value) (ps : List Lan) (x0 x1 hr : Int) (w : World) (hn : FitN st sy ps) (hx : FitSc (x0, x1)) (hv : ReadsLa w v ps) :
    Calls Try.prog 9 #[netV st sy v, .agg #[.int .i8 x0, .int .i16 x1], .int .i64 hr] w (RetM2 w.heap.size w (wsR st sy ps x0 x1 hr) (wlR st sy ps x0 x1 hr) (waC st sy ps x0 x1 hr)) := by
  obtain ⟨i0, hi, hz0, hz1, hz2⟩ := info_parts info_i64
  have HV := Lib.hid hv
  have HST := Lib.hid hn.s
  have HN := Lib.hid hn
  have HX := Lib.hid hx
  obtain ⟨a, cap, rfl, ha⟩ := hv
  obtain ⟨len, hlen⟩ : ∃ m, ps.length = m := ⟨_, rfl⟩
  have HM := Lib.hid hlen
  have hb1 : Below w.heap.size w ((w.alloc (.cells #[.int .i8 st, .int .i16 sy, .slice a len cap] 35)).alloc (.cells #[.int .i8 x0, .int .i16 x1] 37)) := ((Below.refl _ _).alloc (Nat.le_refl _) _).alloc (by simp) _
  have BN : BlkA ((w.alloc (.cells #[.int .i8 st, .int .i16 sy, .slice a len cap] 35)).alloc (.cells #[.int .i8 x0, .int .i16 x1] 37)) w.heap.size 35 #[.int .i8 st, .int .i16 sy, .slice a len cap] := (BlkA.new rfl _ _).alloc _
  have BX : BlkA ((w.alloc (.cells #[.int .i8 st, .int .i16 sy, .slice a len cap] 35)).alloc (.cells #[.int .i8 x0, .int .i16 x1] 37)) (w.heap.size + 1) 37 #[.int .i8 x0, .int .i16 x1] := BlkA.new (by simp) _ _
  have HA := Lib.hid ha
  rw [hlen] at HV ⊢
  clear ha hlen hn hx
  obtain ⟨W0, hW0⟩ : ∃ W, ((w.alloc (.cells #[.int .i8 st, .int .i16 sy, .slice a len cap] 35)).alloc (.cells #[.int .i8 x0, .int .i16 x1] 37)) = W := ⟨_, rfl⟩
  rw [hW0] at hb1 BN BX
  have hs0 : W0.heap.size = w.heap.size + 1 + 1 := by rw [← hW0]; simp
  have b2 : Below W0.heap.size W0 ((W0.alloc (.cells #[] 2)).alloc (.cells #[] 2)) := ((Below.refl _ _).alloc (Nat.le_refl _) _).alloc (by simp) _
  have BA : BlkA ((W0.alloc (.cells #[] 2)).alloc (.cells #[] 2)) (w.heap.size + 1 + 1) 2 #[] := (BlkA.new hs0 _ _).alloc _
  have BB : BlkA ((W0.alloc (.cells #[] 2)).alloc (.cells #[] 2)) (w.heap.size + 1 + 1 + 1) 2 #[] := BlkA.new (by simp [hs0]) _ _
  obtain ⟨W1, hW⟩ : ∃ W, (W0.alloc (.cells #[] 2)).alloc (.cells #[] 2) = W := ⟨_, rfl⟩
  rw [hW] at b2 BA BB
  have HB1 := Lib.hid (blink hb1 b2)
  have HBN := Lib.hid (BN.below b2)
  have HBX := Lib.hid (BX.below b2)
  have HBA := Lib.hid BA
  have HBB := Lib.hid BB
  have HOI : Hid (∀ (W : World) (q : Nat), BlkA W q 2 #[] → W.ownsRow q 2 1 (.slice (some ⟨q, 0, none⟩) 0 0) 0 []) := Lib.hid (fun W q h => ⟨rfl, .inr ⟨q, 0, #[], rfl, Nat.le_refl _, h, Nat.le_refl _, Nat.zero_le _, rfl, rfl⟩⟩)
  rw [← hW0] at hW
  have HW := Lib.hid hW
  clear hW hW0 hb1 BN BX BA BB b2 hs0
  go_enter Try.func9, Try.ntmps9
  go_wp2_with fail
  rw [HW.out]
  refine (sscan_any w.heap.size st sy (.slice a len cap) x0 x1 W1 HST.out HX.out HBN.out).mono ?_
  rintro e w2 ⟨rfl, b2⟩
  have HB2 := Lib.hid b2
  have HN2 := Lib.hid (HBN.out.below b2)
  have HV2 := Lib.hid (HV.out.below (blink HB1.out b2))
  obtain ⟨p, hp⟩ : ∃ p, scB st x0 x1 = p := ⟨_, rfl⟩
  obtain ⟨q, hq⟩ : ∃ q, inB hr 0 300 = q := ⟨_, rfl⟩
  have HP := Lib.hid hp
  have HQ := Lib.hid hq
  have HCG : Hid (∀ c, askC st sy ps (p && q) = c → waC st sy ps x0 x1 hr = c) := Lib.hid (fun c h => by rw [← hp, ← hq] at h; exact h)
  have HHR := Lib.hid (shour_any hr)
  rw [hq] at HHR
  rw [hp]
  clear hp hq b2
  have HASK : Hid (∀ (r : Bool) (W : World), Below W1.heap.size W1 W → Calls Try.prog 32 #[.pointer (some ⟨w.heap.size, 0, none⟩), .bool r] W fun e w' => e = .returned (.int .i64 (askC st sy ps r)) ∧ Below W.heap.size W w') := Lib.hid (fun r W hW => by
    refine (sasked_any w.heap.size st sy (.slice a len cap) ps r W HN.out (HV.out.below (blink HB1.out hW)) (HBN.out.below hW)).mono ?_
    rintro e w' ⟨rfl, b⟩
    exact ⟨rfl, b⟩)
  obtain ⟨pq, hpq⟩ : ∃ pq, (p && q) = pq := ⟨_, rfl⟩
  have HPQ := Lib.hid hpq
  rw [hpq] at HCG
  clear hpq
  cases p with
  | false =>
    have HPF : Hid (pq = false) := Lib.hid (by rw [← HPQ.out]; rfl)
    go_wp2_with fail
    refine (HASK.out false w2 HB2.out).mono ?_
    rintro e w4 ⟨rfl, b4⟩
    have HB4 := Lib.hid (blink HB2.out b4)
    have HZ := Lib.hid (blink HB1.out HB4.out)
    obtain ⟨c, hc⟩ : ∃ c, askC st sy ps false = c := ⟨_, rfl⟩
    have HCD : Hid (waC st sy ps x0 x1 hr = c) := Lib.hid (HCG.out c (by rw [HPF.out]; exact hc))
    have hne : c ≠ 0 := fun h => by have := (askC_ok (hc.trans h)).2; cases this
    have HR1 : Hid (wsR st sy ps x0 x1 hr = []) := Lib.hid (if_neg (by rw [HCD.out]; exact hne))
    have HR2 : Hid (wlR st sy ps x0 x1 hr = []) := Lib.hid (if_neg (by rw [HCD.out]; exact hne))
    rw [hc]
    have t0 : (c == 0) = false := by simp [hne]
    have t1 : (c != 0) = true := by simp [hne]
    clear hc hne b4
    go_wp2_with fail
    go_ret3
    exact ⟨_, _, ret_trip HCD.out.symm, by rw [HR1.out]; exact OwnI.mono (HOI.out _ _ (HBA.out.below HB4.out)) (by omega), by rw [HR2.out]; exact OwnI.mono (HOI.out _ _ (HBB.out.below HB4.out)) (by omega), HZ.out⟩
  | true =>
    have HPF : Hid (pq = q) := Lib.hid (by rw [← HPQ.out]; rfl)
    go_wp2_with (go_at_call 34; refine (HHR.out _).mono ?_; rintro e w3 ⟨rfl, rfl⟩)
    refine (HASK.out q w2 HB2.out).mono ?_
    rintro e w4 ⟨rfl, b4⟩
    have HB4 := Lib.hid (blink HB2.out b4)
    have HZ := Lib.hid (blink HB1.out HB4.out)
    obtain ⟨c, hc⟩ : ∃ c, askC st sy ps q = c := ⟨_, rfl⟩
    have HCD : Hid (waC st sy ps x0 x1 hr = c) := Lib.hid (HCG.out c (by rw [HPF.out]; exact hc))
    rw [hc]
    clear b4
    by_cases h0 : c = 0
    rotate_left
    · have HR1 : Hid (wsR st sy ps x0 x1 hr = []) := Lib.hid (if_neg (by rw [HCD.out]; exact h0))
      have HR2 : Hid (wlR st sy ps x0 x1 hr = []) := Lib.hid (if_neg (by rw [HCD.out]; exact h0))
      have t0 : (c == 0) = false := by simp [h0]
      have t1 : (c != 0) = true := by simp [h0]
      clear h0 hc
      go_wp2_with fail
      go_ret3
      exact ⟨_, _, ret_trip HCD.out.symm, by rw [HR1.out]; exact OwnI.mono (HOI.out _ _ (HBA.out.below HB4.out)) (by omega), by rw [HR2.out]; exact OwnI.mono (HOI.out _ _ (HBB.out.below HB4.out)) (by omega), HZ.out⟩
    subst h0
    clear hc
    obtain ⟨hok, hsc, hr0, hr3⟩ := waC_ok HCD.out
    have HOK := Lib.hid hok
    obtain ⟨sn, yn, rfl, rfl⟩ := net_nat hok
    obtain ⟨s0, h0, rfl, rfl, hs0, hh0⟩ := scan_nats hok.1.2 hsc
    obtain ⟨H, rfl⟩ : ∃ H : Nat, hr = (H : Int) := ⟨hr.toNat, by omega⟩
    have hy40 : yn ≤ 40 := by have := hok.2.1.2; omega
    have hlen20 : len ≤ 20 := by have := hok.2.2.1; have := HM.out; omega
    clear hok hsc
    have x4 := HBX.out.below HB4.out
    have c0 : w4.cell? ⟨w.heap.size + 1, 0, none⟩ = some (.int .i8 (s0 : Int)) := x4.at 0
    have c1 : w4.cell? ⟨w.heap.size + 1, 1, none⟩ = some (.int .i16 (h0 : Int)) := x4.at 1
    clear x4
    go_wp2_with fail
    refine (sbehind_any w.heap.size sn yn (.slice a len cap) ps s0 h0 (-1) HOK.out hs0 hh0 (by omega) w4 (HV.out.below HZ.out) (HBN.out.below HB4.out)).mono ?_
    rintro e w5 ⟨Bt, rfl, hBt, ⟨cs, A, bt, hT, hA⟩, b5⟩
    have hsn8 : sn ≤ 8 := by have := HOK.out.1.2; omega
    have hsn1 : 1 ≤ sn := by have := HOK.out.1.1; omega
    have HPP : Hid (∀ s h, s < 8 → h ≤ 300 → (A s h || decide (s = s0 ∧ h = h0)) = eaP (yn : Int) ps s0 h0 s h) := Lib.hid (fun s h hs hh => by
      unfold eaP
      rw [← arrB_of (r := A s h) (by simpa using hA s h hs hh)]
      congr 1
      exact decide_eq_decide.2 (by omega))
    have HT6 : Hid (TmIs (cs.setIfInBounds (s0 * 301 + h0) (.bool true)) (fun s h => eaP (yn : Int) ps s0 h0 s h)) := Lib.hid ((hT.set hs0 hh0).congr (fun s h hs hh => HPP.out s h hs hh))
    have HB5 := Lib.hid (blink HB4.out b5)
    have hBt2 : w.heap.size + 1 + 1 + 1 < Bt := by have := (HBB.out.below HB4.out).lt; omega
    have HX5 := Lib.hid (HBX.out.below HB5.out)
    have c0 : w5.cell? ⟨w.heap.size + 1, 0, none⟩ = some (.int .i8 (s0 : Int)) := HX5.out.at 0
    have c1 : w5.cell? ⟨w.heap.size + 1, 1, none⟩ = some (.int .i16 (h0 : Int)) := HX5.out.at 1
    have z0 : w5.cell? ⟨Bt, s0 * 301 + h0, none⟩ = some (.bool (A s0 h0)) := (bt.at _).trans (hT.at' s0 h0 hs0 hh0)
    have fz := bt.frozen (s0 * 301 + h0)
    have hs0' : (s0 : Int) < 8 := by omega
    have hh0' : (h0 : Int) < 301 := by omega
    have HBT := Lib.hid bt
    clear hT hA bt b5
    go_wp2_with fail
    go_region
    obtain ⟨w6, hw6⟩ : ∃ W, (w5.setCell ⟨Bt, s0 * 301 + h0, none⟩ (.bool true)).drew = W := ⟨_, rfl⟩
    obtain ⟨cs', hcs⟩ : ∃ cs', cs.setIfInBounds (s0 * 301 + h0) (.bool true) = cs' := ⟨_, rfl⟩
    rw [hcs] at HT6
    have hW1Bt : W1.heap.size ≤ Bt := by have := HB4.out.size; omega
    have HSB : Hid (w.heap.size + 1 + 1 ≤ W1.heap.size) := Lib.hid (by have := HBA.out.lt; omega)
    have HT6B : Hid (BlkA w6 Bt 91 cs') := Lib.hid (by rw [← hw6, ← hcs]; exact (HBT.out.set _ _).drew)
    have HB6 : Hid (Below (w.heap.size + 1 + 1) W1 w6) := Lib.hid (by rw [← hw6]; exact ((HB5.out.setCell (by show W1.heap.size ≤ Bt; exact hW1Bt) _).drew).mono HSB.out)
    have HA6 : Hid (BlkA w6 (w.heap.size + 1 + 1) 2 #[]) := Lib.hid (by rw [← hw6]; exact ((HBA.out.below HB5.out).other _ _ (by show w.heap.size + 1 + 1 ≠ Bt; omega)).drew)
    have HL6 : Hid (BlkA w6 (w.heap.size + 1 + 1 + 1) 2 #[]) := Lib.hid (by rw [← hw6]; exact ((HBB.out.below HB5.out).other _ _ (by show w.heap.size + 1 + 1 + 1 ≠ Bt; omega)).drew)
    have HNB : Hid (∀ W, Below (w.heap.size + 1 + 1) W1 W → BlkA W w.heap.size 35 #[.int .i8 (sn : Int), .int .i16 (yn : Int), .slice a len cap]) := Lib.hid (fun W hW => by unfold BlkA; rw [hW.block _ (by omega)]; exact HBN.out)
    have HWW : Hid (∀ W, Below (w.heap.size + 1 + 1) W1 W → Below w.heap.size w W) := Lib.hid (fun W hW => HB1.out.trans (hW.mono (by omega)))
    have HRS : Hid (wsR (sn : Int) (yn : Int) ps s0 h0 H = pickL (wsG (yn : Int) ps s0 h0 H) sn) := Lib.hid (by unfold wsR; rw [if_pos HCD.out, Int.toNat_natCast])
    have HRL : Hid (wlR (sn : Int) (yn : Int) ps s0 h0 H = pickL (wlG (yn : Int) ps s0 h0 H) len) := Lib.hid (by unfold wlR; rw [if_pos HCD.out, HM.out])
    have HGS : Hid (∀ k, wsG (yn : Int) ps s0 h0 H k = anyK (eaP (yn : Int) ps s0 h0 k) (H - yn) (H + 1 - (H - yn))) := Lib.hid (fun k => by unfold wsG; rw [waB_any, Int.toNat_natCast, Int.toNat_natCast])
    have hmx : max (0 : Int) ((H : Int) - (yn : Int)) = ((H - yn : Nat) : Int) := by omega
    have HMX := Lib.hid hmx
    rw [hw6]
    clear hw6 hcs hmx c0 c1 z0 fz HBT
    go_wp2_with fail
    go_loopw [9, 13] (fun g i wr => ∃ k : Nat, k ≤ sn ∧ i = .int .i64 k ∧ OwnI (w.heap.size + 1 + 1) wr g (pickL (wsG (yn : Int) ps s0 h0 H) k) ∧ (∀ j, g.ownBlock = some j → j ≠ w.heap.size + 1 + 1 + 1) ∧ BlkA wr Bt 91 cs' ∧ BlkA wr (w.heap.size + 1 + 1 + 1) 2 #[] ∧ Below (w.heap.size + 1 + 1) W1 wr) (fun _ i _ => sn - (intOf i).toNat)
    case atStart => exact ⟨0, by omega, rfl, HOI.out _ _ HA6.out, fun j hj => by simp [Value.ownBlock] at hj; omega, HT6B.out, HL6.out, HB6.out⟩
    case round =>
      obtain ⟨k, hk, rfl, hown, hne, hbt, hbl, hnx⟩ := hrel
      obtain ⟨wq, rfl⟩ : ∃ V, V = wr := ⟨wr, rfl⟩
      have n0 : wq.cell? ⟨w.heap.size, 0, none⟩ = some (.int .i8 (sn : Int)) := (HNB.out _ hnx).at 0
      have n1 : wq.cell? ⟨w.heap.size, 1, none⟩ = some (.int .i16 (yn : Int)) := (HNB.out _ hnx).at 1
      have HOW := Lib.hid hown
      have HNE := Lib.hid hne
      have HBT := Lib.hid hbt
      have HBL := Lib.hid hbl
      have HNX := Lib.hid hnx
      have hbts : Bt < wq.heap.size := hbt.lt
      clear hown hne hbt hbl hnx
      by_cases hlt : k < sn
      · have tk : decide ((k : Int) < (sn : Int)) = true := decide_eq_true (by omega)
        have hk8 : (k : Int) < 8 := by omega
        have hk0 : (0 : Int) ≤ (k : Int) := by omega
        have HPK : Hid (∀ h, h ≤ 300 → wq.cell? ⟨Bt, k * 301 + h, none⟩ = some (.bool (eaP (yn : Int) ps s0 h0 k h))) := Lib.hid (fun h hh => (HBT.out.at _).trans (HT6.out.at' k h (by omega) hh))
        have HGK := Lib.hid (HGS.out k)
        have HYES := Lib.hid (pickL_yes (g := wsG (yn : Int) ps s0 h0 H) (k := k))
        have HNO := Lib.hid (pickL_no (g := wsG (yn : Int) ps s0 h0 H) (k := k))
        have hpl := pickL_len (wsG (yn : Int) ps s0 h0 H) k
        obtain ⟨f, hf⟩ : ∃ f, eaP (yn : Int) ps s0 h0 k = f := ⟨_, rfl⟩
        rw [hf] at HGK HPK
        obtain ⟨ls, hls⟩ : ∃ ls, pickL (wsG (yn : Int) ps s0 h0 H) k = ls := ⟨_, rfl⟩
        rw [hls] at HOW HYES HNO hpl
        clear hf hls
        obtain ⟨lo, hlo⟩ : ∃ lo, H - yn = lo := ⟨_, rfl⟩
        have hloH : lo ≤ H := by omega
        have hmx : max (0 : Int) ((H : Int) - (yn : Int)) = (lo : Int) := by rw [HMX.out, hlo]
        have HMK := Lib.hid hmx
        rw [hlo] at HGK
        clear hlo hmx
        go_wp2_with (go_at_call 36; refine (smaxW_any _ _ _).mono ?_; rintro e w7 ⟨rfl, rfl⟩; rw [HMK.out])
        go_loopw [14, 15] (fun b i wr => ∃ c : Nat, lo ≤ c ∧ c ≤ H + 1 ∧ i = .int .i64 c ∧ b = .bool (anyK f lo (c - lo)) ∧ wr = wq) (fun _ i _ => H + 1 - (intOf i).toNat)
        case atStart => exact ⟨lo, Nat.le_refl _, by omega, rfl, by rw [Nat.sub_self]; rfl, rfl⟩
        case round =>
          obtain ⟨c, hc1, hc2, rfl, rfl, hwr⟩ := hrel
          have hwr2 := hwr.symm
          clear hwr
          subst hwr2
          by_cases hcH : c ≤ H
          · have tc : decide ((c : Int) ≤ (H : Int)) = true := decide_eq_true (by omega)
            have hc301 : (c : Int) < 301 := by omega
            have hc0 : (0 : Int) ≤ (c : Int) := by omega
            have z0 := HPK.out c (by omega)
            have HST2 : Hid (anyK f lo (c + 1 - lo) = (anyK f lo (c - lo) || f c)) := Lib.hid (by rw [show c + 1 - lo = (c - lo) + 1 by omega, anyK, show lo + (c - lo) = c by omega])
            obtain ⟨b, hb⟩ : ∃ b, anyK f lo (c - lo) = b := ⟨_, rfl⟩
            obtain ⟨z, hz⟩ : ∃ z, f c = z := ⟨_, rfl⟩
            rw [hb, hz] at HST2
            rw [hz] at z0
            rw [hb]
            clear hb hz
            cases b with
            | true =>
              go_wp2_with fail
              go_roundw
              case rel => exact ⟨c + 1, by omega, by omega, by go_num, by rw [HST2.out]; rfl, (by first | rfl | trivial)⟩
              case measure => simp [intOf]; omega
            | false =>
              go_wp2_with fail
              go_roundw
              case rel => exact ⟨c + 1, by omega, by omega, by go_num, by rw [HST2.out]; rfl, (by first | rfl | trivial)⟩
              case measure => simp [intOf]; omega
          · have tc : decide ((c : Int) ≤ (H : Int)) = false := decide_eq_false (by omega)
            obtain rfl : c = H + 1 := by omega
            have HFIN : Hid (anyK f lo (H + 1 - lo) = wsG (yn : Int) ps s0 h0 H k) := Lib.hid HGK.out.symm
            rw [HFIN.out]
            obtain ⟨z, hz⟩ : ∃ z, wsG (yn : Int) ps s0 h0 H k = z := ⟨_, rfl⟩
            have HZ2 := Lib.hid hz
            rw [hz]
            clear hz
            cases z with
            | true =>
              have HL := Lib.hid (HYES.out HZ2.out)
              have hown : wq.ownsRow (w.heap.size + 1 + 1) 2 1 _ _ _ := HOW.out
              have hne2 := own_ne HOW.out HBT.out (by decide)
              clear HYES HNO
              go_wp2_with (at_builtin; refine wpList_append_own_at _ rfl _ _ 30 rfl (w.heap.size + 1 + 1) 2 i0 (.int .i64 0) 1 8 Try.underlying30 hi hz0 hz1 hz2 rfl (by decide) _ _ _ rfl (hown.alloc _) ⟨wq.heap.size, 0, none⟩ 1 1 [.int .i64 (k : Int)] rfl rfl (cell_one_new _ _ _) (ints_oneCell .i64 [(k : Int)]) (by unfold maxLen; omega) (by omega) (by simp; omega) ?_)
              intro v' w8 hown' hgrow _ hblk
              have HO' : Hid (OwnI (w.heap.size + 1 + 1) w8 v' (pickL (wsG (yn : Int) ps s0 h0 H) (k + 1))) := Lib.hid (by
                unfold OwnI
                rw [HL.out, List.map_append, List.length_append]; exact hown')
              have HN' : Hid (∀ j, v'.ownBlock = some j → j ≠ w.heap.size + 1 + 1 + 1) := Lib.hid (fun j hj => by
                rcases hblk with e | e
                · exact HNE.out j (e ▸ hj)
                · rw [e] at hj; simp at hj; omega)
              have HT' : Hid (BlkA w8 Bt 91 cs') := Lib.hid ((hgrow.block _ (by simp; omega) hne2).trans (BlkA.alloc HBT.out _))
              have HL' : Hid (BlkA w8 (w.heap.size + 1 + 1 + 1) 2 #[]) := Lib.hid ((hgrow.block _ (by have := HBL.out.lt; simp; omega) (fun e => HNE.out _ e.symm rfl)).trans (BlkA.alloc HBL.out _))
              have HB' : Hid (Below (w.heap.size + 1 + 1) W1 w8) := Lib.hid ((HNX.out.alloc (by omega) _).grown hgrow (by simp; omega) (fun j hj => (hown.lt j hj).1))
              clear hown' hgrow hown hblk hne2
              go_wp2
              go_roundw
              case rel => exact ⟨k + 1, by omega, by go_num, HO'.out, HN'.out, HT'.out, HL'.out, HB'.out⟩
              case measure => simp [intOf]; omega
            | false =>
              have HL := Lib.hid (HNO.out HZ2.out)
              have HO' : Hid (OwnI (w.heap.size + 1 + 1) wq _ (pickL (wsG (yn : Int) ps s0 h0 H) (k + 1))) := Lib.hid (by rw [HL.out]; exact HOW.out)
              clear HYES HNO
              go_wp2_with fail
              go_roundw
              case rel => exact ⟨k + 1, by omega, by go_num, HO'.out, HNE.out, HBT.out, HBL.out, HNX.out⟩
              case measure => simp [intOf]; omega
      · have tk : decide ((k : Int) < (sn : Int)) = false := decide_eq_false (by omega)
        have hk' : k = sn := by omega
        have HST1 : Hid (OwnI (w.heap.size + 1 + 1) wq u9 (pickL (wsG (yn : Int) ps s0 h0 H) sn)) := Lib.hid (by rw [← hk']; exact HOW.out)
        have HN9 : Hid (u9.ownBlock ≠ some (w.heap.size + 1 + 1 + 1)) := Lib.hid (fun e => HNE.out _ e rfl)
        obtain ⟨gs, hgs⟩ : ∃ g, u9 = g := ⟨_, rfl⟩
        rw [hgs] at HST1 HN9 ⊢
        clear hgs hk' HOW HNE n1
        have HLN0 := Lib.hid (HOI.out _ _ HBL.out)
        go_wp2_with fail
        go_loopw [10, 16] (fun g i wr => ∃ k : Nat, k ≤ len ∧ i = .int .i64 k ∧ OwnI (w.heap.size + 1 + 1 + 1) wr g (pickL (wlG (yn : Int) ps s0 h0 H) k) ∧ (∀ j, g.ownBlock = some j → gs.ownBlock ≠ some j) ∧ BlkA wr Bt 91 cs' ∧ OwnI (w.heap.size + 1 + 1) wr gs (pickL (wsG (yn : Int) ps s0 h0 H) sn) ∧ Below (w.heap.size + 1 + 1) W1 wr) (fun _ i _ => len - (intOf i).toNat)
        case atStart => exact ⟨0, by omega, rfl, HLN0.out, fun j hj => by simp [Value.ownBlock] at hj; subst hj; exact HN9.out, HBT.out, HST1.out, HNX.out⟩
        case round =>
          obtain ⟨k, hk, rfl, hown, hne, hbt, hst, hnx⟩ := hrel
          obtain ⟨wp, rfl⟩ : ∃ V, V = wr := ⟨wr, rfl⟩
          have n2 : wp.cell? ⟨w.heap.size, 2, none⟩ = some (.slice a len cap) := (HNB.out _ hnx).at 2
          have HOL := Lib.hid hown
          have HNE := Lib.hid hne
          have HBT2 := Lib.hid hbt
          have HST2 := Lib.hid hst
          have HNX2 := Lib.hid hnx
          have hbts2 : Bt < wp.heap.size := hbt.lt
          clear hown hne hbt hst hnx
          by_cases hlt2 : k < len
          · have hil : (k : Int) < (len : Int) := by omega
            have tk2 : decide ((k : Int) < (len : Int)) = true := decide_eq_true hil
            obtain ⟨bb, rfl, hc⟩ := HA.out (by intro e; have := HM.out; rw [e] at this; simp at this; omega)
            obtain ⟨q0, q1, q2, q3⟩ := (hc.below (HWW.out _ HNX2.out)) k (by rw [HM.out]; exact hlt2)
            obtain ⟨f, tt, xx, M, hq4, hf8, hfs, hM1, hM40⟩ := net_natsW HOK.out (k := k) (by rw [HM.out]; exact hlt2)
            rw [hq4] at q0 q1 q2 q3
            simp only at q0 q1 q2 q3
            have HGK : Hid (anyK (lanB (eaP (yn : Int) ps s0 h0 f) yn M H) 0 H = (wlG (yn : Int) ps s0 h0 H) k) := Lib.hid (by
              rw [wlB_any]
              unfold wlG
              rw [hq4]
              simp only [Int.toNat_natCast])
            have HPK : Hid (∀ h, h ≤ 300 → cs'[f * 301 + h]? = some (.bool (eaP (yn : Int) ps s0 h0 f h))) := Lib.hid (fun h hh => HT6.out.at' f h hf8 hh)
            have HYES := Lib.hid (pickL_yes (g := (wlG (yn : Int) ps s0 h0 H)) (k := k))
            have HNO := Lib.hid (pickL_no (g := (wlG (yn : Int) ps s0 h0 H)) (k := k))
            have hpl := pickL_len (wlG (yn : Int) ps s0 h0 H) k
            obtain ⟨F, hF⟩ : ∃ F, eaP (yn : Int) ps s0 h0 f = F := ⟨_, rfl⟩
            rw [hF] at HGK HPK
            obtain ⟨ls, hls⟩ : ∃ ls, pickL (wlG (yn : Int) ps s0 h0 H) k = ls := ⟨_, rfl⟩
            rw [hls] at HOL HYES HNO hpl
            obtain ⟨GK, hGK⟩ : ∃ G, (wlG (yn : Int) ps s0 h0 H) k = G := ⟨_, rfl⟩
            have HGKE := Lib.hid hGK
            rw [hGK] at HGK HYES HNO
            clear hF hls hq4 hc hGK
            have bl : Below wp.heap.size wp (wp.alloc (.cells #[.int .i8 (f : Int), .int .i8 (tt : Int), .int .i16 (xx : Int), .int .i16 (M : Int)] 67)) := (Below.refl _ _).alloc (Nat.le_refl _) _
            have BLN : BlkA (wp.alloc (.cells #[.int .i8 (f : Int), .int .i8 (tt : Int), .int .i16 (xx : Int), .int .i16 (M : Int)] 67)) wp.heap.size 67 #[.int .i8 (f : Int), .int .i8 (tt : Int), .int .i16 (xx : Int), .int .i16 (M : Int)] := BlkA.new rfl _ _
            go_wp2_with fail
            obtain ⟨wl, hwl⟩ : ∃ W, wp.alloc (.cells #[.int .i8 (f : Int), .int .i8 (tt : Int), .int .i16 (xx : Int), .int .i16 (M : Int)] 67) = W := ⟨_, rfl⟩
            rw [hwl] at bl BLN ⊢
            have HBLN := Lib.hid BLN
            have HBTL := Lib.hid (HBT2.out.below bl)
            have HOLL := Lib.hid (HOL.out.below bl)
            have HSTL := Lib.hid (HST2.out.below bl)
            have HNXL : Hid (Below (w.heap.size + 1 + 1) W1 wl) := Lib.hid (HNX2.out.trans (bl.mono (by omega)))
            have hwlS : wp.heap.size < wl.heap.size := BLN.lt
            clear hwl bl BLN q0 q1 q2 q3 n2
            go_loopw [18, 19] (fun b i wr => ∃ c : Nat, c ≤ H ∧ i = .int .i64 c ∧ b = .bool (anyK (lanB F yn M H) 0 c) ∧ Below wl.heap.size wl wr) (fun _ i _ => H - (intOf i).toNat)
            case atStart => exact ⟨0, Nat.zero_le _, rfl, rfl, Below.refl _ _⟩
            case round =>
              obtain ⟨c, hcH, rfl, rfl, hn8⟩ := hrel
              obtain ⟨w8, rfl⟩ : ∃ V, V = wr := ⟨wr, rfl⟩
              have HN8 := Lib.hid hn8
              have hw8s : wl.heap.size ≤ w8.heap.size := hn8.size
              clear hn8
              by_cases hlc : c < H
              · have tc : decide ((c : Int) < (H : Int)) = true := decide_eq_true (by omega)
                have hc301 : (c : Int) < 301 := by omega
                have hc0 : (0 : Int) ≤ (c : Int) := by omega
                have hf8' : (f : Int) < 8 := by omega
                have hf0' : (0 : Int) ≤ (f : Int) := by omega
                have l0 : w8.cell? ⟨wp.heap.size, 0, none⟩ = some (.int .i8 (f : Int)) := (HBLN.out.below HN8.out).at 0
                have l3 : w8.cell? ⟨wp.heap.size, 3, none⟩ = some (.int .i16 (M : Int)) := (HBLN.out.below HN8.out).at 3
                have y1 : w8.cell? ⟨w.heap.size, 1, none⟩ = some (.int .i16 (yn : Int)) := (HNB.out _ (HNXL.out.trans (HN8.out.mono (by omega)))).at 1
                have z0 : w8.cell? ⟨Bt, f * 301 + c, none⟩ = some (.bool (F c)) := ((HBTL.out.below HN8.out).at _).trans (HPK.out c (by omega))
                have HSTP : Hid (anyK (lanB F yn M H) 0 (c + 1) = (anyK (lanB F yn M H) 0 c || (F c && decide (max c (H + 1 - M) ≤ min (c + yn) (H - 1))))) := Lib.hid (by rw [anyK, Nat.zero_add]; rfl)
                obtain ⟨b, hb⟩ : ∃ b, anyK (lanB F yn M H) 0 c = b := ⟨_, rfl⟩
                obtain ⟨z, hz⟩ : ∃ z, F c = z := ⟨_, rfl⟩
                obtain ⟨fx, hfx⟩ : ∃ fx, max c (H + 1 - M) = fx := ⟨_, rfl⟩
                obtain ⟨mn, hmn⟩ : ∃ mn, min (c + yn) (H - 1) = mn := ⟨_, rfl⟩
                have hFX : max (c : Int) ((H : Int) - (M : Int) + 1) = (fx : Int) := by omega
                have hMN : min ((c : Int) + (yn : Int)) ((H : Int) - 1) = (mn : Int) := by omega
                have HFX := Lib.hid hFX
                have HMIN : Hid (∀ W, Calls Try.prog 37 #[.int .i64 ((c : Int) + (yn : Int)), .int .i64 ((H : Int) - 1)] W fun e w' => e = .returned (.int .i64 (mn : Int)) ∧ w' = W) := Lib.hid (fun W => by
                  refine (sminW_any _ _ W).mono ?_
                  rintro e w' ⟨rfl, h⟩
                  rw [hMN]
                  exact ⟨rfl, h⟩)
                obtain ⟨r, hr⟩ : ∃ r, decide (fx ≤ mn) = r := ⟨_, rfl⟩
                rw [hb, hz, hfx, hmn, hr] at HSTP
                rw [hz] at z0
                rw [hb]
                have hrI : decide ((fx : Int) ≤ (mn : Int)) = r := by rw [← hr]; exact decide_eq_decide.2 (by omega)
                have w1 : IntKind.i64.wrap ((c : Int) + (yn : Int)) = (c : Int) + (yn : Int) := IntWalk.i64_in _ (by omega)
                have w2 : IntKind.i64.wrap ((H : Int) - 1) = (H : Int) - 1 := IntWalk.i64_in _ (by omega)
                have w3 : IntKind.i64.wrap (yn : Int) = (yn : Int) := IntWalk.i64_in _ (by omega)
                clear hb hz hfx hmn hFX hMN
                go_wp2_with (go_at_call 36; refine (smaxW_any _ _ _).mono ?_; rintro e w7 ⟨rfl, rfl⟩; rw [HFX.out])
                cases b with
                | true =>
                  have HS2 : Hid (anyK (lanB F yn M H) 0 (c + 1) = true) := Lib.hid (by rw [HSTP.out]; rfl)
                  go_quiet ((go_at_call 37; exact Calls.quiet_of_same (HMIN.out _)))
                  have HND := Lib.hid (HN8.out.trans ((bdrewN (w := w8) nq).mono hw8s))
                  go_wp2_with fail
                  go_roundw
                  case rel => exact ⟨c + 1, by omega, by go_num, by rw [HS2.out], HND.out⟩
                  case measure => simp [intOf]; omega
                | false =>
                  cases z with
                  | false =>
                    have HS2 : Hid (anyK (lanB F yn M H) 0 (c + 1) = false) := Lib.hid (by rw [HSTP.out]; rfl)
                    go_quiet ((go_at_call 37; exact Calls.quiet_of_same (HMIN.out _)))
                    have HND := Lib.hid (HN8.out.trans ((bdrewN (w := w8) nq).mono hw8s))
                    go_wp2_with fail
                    go_roundw
                    case rel => exact ⟨c + 1, by omega, by go_num, by rw [HS2.out], HND.out⟩
                    case measure => simp [intOf]; omega
                  | true =>
                    have HS2 : Hid (anyK (lanB F yn M H) 0 (c + 1) = r) := Lib.hid (by rw [HSTP.out]; simp)
                    go_quiet ((go_at_call 37; exact Calls.quiet_of_same (HMIN.out _)))
                    have HND := Lib.hid (HN8.out.trans ((bdrewN (w := w8) nq).mono hw8s))
                    go_wp2_with fail
                    go_roundw
                    case rel => exact ⟨c + 1, by omega, by go_num, by rw [HS2.out], HND.out⟩
                    case measure => simp [intOf]; omega
              · obtain rfl : H = c := by omega
                have tc : decide ((H : Int) < (H : Int)) = false := by simp
                rw [HGK.out]
                have HBTE := Lib.hid (HBTL.out.below HN8.out)
                have HOLE := Lib.hid (HOLL.out.below HN8.out)
                have HSTE := Lib.hid (HSTL.out.below HN8.out)
                have HNXE : Hid (Below (w.heap.size + 1 + 1) W1 w8) := Lib.hid (HNXL.out.trans (HN8.out.mono (by omega)))
                cases GK with
                | true =>
                  have HL := Lib.hid (HYES.out rfl)
                  have hown : w8.ownsRow (w.heap.size + 1 + 1 + 1) 2 1 _ _ _ := HOLE.out
                  have hne2 := own_ne HOLE.out HBTE.out (by decide)
                  clear HYES HNO
                  go_wp2_with (at_builtin; refine wpList_append_own_at _ rfl _ _ 30 rfl (w.heap.size + 1 + 1 + 1) 2 i0 (.int .i64 0) 1 8 Try.underlying30 hi hz0 hz1 hz2 rfl (by decide) _ _ _ rfl (hown.alloc _) ⟨w8.heap.size, 0, none⟩ 1 1 [.int .i64 (k : Int)] rfl rfl (cell_one_new _ _ _) (ints_oneCell .i64 [(k : Int)]) (by unfold maxLen; omega) (by omega) (by simp; omega) ?_)
                  intro v' w9 hown' hgrow _ hblk
                  have HO' : Hid (OwnI (w.heap.size + 1 + 1 + 1) w9 v' (pickL (wlG (yn : Int) ps s0 h0 H) (k + 1))) := Lib.hid (by
                    unfold OwnI
                    rw [HL.out, List.map_append, List.length_append]; exact hown')
                  have hgsl : ∀ j, gs.ownBlock = some j → j < w8.heap.size := fun j hj => (HSTE.out.lt j hj).2
                  have HN' : Hid (∀ j, v'.ownBlock = some j → gs.ownBlock ≠ some j) := Lib.hid (fun j hj => by
                    rcases hblk with e | e
                    · exact HNE.out j (e ▸ hj)
                    · rw [e] at hj; simp at hj; intro h; have := hgsl j h; omega)
                  have HT' : Hid (BlkA w9 Bt 91 cs') := Lib.hid ((hgrow.block _ (by simp; omega) hne2).trans (BlkA.alloc HBTE.out _))
                  have HS' : Hid (OwnI (w.heap.size + 1 + 1) w9 gs (pickL (wsG (yn : Int) ps s0 h0 H) sn)) := Lib.hid (World.ownsRow.kept (World.ownsRow.alloc HSTE.out _) hgrow (by
                    by_cases e : gs.ownBlock = none
                    · exact .inl e
                    · refine .inr fun h => ?_
                      obtain ⟨j, hj⟩ := Option.ne_none_iff_exists'.1 e
                      exact HNE.out j (h ▸ hj) hj))
                  have HB' : Hid (Below (w.heap.size + 1 + 1) W1 w9) := Lib.hid ((HNXE.out.alloc (by omega) _).grown hgrow (by simp; omega) (fun j hj => by have := (hown.lt j hj).1; omega))
                  clear hown' hgrow hown hblk hne2 hgsl
                  go_wp2
                  go_roundw
                  case rel => exact ⟨k + 1, by omega, by go_num, HO'.out, HN'.out, HT'.out, HS'.out, HB'.out⟩
                  case measure => simp [intOf]; omega
                | false =>
                  have HL := Lib.hid (HNO.out rfl)
                  have HO' : Hid (OwnI (w.heap.size + 1 + 1 + 1) w8 _ (pickL (wlG (yn : Int) ps s0 h0 H) (k + 1))) := Lib.hid (by rw [HL.out]; exact HOLE.out)
                  clear HYES HNO
                  go_wp2_with fail
                  go_roundw
                  case rel => exact ⟨k + 1, by omega, by go_num, HO'.out, HNE.out, HBTE.out, HSTE.out, HNXE.out⟩
                  case measure => simp [intOf]; omega
          · have tk2 : decide ((k : Int) < (len : Int)) = false := decide_eq_false (by omega)
            have hk2 : k = len := by omega
            have HO1 : Hid (OwnI (w.heap.size + 1 + 1) wp gs (wsR (sn : Int) (yn : Int) ps s0 h0 H)) := Lib.hid (by rw [HRS.out]; exact HST2.out)
            have HO2 : Hid (OwnI (w.heap.size + 1 + 1 + 1) wp _ (wlR (sn : Int) (yn : Int) ps s0 h0 H)) := Lib.hid (by rw [HRL.out, ← hk2]; exact HOL.out)
            have HBF := Lib.hid (HWW.out _ HNX2.out)
            clear hk2
            go_wp2_with fail
            go_ret3
            exact ⟨_, _, ret_trip HCD.out.symm, HO1.out.mono (by omega), HO2.out.mono (by omega), HBF.out⟩
end Go.Proofs.Ytlempmahkeilpaa
/-
  The program's ArrivalsAt.
-/
namespace Go.Proofs.Ytlempmahkeilpaa
open Go Go.RowKit
set_option linter.unusedVariables false

theorem aa_chk (st sy : Int) (ps : List Lan) (x0 x1 y : Int) : chkC st sy ps [(x0, x1)] [y] [] = aaC st sy ps x0 x1 y := by
  unfold chkC aaC askC
  have h2 : betwB [] 0 300 = true := betwB_true (betw.zero _ _ _)
  have h1 : betwB [y] 0 (st - 1) = inB y 0 (st - 1) := betw1 y 0 (st - 1)
  have h3 : scsB st [(x0, x1)] = scB st x0 x1 := by
    rw [Bool.eq_iff_iff]
    unfold scsB scB
    simp only [decide_eq_true_eq]
    constructor
    · intro h; exact h 0 (by simp)
    · rintro h i hi
      match i, hi with
      | 0, _ => exact h
  rw [h1, h2, h3]
  cases scB st x0 x1 <;> cases inB y 0 (st - 1) <;> simp
/-- One scan in a row. -/
theorem reads_sc1 {w : World} {b : Nat} {x0 x1 : Int} (h0 : w.cell? ⟨b, 0, none⟩ = some (.int .i8 x0)) (h1 : w.cell? ⟨b, 1, none⟩ = some (.int .i16 x1)) : ReadsSc w (.slice (some ⟨b, 0, none⟩) 1 1) [(x0, x1)] :=
  ⟨_, 1, rfl, fun _ => ⟨b, rfl, fun i hi => by
    match i, hi with
    | 0, _ => exact ⟨h0, h1⟩⟩⟩

end Go.Proofs.Ytlempmahkeilpaa
/-
  The program's EarliestAt.
-/
namespace Go.Proofs.Ytlempmahkeilpaa
open Go Go.RowKit Go.Shelf
set_option linter.unusedVariables false
attribute [local go_sem] Oper.semAt_some

theorem ea_chk (st sy : Int) (ps : List Lan) (x0 x1 : Int) : chkC st sy ps [(x0, x1)] [] [] = eaC st sy ps x0 x1 := by
  unfold chkC eaC askC
  have h1 : betwB [] 0 (st - 1) = true := betwB_true (betw.zero _ _ _)
  have h2 : betwB [] 0 300 = true := betwB_true (betw.zero _ _ _)
  have h3 : scsB st [(x0, x1)] = scB st x0 x1 := by
    rw [Bool.eq_iff_iff]
    unfold scsB scB
    simp only [decide_eq_true_eq]
    constructor
    · intro h; exact h 0 (by simp)
    · rintro h i hi
      match i, hi with
      | 0, _ => exact h
  rw [h1, h2, h3]
  cases scB st x0 x1 <;> simp


theorem ea_bits {sn yn : Nat} {ps : List Lan} (hok : okNet (sn : Int) (yn : Int) ps) {s0 h0 : Nat} (hs0 : s0 < 8) (hh0 : h0 ≤ 300) {k : Nat} (hend : rend yn ps s0 h0 k) (s h : Nat) (h8 : s < 8) (hh : h < 320) : ((orT (tOf s0 h0) (rarr yn ps s0 h0 k)).getD s 0).testBit h = eaP (yn : Int) ps s0 h0 s h := by
  show bitT (orT (tOf s0 h0) (rarr yn ps s0 h0 k)) s h = _
  rw [bitT_or (tOf_ok s0 h0 hh0) s h h8]
  unfold eaP
  have e1 : bitT (rarr yn ps s0 h0 k) s h = arrB ps (-1) (yn : Int) s0 h0 s h := arrB_of (by simpa using seen_arr hok hs0 hh0 hend s h h8 hh)
  have e2 : bitT (tOf s0 h0) s h = decide ((h : Int) = (h0 : Int) ∧ (s : Int) = (s0 : Int)) := by rw [Bool.eq_iff_iff, bitT_tOf hs0, decide_eq_true_iff]; omega
  rw [e1, e2, Bool.or_comm]
theorem ea_frst {sn yn : Nat} {ps : List Lan} (hok : okNet (sn : Int) (yn : Int) ps) {s0 h0 : Nat} (hs0 : s0 < 8) (hh0 : h0 ≤ 300) {k : Nat} (hend : rend yn ps s0 h0 k) (s : Nat) (h8 : s < 8) : (frst fun h => ((orT (tOf s0 h0) (rarr yn ps s0 h0 k)).getD s 0).testBit h) = frst (eaP (yn : Int) ps s0 h0 s) := by
  unfold frst
  rw [hourTo_congr fun i hi => ea_bits hok hs0 hh0 hend s i h8 (by omega)]

/-- What holds between the rounds: the hours, the list, and what lay before. -/
def EaInv (w : World) (Bt Bl : Nat) (R : List Nat) (xs : List (Fin 8)) (W : World) : Prop := BlkT W Bt R ∧ (∃ v, BlkA W Bl 30 #[v] ∧ W.ownsRow (Bl + 1) 2 1 v (xs.map fun s : Fin 8 => frst fun h => (R.getD s.val 0).testBit h).length ((xs.map fun s : Fin 8 => frst fun h => (R.getD s.val 0).testBit h).map (Value.int .i64))) ∧ Below w.heap.size w W ∧ Bl + 1 ≤ W.heap.size

end Go.Proofs.Ytlempmahkeilpaa
/-
  The program's WhereAt.
-/
namespace Go.Proofs.Ytlempmahkeilpaa
open Go Go.RowKit Go.Shelf
set_option linter.unusedVariables false
attribute [local go_sem] Oper.semAt_some

theorem wa_chk (st sy : Int) (ps : List Lan) (x0 x1 hr : Int) : chkC st sy ps [(x0, x1)] [] [hr] = waC st sy ps x0 x1 hr := by
  unfold chkC waC askC
  have h1 : betwB [] 0 (st - 1) = true := betwB_true (betw.zero _ _ _)
  have h2 : betwB [hr] 0 300 = inB hr 0 300 := betw1 hr 0 300
  have h3 : scsB st [(x0, x1)] = scB st x0 x1 := by
    rw [Bool.eq_iff_iff]
    unfold scsB scB
    simp only [decide_eq_true_eq]
    constructor
    · intro h; exact h 0 (by simp)
    · rintro h i hi
      match i, hi with
      | 0, _ => exact h
  rw [h1, h2, h3]
  cases scB st x0 x1 <;> cases inB hr 0 300 <;> simp

/-! The stations, one after the other (plain). -/
abbrev stay1 (y : Nat) (R : List Nat) (s : Nat) : Nat := mvK (R.getD s 0) 0 (y + 1)
def wsF (y H : Nat) (R : List Nat) (pre : List (Fin 8)) : List Nat × List Int := pre.foldl (fun p x => (p.1.set x.val (stay1 y p.1 x.val), if (stay1 y p.1 x.val).testBit H = true then p.2 ++ [((x.val : Nat) : Int)] else p.2)) (R, [])
theorem wsF_snoc (y H : Nat) (R : List Nat) (pre : List (Fin 8)) (x : Fin 8) : wsF y H R (pre ++ [x]) = ((wsF y H R pre).1.set x.val (stay1 y (wsF y H R pre).1 x.val), if (stay1 y (wsF y H R pre).1 x.val).testBit H = true then (wsF y H R pre).2 ++ [((x.val : Nat) : Int)] else (wsF y H R pre).2) := by
  unfold wsF; rw [List.foldl_append]; rfl
theorem wsF_ok {y H : Nat} {R : List Nat} (h : TOk R) : ∀ pre : List (Fin 8), TOk (wsF y H R pre).1 := by
  intro pre
  obtain ⟨rv, hrv⟩ : ∃ rv, pre.reverse = rv := ⟨_, rfl⟩
  have e : pre = rv.reverse := by rw [← hrv, List.reverse_reverse]
  subst e
  clear hrv
  induction rv with
  | nil => exact h
  | cons x rv ih =>
    rw [List.reverse_cons, wsF_snoc]
    exact ih.set (mvK_lt (ih.lt _) _ _)
theorem wsF_len (y H : Nat) (R : List Nat) : ∀ pre : List (Fin 8), (wsF y H R pre).2.length ≤ pre.length := by
  intro pre
  obtain ⟨rv, hrv⟩ : ∃ rv, pre.reverse = rv := ⟨_, rfl⟩
  have e : pre = rv.reverse := by rw [← hrv, List.reverse_reverse]
  subst e
  clear hrv
  induction rv with
  | nil => simp [wsF]
  | cons x rv ih =>
    rw [List.reverse_cons, wsF_snoc]
    simp only [List.length_append, List.length_cons, List.length_nil]
    split
    · simp only [List.length_append, List.length_cons, List.length_nil]; omega
    · omega
theorem wsF_all {y H : Nat} {R : List Nat} (h : TOk R) {xs : List (Fin 8)} {n : Nat} (hx : xs.map (·.val) = List.range n) : (∀ s, s < n → (wsF y H R xs).1.getD s 0 = stay1 y R s) ∧ (wsF y H R xs).2 = pickL (fun s => (stay1 y R s).testBit H) n := by
  have hl : xs.length = n := by have h := congrArg List.length hx; simpa using h
  have key : ∀ k, k ≤ n → (∀ s, (wsF y H R (xs.take k)).1.getD s 0 = if s < k then stay1 y R s else R.getD s 0) ∧ (wsF y H R (xs.take k)).2 = pickL (fun s => (stay1 y R s).testBit H) k := by
    intro k
    induction k with
    | zero => intro _; exact ⟨fun s => by rw [if_neg (by omega)]; rfl, rfl⟩
    | succ k ih =>
      intro hk
      obtain ⟨h1, h2⟩ := ih (by omega)
      have hkx : k < xs.length := by omega
      have hv : (xs[k]).val = k := by
        have h3 : (xs.map (·.val))[k]? = some k := by rw [hx, List.getElem?_range (by omega)]
        simpa [hkx] using h3
      have e : xs.take (k + 1) = xs.take k ++ [xs[k]] := by rw [List.take_add_one, List.getElem?_eq_getElem hkx]; rfl
      have hlen : (wsF y H R (xs.take k)).1.length = 8 := (wsF_ok h _).len
      have hk8 : k < 8 := by have := (xs[k]).isLt; omega
      have hst : stay1 y (wsF y H R (xs.take k)).1 k = stay1 y R k := by
        show mvK ((wsF y H R (xs.take k)).1.getD k 0) 0 (y + 1) = _
        rw [h1 k, if_neg (by omega)]
      rw [e, wsF_snoc, hv, hst, h2]
      refine ⟨fun s => ?_, ?_⟩
      · by_cases es : s = k
        · subst es
          rw [List.getD, List.getElem?_set_self (by omega), if_pos (show s < s + 1 by omega)]
          rfl
        · rw [List.getD, List.getElem?_set_ne (by omega)]
          have h4 := h1 s
          rw [List.getD] at h4
          rw [h4]
          by_cases h5 : s < k
          · rw [if_pos h5, if_pos (by omega)]
          · rw [if_neg h5, if_neg (by omega)]
      · rw [pickL]
  have h6 := key n (Nat.le_refl _)
  rw [show xs.take n = xs from by rw [← hl]; exact List.take_length] at h6
  exact ⟨fun s hs => by rw [h6.1 s, if_pos hs], h6.2⟩

theorem net_natsX {st sy : Int} {L : List Lan} (h : okNet st sy L) {k : Nat} (hk : k < L.length) : ∃ f t a b : Nat, L.getD k (0, 0, 0, 0) = ((f : Int), (t : Int), (a : Int), (b : Int)) ∧ f < 8 ∧ (f : Int) < st ∧ 1 ≤ b ∧ b ≤ 40 := by
  have h2 := h.2.2.2 k hk
  have hs := h.1
  obtain ⟨q, hq⟩ : ∃ q, L.getD k (0, 0, 0, 0) = q := ⟨_, rfl⟩
  rw [hq] at h2
  obtain ⟨x0, x1, x2, x3⟩ := q
  unfold okLa at h2
  simp only at h2
  exact ⟨x0.toNat, x1.toNat, x2.toNat, x3.toNat, by rw [hq]; simp only [Prod.mk.injEq]; omega, by omega, by omega, by omega, by omega⟩
/-- What holds between the rounds: the hours, the list, and what lay before. -/
def WaInv (w3 : World) (Bt Bl y H : Nat) (R : List Nat) (xs : List (Fin 8)) (W : World) : Prop := BlkT W Bt (wsF y H R xs).1 ∧ (∃ v, BlkA W Bl 30 #[v] ∧ W.ownsRow (Bl + 1) 2 1 v (wsF y H R xs).2.length ((wsF y H R xs).2.map (Value.int .i64))) ∧ Below w3.heap.size w3 W ∧ Bl + 1 ≤ W.heap.size

set_option maxHeartbeats 16000000 in
set_option maxRecDepth 100000 in
theorem iwa_in (sn yn : Nat) (a : Option Addr) (len cap : Nat) (ps : List Lan) (s0 h0 H : Nat) (w : World) (hok : okNet (sn : Int) (yn : Int) ps) (hn : FitN (sn : Int) (yn : Int) ps) (hc0 : waC (sn : Int) (yn : Int) ps s0 h0 H = 0) (hs0 : s0 < 8) (hh0 : h0 ≤ 300) (hH : H ≤ 300) (hx : FitSc ((s0 : Int), (h0 : Int))) (hv : ReadsLa w (.slice a len cap) ps) (ha : ps ≠ [] → ∃ b, a = some ⟨b, 0, none⟩ ∧ CellsLa w b ps) (hl : ps.length = len) :
    CallsIn Fence.wide 9 Try.prog 12 #[netV (sn : Int) (yn : Int) (.slice a len cap), .agg #[.int .i8 (s0 : Int), .int .i16 (h0 : Int)], .int .i64 (H : Int)] w (RetL2 w.heap.size w (pickL (wsG (yn : Int) ps s0 h0 H) sn) (pickL (wlG (yn : Int) ps s0 h0 H) len) 0) := by
  obtain ⟨i0, hi, hz0, hz1, hz2⟩ := info_parts info_i64
  have hro : Fence.wide.round = none := rfl
  have hFF : ∀ f, Fence.wide.fn f := fun _ => trivial
  have HOK := Lib.hid hok
  have HN := Lib.hid hn
  have HV := Lib.hid hv
  have HX := Lib.hid hx
  have HA := Lib.hid ha
  have HC0 := Lib.hid hc0
  have HLN := Lib.hid hl
  have hsn8 : sn ≤ 8 := by have := hok.1.2; omega
  have hy40 : yn ≤ 40 := by have := hok.2.1.2; omega
  have hlen20 : len ≤ 20 := by have := hok.2.2.1; omega
  have hb1 : Below w.heap.size w (((w.alloc (.cells #[.int .i8 (sn : Int), .int .i16 (yn : Int), .slice a len cap] 35)).alloc (.cells #[.int .i8 (s0 : Int), .int .i16 (h0 : Int)] 37)).alloc (.cells #[.int .i64 (H : Int)] 2)) := (((Below.refl _ _).alloc (Nat.le_refl _) _).alloc (by simp) _).alloc (by simp; omega) _
  have BN : BlkA (((w.alloc (.cells #[.int .i8 (sn : Int), .int .i16 (yn : Int), .slice a len cap] 35)).alloc (.cells #[.int .i8 (s0 : Int), .int .i16 (h0 : Int)] 37)).alloc (.cells #[.int .i64 (H : Int)] 2)) w.heap.size 35 #[.int .i8 (sn : Int), .int .i16 (yn : Int), .slice a len cap] := ((BlkA.new rfl _ _).alloc _).alloc _
  have BX : BlkA (((w.alloc (.cells #[.int .i8 (sn : Int), .int .i16 (yn : Int), .slice a len cap] 35)).alloc (.cells #[.int .i8 (s0 : Int), .int .i16 (h0 : Int)] 37)).alloc (.cells #[.int .i64 (H : Int)] 2)) (w.heap.size + 1) 37 #[.int .i8 (s0 : Int), .int .i16 (h0 : Int)] := (BlkA.new (by simp) _ _).alloc _
  have BH : BlkA (((w.alloc (.cells #[.int .i8 (sn : Int), .int .i16 (yn : Int), .slice a len cap] 35)).alloc (.cells #[.int .i8 (s0 : Int), .int .i16 (h0 : Int)] 37)).alloc (.cells #[.int .i64 (H : Int)] 2)) (w.heap.size + 1 + 1) 2 #[.int .i64 (H : Int)] := BlkA.new (by simp) _ _
  obtain ⟨W1, hW⟩ : ∃ W, (((w.alloc (.cells #[.int .i8 (sn : Int), .int .i16 (yn : Int), .slice a len cap] 35)).alloc (.cells #[.int .i8 (s0 : Int), .int .i16 (h0 : Int)] 37)).alloc (.cells #[.int .i64 (H : Int)] 2)) = W := ⟨_, rfl⟩
  rw [hW] at hb1 BN BX BH
  have hs1 : W1.heap.size = w.heap.size + 1 + 1 + 1 := by rw [← hW]; simp
  have b2 : Below W1.heap.size W1 ((W1.alloc (.cells #[.int .i8 (s0 : Int), .int .i16 (h0 : Int)] 37)).alloc (.cells #[.int .i64 (H : Int)] 2)) := ((Below.refl _ _).alloc (Nat.le_refl _) _).alloc (by simp) _
  have BL : BlkA ((W1.alloc (.cells #[.int .i8 (s0 : Int), .int .i16 (h0 : Int)] 37)).alloc (.cells #[.int .i64 (H : Int)] 2)) W1.heap.size 37 #[.int .i8 (s0 : Int), .int .i16 (h0 : Int)] := (BlkA.new rfl _ _).alloc _
  have BM : BlkA ((W1.alloc (.cells #[.int .i8 (s0 : Int), .int .i16 (h0 : Int)] 37)).alloc (.cells #[.int .i64 (H : Int)] 2)) (W1.heap.size + 1) 2 #[.int .i64 (H : Int)] := BlkA.new (by simp) _ _
  obtain ⟨W2, hW2⟩ : ∃ W, (W1.alloc (.cells #[.int .i8 (s0 : Int), .int .i16 (h0 : Int)] 37)).alloc (.cells #[.int .i64 (H : Int)] 2) = W := ⟨_, rfl⟩
  rw [hW2] at b2 BL BM
  have HB2 := Lib.hid (blink hb1 b2)
  have HN2 := Lib.hid (BN.below b2)
  have HX2 := Lib.hid (BX.below b2)
  have HH2 := Lib.hid (BH.below b2)
  rw [hs1] at BL BM
  have HL2 := Lib.hid BL
  have HM2 := Lib.hid BM
  have HV2 := Lib.hid (HV.out.below (blink hb1 b2))
  rw [← hW] at hW2
  have HW2 := Lib.hid hW2
  clear hW hW2 hb1 BN BX BH b2 BL BM hs1 hok hn hx hc0 hl hv ha
  refine callsIn_of_wp_marks Try.func12 rfl (hFF _) ?_ hro
  simp only [Try.ntmps12, List.size_toArray, List.length_cons, List.length_nil, Nat.reduceAdd, Nat.reduceSub, Array.replicate_succ, Array.replicate_zero, List.push_toArray, List.append_toArray, List.nil_append, List.cons_append]
  gi_wp2
  rw [HW2.out]
  refine ((callsIn_wide (n := 8)).2 (ichk_any (sn : Int) (yn : Int) (.slice a len cap) ps _ _ _ [((s0 : Int), (h0 : Int))] [] [(H : Int)] W2 HN.out HV2.out (reads_sc1 (HL2.out.at 0) (HL2.out.at 1)) (fun p hp => by simp at hp; subst hp; exact HX.out) (reads_nil _) (reads_one (HM2.out.at 0)) (by simp) (by simp) (by simp))).mono ?_
  rintro e w3 ⟨rfl, b3⟩
  have HB3 := Lib.hid (blink HB2.out b3)
  have HN3 := Lib.hid (HN2.out.below b3)
  have HX3 := Lib.hid (HX2.out.below b3)
  have HH3 := Lib.hid (HH2.out.below b3)
  have HV3 := Lib.hid (HV2.out.below b3)
  rw [wa_chk, HC0.out]
  clear b3
  gi_wp2
  refine wpIn_region_relL (fun W => Below w3.heap.size w3 W) (fun W W' => Below W.heap.size W W') 8 [fun v _ => v = Value.agg #[.int .i8 (s0 : Int), .int .i16 (h0 : Int)], fun v _ => v = tv (tOf s0 h0), fun v _ => v = netV (sn : Int) (yn : Int) (.slice a len cap), fun v W => ReadsLa W v (hopsL (yn : Int) ps), fun v _ => v = Value.agg #[.int .i8 (s0 : Int), .int .i16 (h0 : Int)],
    fun v _ => ∃ k, v = tv (rarr yn ps s0 h0 k) ∧ rend yn ps s0 h0 k, fun v _ => ∃ k, v = tv (orT (tOf s0 h0) (rarr yn ps s0 h0 k)) ∧ rend yn ps s0 h0 k, fun v W => ∃ B, v = Value.pointer (some ⟨B, 0, none⟩) ∧ w3.heap.size ≤ B ∧ BlkT W B t0] (by kernel_rfl) (by kernel_rfl) (by kernel_rfl) rfl (Below.refl _ _).drew ?_
  simp only [List.take_succ_cons, List.take_zero, List.drop_succ_cons, List.drop_zero]
  refine wpRelI_cons (fun _ _ _ _ _ h => h) (fun W hC hd => relOblI_intro fun K hK => ?_) (fun v26 => ?_)
  · have HK := Lib.hid hK
    have HC := Lib.hid hC
    have c0 : W.cell? ⟨w.heap.size + 1, 0, none⟩ = some (.int .i8 (s0 : Int)) := (HX3.out.below hC).at 0
    have c1 : W.cell? ⟨w.heap.size + 1, 1, none⟩ = some (.int .i16 (h0 : Int)) := (HX3.out.below hC).at 1
    clear hK hd hC
    go_simp
    exact HK.out _ _ ⟨_, rfl, HC.out, Below.refl _ _, rfl⟩
  simp only [Act.put, List.setIfInBounds_toArray, List.set_cons_zero, List.set_cons_succ]
  refine wpRelI_cons (fun _ _ _ _ _ h => h) (fun W hC hd => relOblI_intro fun K hK => ?_) (fun v27 => ?_)
  · have HK := Lib.hid hK
    have HC := Lib.hid hC
    obtain rfl : v26 = Value.agg #[.int .i8 (s0 : Int), .int .i16 (h0 : Int)] := hd 0 rfl _ rfl
    clear hK hd hC
    go_simp
    refine ((callsIn_wide (n := 8)).2 (itimesOf_any s0 h0 hs0 hh0 W)).mono ?_
    rintro e W5 ⟨rfl, b5⟩
    exact HK.out _ _ ⟨_, rfl, blink HC.out b5, b5, rfl⟩
  simp only [Act.put, List.setIfInBounds_toArray, List.set_cons_zero, List.set_cons_succ]
  refine wpRelI_cons (fun _ _ _ _ _ h => h) (fun W hC hd => relOblI_intro fun K hK => ?_) (fun v28 => ?_)
  · have HK := Lib.hid hK
    have HC := Lib.hid hC
    have c0 : W.cell? ⟨w.heap.size, 0, none⟩ = some (.int .i8 (sn : Int)) := (HN3.out.below hC).at 0
    have c1 : W.cell? ⟨w.heap.size, 1, none⟩ = some (.int .i16 (yn : Int)) := (HN3.out.below hC).at 1
    have c2 : W.cell? ⟨w.heap.size, 2, none⟩ = some (.slice a len cap) := (HN3.out.below hC).at 2
    clear hK hd hC
    go_simp
    exact HK.out _ _ ⟨_, rfl, HC.out, Below.refl _ _, rfl⟩
  simp only [Act.put, List.setIfInBounds_toArray, List.set_cons_zero, List.set_cons_succ]
  refine wpRelI_cons (fun _ _ _ _ hS h => h.below hS) (fun W hC hd => relOblI_intro fun K hK => ?_) (fun v29 => ?_)
  · have HK := Lib.hid hK
    have HC := Lib.hid hC
    obtain rfl : v28 = netV (sn : Int) (yn : Int) (.slice a len cap) := hd 2 rfl _ rfl
    have HVW := Lib.hid (HV3.out.below hC)
    clear hK hd hC
    go_simp
    refine ((callsIn_wide (n := 8)).2 (ihops_any (sn : Int) (yn : Int) (.slice a len cap) ps W HOK.out HVW.out)).mono ?_
    rintro e W5 ⟨u, rfl, o5, b5⟩
    exact HK.out _ _ ⟨_, rfl, blink HC.out b5, b5, OwnLa.reads o5⟩
  simp only [Act.put, List.setIfInBounds_toArray, List.set_cons_zero, List.set_cons_succ]
  refine wpRelI_cons (fun _ _ _ _ _ h => h) (fun W hC hd => relOblI_intro fun K hK => ?_) (fun v30 => ?_)
  · have HK := Lib.hid hK
    have HC := Lib.hid hC
    have c0 : W.cell? ⟨w.heap.size + 1, 0, none⟩ = some (.int .i8 (s0 : Int)) := (HX3.out.below hC).at 0
    have c1 : W.cell? ⟨w.heap.size + 1, 1, none⟩ = some (.int .i16 (h0 : Int)) := (HX3.out.below hC).at 1
    clear hK hd hC
    go_simp
    exact HK.out _ _ ⟨_, rfl, HC.out, Below.refl _ _, rfl⟩
  simp only [Act.put, List.setIfInBounds_toArray, List.set_cons_zero, List.set_cons_succ]
  refine wpRelI_cons (fun _ _ _ _ _ h => h) (fun W hC hd => relOblI_intro fun K hK => ?_) (fun v31 => ?_)
  · have HK := Lib.hid hK
    have HC := Lib.hid hC
    obtain rfl : v30 = Value.agg #[.int .i8 (s0 : Int), .int .i16 (h0 : Int)] := hd 4 rfl _ rfl
    obtain ⟨au, cu, rfl, hcu⟩ := (show ReadsLa W v29 (hopsL (yn : Int) ps) from hd 3 rfl _ rfl)
    have HRD : Hid (ReadsLa W (.slice au (hopsL (yn : Int) ps).length cu) (hopsL (yn : Int) ps)) := Lib.hid ⟨au, cu, rfl, hcu⟩
    clear hK hd hC hcu
    go_simp
    refine ((callsIn_wide (n := 8)).2 (callsIn_wide.1 (iarr_in au _ cu (hopsL (yn : Int) ps) s0 h0 (hops_ok HOK.out) (by rw [hopsL_len]; exact HN.out.n) hs0 hh0 W HRD.out))).mono ?_
    rintro e W5 ⟨k, rfl, hend, b5⟩
    exact HK.out _ _ ⟨_, rfl, blink HC.out b5, b5, k, rfl, hend⟩
  simp only [Act.put, List.setIfInBounds_toArray, List.set_cons_zero, List.set_cons_succ]
  refine wpRelI_cons (fun _ _ _ _ _ h => h) (fun W hC hd => relOblI_intro fun K hK => ?_) (fun v32 => ?_)
  · have HK := Lib.hid hK
    have HC := Lib.hid hC
    obtain rfl : v27 = tv (tOf s0 h0) := hd 1 rfl _ rfl
    obtain ⟨k, rfl, hend⟩ := (show ∃ k, v31 = tv (rarr yn ps s0 h0 k) ∧ rend yn ps s0 h0 k from hd 5 rfl _ rfl)
    have HEND := Lib.hid hend
    clear hK hd hC hend
    go_simp
    refine ((callsIn_wide (n := 8)).2 (itor_any (tOf s0 h0) (rarr yn ps s0 h0 k) (tOf_ok s0 h0 hh0) (seenK_ok (fun T h => onw_ok h) (onw_ok (tOf_ok s0 h0 hh0)) k) W)).mono ?_
    rintro e W5 ⟨rfl, b5⟩
    exact HK.out _ _ ⟨_, rfl, blink HC.out b5, b5, k, rfl, HEND.out⟩
  simp only [Act.put, List.setIfInBounds_toArray, List.set_cons_zero, List.set_cons_succ]
  refine wpRelI_cons (fun _ _ _ _ hS ⟨B, e, h1, h2⟩ => ⟨B, e, h1, BlkA.below h2 hS⟩) (fun W hC hd => relOblI_intro fun K hK => ?_) (fun v10 => ?_)
  · have HK := Lib.hid hK
    have HC := Lib.hid hC
    clear hK hd hC
    go_simp
    refine HK.out _ _ ⟨_, rfl, HC.out.alloc HC.out.size _, (Below.refl _ _).alloc (Nat.le_refl _) _, W.heap.size, rfl, HC.out.size, ?_⟩
    show BlkA _ _ _ (tw t0)
    rw [tw_zero]
    exact BlkA.new rfl _ _
  simp only [Act.put, List.setIfInBounds_toArray, List.set_cons_zero, List.set_cons_succ]
  refine wpRelI_nil fun W4 hC hd => ?_
  obtain ⟨k, rfl, hend⟩ := (show ∃ k, v32 = tv (orT (tOf s0 h0) (rarr yn ps s0 h0 k)) ∧ rend yn ps s0 h0 k from hd 6 _ rfl)
  obtain ⟨Bt, rfl, hBt, bt⟩ := (show ∃ B, v10 = Value.pointer (some ⟨B, 0, none⟩) ∧ w3.heap.size ≤ B ∧ BlkT W4 B t0 from hd 7 _ rfl)
  have HBITS : Hid (∀ s h, s < 8 → h < 320 → ((orT (tOf s0 h0) (rarr yn ps s0 h0 k)).getD s 0).testBit h = eaP (yn : Int) ps s0 h0 s h) := Lib.hid (fun s h h8 hh => ea_bits HOK.out hs0 hh0 hend s h h8 hh)
  have hRk : TOk (orT (tOf s0 h0) (rarr yn ps s0 h0 k)) := orT_ok (tOf_ok s0 h0 hh0) (seenK_ok (fun T h => onw_ok h) (onw_ok (tOf_ok s0 h0 hh0)) k)
  obtain ⟨R, hR⟩ : ∃ R, orT (tOf s0 h0) (rarr yn ps s0 h0 k) = R := ⟨_, rfl⟩
  rw [hR] at HBITS hRk ⊢
  have HRK := Lib.hid hRk
  have HBT := Lib.hid bt
  have hgs := grown_setRow W4 Bt (tw R)
  have hBw : Bt < W4.heap.size := BlkA.lt bt
  have hr5 : BlkT (W4.setRow Bt (tw R)) Bt R := bt.setRow_same
  have hb5 : Below w3.heap.size w3 (W4.setRow Bt (tw R)) := hC.grown hgs hC.size (fun k e => by cases e; omega)
  have hz5 : (W4.setRow Bt (tw R)).heap.size = W4.heap.size := by simp [World.setRow]
  obtain ⟨W5, hW5⟩ : ∃ W5, W4.setRow Bt (tw R) = W5 := ⟨_, rfl⟩
  rw [hW5] at hr5 hb5 hz5
  have HW5 := Lib.hid hW5
  have HR5 := Lib.hid hr5
  have HB5 := Lib.hid hb5
  have hBt5 : Bt < W5.heap.size := by omega
  have hw35 : w3.heap.size ≤ W5.heap.size := hb5.size
  have hlt3 : w.heap.size + 1 + 1 < w3.heap.size := HH3.out.lt
  have hlt5 : w.heap.size < W5.heap.size := by omega
  have n0 : W5.cell? ⟨w.heap.size, 0, none⟩ = some (.int .i8 (sn : Int)) := (HN3.out.below hb5).at 0
  have n1 : W5.cell? ⟨w.heap.size, 1, none⟩ = some (.int .i16 (yn : Int)) := (HN3.out.below hb5).at 1
  have n2 : W5.cell? ⟨w.heap.size, 2, none⟩ = some (.slice a len cap) := (HN3.out.below hb5).at 2
  clear hd hC hend bt hgs hr5 hb5 hW5 hR hRk HB2 HN2 HX2 HL2 HV2 HW2 HM2 HH2 hz5
  gi_wp2_with (refine wpListIn_store_row (o := ⟨none, _, _, _, _, _⟩) rfl 76 (.tmp 10) (.tmp 32) rfl Bt (tw R) rfl rfl 76 (tw t0) HBT.out (tw_info HRK.out.len) (by rw [tw_size, tw_size, HRK.out.len, t0_ok.len]) (tw_ones _) ?_; rw [HW5.out])
  refine ((callsIn_wide (n := 8)).2 (istats_any (sn : Int) (yn : Int) (.slice a len cap) _)).mono ?_
  rintro e W7 ⟨rfl, e7⟩
  have hz6 : (W5.alloc (.cells #[.slice none 0 0] 30)).heap.size = W5.heap.size + 1 := by simp
  rw [hz6]
  have bl7 : BlkA W7 W5.heap.size 30 #[.slice none 0 0] := by rw [e7]; exact (BlkA.new rfl _ _).alloc _
  have bn7 : BlkA W7 (W5.heap.size + 1) 35 (netB (sn : Int) (yn : Int) (.slice a len cap)) := by rw [e7]; exact BlkA.new (by simp) _ _
  have b57 : Below W5.heap.size W5 W7 := by rw [e7]; exact ((Below.refl _ _).alloc (Nat.le_refl _) _).alloc (by simp) _
  have br7 : BlkT W7 Bt R := BlkA.below HR5.out b57
  have HL7 := Lib.hid bl7
  have HS7 := Lib.hid bn7
  have HR7 := Lib.hid br7
  have HB7 := Lib.hid (blink HB5.out b57)
  have hs7 : W5.heap.size + 1 < W7.heap.size := BlkA.lt bn7
  clear e7 hz6 bl7 bn7 b57 br7 n0 n1 n2
  gi_wp2
  refine wpIn_rangeFunc_ownF (α := Fin 8) hro (by omega) (gf := 81) (lb := #[.pointer (some ⟨W5.heap.size + 1, 0, none⟩)]) rfl (hFF _) (enters_of Try.func81 (by kernel_rfl) rfl)
    (stat_stops 8 (by omega) (W5.heap.size + 1) sn hsn8 W7 (HS7.out.at 0) hs7) (fun _ _ => trivial) (fun _ _ _ _ _ _ _ _ => trivial) (Below.refl _ _) (fun _ => rfl)
    (WaInv w3 Bt W5.heap.size yn H R)
    (fun _ _ _ => False) ?own (fun _ _ _ _ _ h _ _ => h) ⟨HR7.out, ⟨_, HL7.out, World.ownsRow_nil _ _ _ _⟩, HB7.out, by omega⟩ ?act ?assign ?body ?done (fun _ _ _ _ _ _ h _ => h.elim)
  case own =>
    rintro xs A B row ⟨h1, ⟨v, h2, h3⟩, h4, h5⟩ hg hr
    exact ⟨blkA_kept h1 hg (fun r e => (hr r e).2), ⟨v, blkA_kept h2 hg (fun r e => (hr r e).2), row_kept h3 hg (fun r e => (hr r e).2)⟩, below_kept h4 h4.size (by omega) hg (fun r e => (hr r e).1), Nat.le_trans h5 hg.size⟩
  case assign =>
    intro l x W K hK
    gi_wp2
    exact hK
  case body =>
    rintro l pre ⟨x, hx8⟩ W ⟨h1, ⟨v, h2, h3⟩, h4, h5⟩ hpl
    simp only
    have HSN : Hid (wsF yn H R (pre ++ [(⟨x, hx8⟩ : Fin 8)]) = ((wsF yn H R pre).1.set x (stay1 yn (wsF yn H R pre).1 x), if (stay1 yn (wsF yn H R pre).1 x).testBit H = true then (wsF yn H R pre).2 ++ [(x : Int)] else (wsF yn H R pre).2)) := Lib.hid (wsF_snoc yn H R pre ⟨x, hx8⟩)
    have hok1 : TOk (wsF yn H R pre).1 := wsF_ok HRK.out pre
    have hll : (wsF yn H R pre).2.length ≤ pre.length := wsF_len _ _ _ _
    obtain ⟨ys, hys⟩ : ∃ ys, pre ++ [(⟨x, hx8⟩ : Fin 8)] = ys := ⟨_, rfl⟩
    obtain ⟨R1, hR1⟩ : ∃ R1, (wsF yn H R pre).1 = R1 := ⟨_, rfl⟩
    obtain ⟨ls, hls⟩ : ∃ ls, (wsF yn H R pre).2 = ls := ⟨_, rfl⟩
    rw [hys, hR1, hls] at HSN
    rw [hR1] at hok1 h1
    rw [hls] at h3 hll
    rw [hys]
    obtain ⟨N, hN⟩ : ∃ N, R1.getD x 0 = N := ⟨_, rfl⟩
    have hNlt : N < 2 ^ room := by rw [← hN]; exact hok1.lt x
    have HMV : Hid (∀ W, Calls Try.prog 45 #[hv N, .func (.func 46) #[] #[], .int .i16 0, .int .i16 (yn : Int)] W fun e w' => e = .returned (hv (stay1 yn R1 x)) ∧ Below W.heap.size W w') := Lib.hid (fun W => by
      have h := imoved_any N 0 yn hNlt (by omega) (by omega) W
      rw [← hN] at h ⊢
      exact h)
    obtain ⟨M, hM⟩ : ∃ M, stay1 yn R1 x = M := ⟨_, rfl⟩
    have hMlt : M < 2 ^ room := by rw [← hM]; exact mvK_lt (hok1.lt _) _ _
    rw [hM] at HSN HMV
    obtain ⟨z, hz⟩ : ∃ z, M.testBit H = z := ⟨_, rfl⟩
    rw [hz] at HSN
    have HHB : Hid (∀ W, Calls Try.prog 47 #[hv M, .int .i64 (H : Int)] W fun e w' => e = .returned (.bool z) ∧ Below W.heap.size W w') := Lib.hid (fun W => by rw [← hz]; exact ihbit_any M H hH W)
    have HOK1 := Lib.hid hok1
    have HN1 := Lib.hid hN
    have hll8 : ls.length < 8 := by omega
    have H1 := Lib.hid h1
    have H2 := Lib.hid h2
    have H3 := Lib.hid h3
    have H4 := Lib.hid h4
    have hx0 : (0 : Int) ≤ (x : Int) := by omega
    have hx88 : (x : Int) < 8 := by omega
    have hWs : W5.heap.size + 1 ≤ W.heap.size := h5
    have hBtW : Bt < W.heap.size := BlkA.lt h1
    have hBt3 : w3.heap.size ≤ Bt := hBt
    clear h1 h2 h3 h4 h5 hys hR1 hls hN hM hz hok1 hNlt hpl
    gi_wp2
    refine wpIn_region_relL (fun W' => Below W.heap.size W W') (fun W W' => Below W.heap.size W W') 8 [fun u _ => u = Value.int .i64 (x : Int), fun u _ => u = Value.int .i64 (x : Int), fun u _ => u = Value.pointer (some ⟨Bt, x * 5, none⟩), fun u _ => u = hv N, fun u _ => u = Value.pointer (some ⟨w.heap.size, 1, none⟩), fun u _ => u = Value.int .i16 (yn : Int), fun u _ => u = hv M, fun u _ => u = Value.pointer (some ⟨Bt, x * 5, none⟩)] (by kernel_rfl) (by kernel_rfl) (by kernel_rfl) rfl (Below.refl _ _).drew ?_
    simp only [List.take_succ_cons, List.take_zero, List.drop_succ_cons, List.drop_zero]
    refine wpRelI_cons (fun _ _ _ _ _ h => h) (fun V hC hd => relOblI_intro fun K hK => ?_) (fun v36 => ?_)
    · have HK := Lib.hid hK
      have HC := Lib.hid hC
      clear hK hd hC
      go_simp
      exact HK.out _ _ ⟨_, rfl, HC.out, Below.refl _ _, rfl⟩
    simp only [Act.put, List.setIfInBounds_toArray, List.set_cons_zero, List.set_cons_succ]
    refine wpRelI_cons (fun _ _ _ _ _ h => h) (fun V hC hd => relOblI_intro fun K hK => ?_) (fun v37 => ?_)
    · have HK := Lib.hid hK
      have HC := Lib.hid hC
      clear hK hd hC
      go_simp
      exact HK.out _ _ ⟨_, rfl, HC.out, Below.refl _ _, rfl⟩
    simp only [Act.put, List.setIfInBounds_toArray, List.set_cons_zero, List.set_cons_succ]
    refine wpRelI_cons (fun _ _ _ _ _ h => h) (fun V hC hd => relOblI_intro fun K hK => ?_) (fun v38 => ?_)
    · have HK := Lib.hid hK
      have HC := Lib.hid hC
      obtain rfl : v37 = Value.int .i64 (x : Int) := hd 1 rfl _ rfl
      clear hK hd hC
      go_simp
      exact HK.out _ _ ⟨_, rfl, HC.out, Below.refl _ _, rfl⟩
    simp only [Act.put, List.setIfInBounds_toArray, List.set_cons_zero, List.set_cons_succ]
    refine wpRelI_cons (fun _ _ _ _ _ h => h) (fun V hC hd => relOblI_intro fun K hK => ?_) (fun v39 => ?_)
    · have HK := Lib.hid hK
      have HC := Lib.hid hC
      obtain rfl : v38 = Value.pointer (some ⟨Bt, x * 5, none⟩) := hd 2 rfl _ rfl
      obtain ⟨c0, c1, c2, c3, c4⟩ := BlkT.cells (BlkA.below H1.out hC) x (by rw [HOK1.out.len]; exact hx8)
      rw [HN1.out] at c0 c1 c2 c3 c4
      clear hK hd hC
      go_simp
      exact HK.out _ _ ⟨_, rfl, HC.out, Below.refl _ _, rfl⟩
    simp only [Act.put, List.setIfInBounds_toArray, List.set_cons_zero, List.set_cons_succ]
    refine wpRelI_cons (fun _ _ _ _ _ h => h) (fun V hC hd => relOblI_intro fun K hK => ?_) (fun v40 => ?_)
    · have HK := Lib.hid hK
      have HC := Lib.hid hC
      clear hK hd hC
      go_simp
      exact HK.out _ _ ⟨_, rfl, HC.out, Below.refl _ _, rfl⟩
    simp only [Act.put, List.setIfInBounds_toArray, List.set_cons_zero, List.set_cons_succ]
    refine wpRelI_cons (fun _ _ _ _ _ h => h) (fun V hC hd => relOblI_intro fun K hK => ?_) (fun v41 => ?_)
    · have HK := Lib.hid hK
      have HC := Lib.hid hC
      obtain rfl : v40 = Value.pointer (some ⟨w.heap.size, 1, none⟩) := hd 4 rfl _ rfl
      have n1 : V.cell? ⟨w.heap.size, 1, none⟩ = some (.int .i16 (yn : Int)) := (HN3.out.below (blink H4.out hC)).at 1
      clear hK hd hC
      go_simp
      exact HK.out _ _ ⟨_, rfl, HC.out, Below.refl _ _, rfl⟩
    simp only [Act.put, List.setIfInBounds_toArray, List.set_cons_zero, List.set_cons_succ]
    refine wpRelI_cons (fun _ _ _ _ _ h => h) (fun V hC hd => relOblI_intro fun K hK => ?_) (fun v42 => ?_)
    · have HK := Lib.hid hK
      have HC := Lib.hid hC
      obtain rfl : v39 = hv N := hd 3 rfl _ rfl
      obtain rfl : v41 = Value.int .i16 (yn : Int) := hd 5 rfl _ rfl
      clear hK hd hC
      go_simp
      refine (CallsIn.inRound l ((callsIn_wide (n := _)).2 (HMV.out V))).mono ?_
      rintro e V5 ⟨rfl, b5⟩
      exact HK.out _ _ ⟨_, rfl, blink HC.out b5, b5, rfl⟩
    simp only [Act.put, List.setIfInBounds_toArray, List.set_cons_zero, List.set_cons_succ]
    refine wpRelI_cons (fun _ _ _ _ _ h => h) (fun V hC hd => relOblI_intro fun K hK => ?_) (fun v43 => ?_)
    · have HK := Lib.hid hK
      have HC := Lib.hid hC
      obtain rfl : v36 = Value.int .i64 (x : Int) := hd 0 rfl _ rfl
      clear hK hd hC
      go_simp
      exact HK.out _ _ ⟨_, rfl, HC.out, Below.refl _ _, rfl⟩
    simp only [Act.put, List.setIfInBounds_toArray, List.set_cons_zero, List.set_cons_succ]
    refine wpRelI_nil fun V hC hd => ?_
    obtain rfl : v42 = hv M := hd 6 _ rfl
    obtain rfl : v43 = Value.pointer (some ⟨Bt, x * 5, none⟩) := hd 7 _ rfl
    have HC := Lib.hid hC
    have hVs : W.heap.size ≤ V.heap.size := hC.size
    have hb1 : BlkT V Bt R1 := BlkA.below H1.out hC
    obtain ⟨c0, c1, c2, c3, c4⟩ := BlkT.cells hb1 x (by rw [HOK1.out.len]; exact hx8)
    have f0 := BlkA.frozen hb1 (x * 5)
    have f1 := BlkA.frozen hb1 (x * 5 + 1)
    have f2 := BlkA.frozen hb1 (x * 5 + 2)
    have f3 := BlkA.frozen hb1 (x * 5 + 3)
    have f4 := BlkA.frozen hb1 (x * 5 + 4)
    have HT5 : Hid (BlkT (((((V.setCell ⟨Bt, x * 5, none⟩ (.int .u64 (wd M 0 : Nat))).setCell ⟨Bt, x * 5 + 1, none⟩ (.int .u64 (wd M 1 : Nat))).setCell ⟨Bt, x * 5 + 2, none⟩ (.int .u64 (wd M 2 : Nat))).setCell ⟨Bt, x * 5 + 3, none⟩ (.int .u64 (wd M 3 : Nat))).setCell ⟨Bt, x * 5 + 4, none⟩ (.int .u64 (wd M 4 : Nat))) Bt (R1.set x M)) := Lib.hid (BlkT.store hb1 x M (by rw [HOK1.out.len]; exact hx8))
    have hl0 := H2.out.below hC
    have HL5 : Hid (BlkA (((((V.setCell ⟨Bt, x * 5, none⟩ (.int .u64 (wd M 0 : Nat))).setCell ⟨Bt, x * 5 + 1, none⟩ (.int .u64 (wd M 1 : Nat))).setCell ⟨Bt, x * 5 + 2, none⟩ (.int .u64 (wd M 2 : Nat))).setCell ⟨Bt, x * 5 + 3, none⟩ (.int .u64 (wd M 3 : Nat))).setCell ⟨Bt, x * 5 + 4, none⟩ (.int .u64 (wd M 4 : Nat))) W5.heap.size 30 #[v]) := Lib.hid (((((hl0.other _ _ (by show W5.heap.size ≠ Bt; omega)).other _ _ (by show W5.heap.size ≠ Bt; omega)).other _ _ (by show W5.heap.size ≠ Bt; omega)).other _ _ (by show W5.heap.size ≠ Bt; omega)).other _ _ (by show W5.heap.size ≠ Bt; omega))
    have hr0 := ownRow_below H3.out hC
    have HO5 : Hid (World.ownsRow (((((V.setCell ⟨Bt, x * 5, none⟩ (.int .u64 (wd M 0 : Nat))).setCell ⟨Bt, x * 5 + 1, none⟩ (.int .u64 (wd M 1 : Nat))).setCell ⟨Bt, x * 5 + 2, none⟩ (.int .u64 (wd M 2 : Nat))).setCell ⟨Bt, x * 5 + 3, none⟩ (.int .u64 (wd M 3 : Nat))).setCell ⟨Bt, x * 5 + 4, none⟩ (.int .u64 (wd M 4 : Nat))) (W5.heap.size + 1) 2 1 v ls.length (ls.map (Value.int .i64))) := Lib.hid (row_other (row_other (row_other (row_other (row_other hr0 _ _ (by show Bt < _; omega)) _ _ (by show Bt < _; omega)) _ _ (by show Bt < _; omega)) _ _ (by show Bt < _; omega)) _ _ (by show Bt < _; omega))
    have HB55 : Hid (Below w3.heap.size w3 (((((V.setCell ⟨Bt, x * 5, none⟩ (.int .u64 (wd M 0 : Nat))).setCell ⟨Bt, x * 5 + 1, none⟩ (.int .u64 (wd M 1 : Nat))).setCell ⟨Bt, x * 5 + 2, none⟩ (.int .u64 (wd M 2 : Nat))).setCell ⟨Bt, x * 5 + 3, none⟩ (.int .u64 (wd M 3 : Nat))).setCell ⟨Bt, x * 5 + 4, none⟩ (.int .u64 (wd M 4 : Nat)))) := Lib.hid ((((((blink H4.out hC).setCell hBt3 _).setCell hBt3 _).setCell hBt3 _).setCell hBt3 _).setCell hBt3 _)
    have HK5 : Hid (KeepsOthers W (((((V.setCell ⟨Bt, x * 5, none⟩ (.int .u64 (wd M 0 : Nat))).setCell ⟨Bt, x * 5 + 1, none⟩ (.int .u64 (wd M 1 : Nat))).setCell ⟨Bt, x * 5 + 2, none⟩ (.int .u64 (wd M 2 : Nat))).setCell ⟨Bt, x * 5 + 3, none⟩ (.int .u64 (wd M 3 : Nat))).setCell ⟨Bt, x * 5 + 4, none⟩ (.int .u64 (wd M 4 : Nat)))) := Lib.hid ((((((KeepsOthers.trans ⟨hC.size, fun k o hk _ => (hC.block k (Array.getElem?_eq_some_iff.1 hk).1).trans hk⟩ (KeepsOthers.setCell _ _ _)).trans (KeepsOthers.setCell _ _ _)).trans (KeepsOthers.setCell _ _ _)).trans (KeepsOthers.setCell _ _ _)).trans (KeepsOthers.setCell _ _ _)))
    have hz5 : (((((V.setCell ⟨Bt, x * 5, none⟩ (.int .u64 (wd M 0 : Nat))).setCell ⟨Bt, x * 5 + 1, none⟩ (.int .u64 (wd M 1 : Nat))).setCell ⟨Bt, x * 5 + 2, none⟩ (.int .u64 (wd M 2 : Nat))).setCell ⟨Bt, x * 5 + 3, none⟩ (.int .u64 (wd M 3 : Nat))).setCell ⟨Bt, x * 5 + 4, none⟩ (.int .u64 (wd M 4 : Nat))).heap.size = V.heap.size := by simp
    clear hd hC hb1 hl0 hr0
    gi_wp2
    obtain ⟨V2, hV2⟩ : ∃ W, (((((V.setCell ⟨Bt, x * 5, none⟩ (.int .u64 (wd M 0 : Nat))).setCell ⟨Bt, x * 5 + 1, none⟩ (.int .u64 (wd M 1 : Nat))).setCell ⟨Bt, x * 5 + 2, none⟩ (.int .u64 (wd M 2 : Nat))).setCell ⟨Bt, x * 5 + 3, none⟩ (.int .u64 (wd M 3 : Nat))).setCell ⟨Bt, x * 5 + 4, none⟩ (.int .u64 (wd M 4 : Nat))) = W := ⟨_, rfl⟩
    rw [hV2] at HT5 HL5 HO5 HB55 HK5 hz5 ⊢
    clear hV2 c0 c1 c2 c3 c4 f0 f1 f2 f3 f4
    refine wpIn_region_relL (fun W' => Below V2.heap.size V2 W') (fun W W' => Below W.heap.size W W') 5 [fun u _ => u = Value.int .i64 (x : Int), fun u _ => u = Value.pointer (some ⟨Bt, x * 5, none⟩), fun u _ => u = hv M, fun u _ => u = Value.int .i64 (H : Int), fun u _ => u = Value.bool z] (by kernel_rfl) (by kernel_rfl) (by kernel_rfl) rfl (Below.refl _ _).drew ?_
    simp only [List.take_succ_cons, List.take_zero, List.drop_succ_cons, List.drop_zero]
    refine wpRelI_cons (fun _ _ _ _ _ h => h) (fun V hC hd => relOblI_intro fun K hK => ?_) (fun v44 => ?_)
    · have HK := Lib.hid hK
      have HC := Lib.hid hC
      clear hK hd hC
      go_simp
      exact HK.out _ _ ⟨_, rfl, HC.out, Below.refl _ _, rfl⟩
    simp only [Act.put, List.setIfInBounds_toArray, List.set_cons_zero, List.set_cons_succ]
    refine wpRelI_cons (fun _ _ _ _ _ h => h) (fun V hC hd => relOblI_intro fun K hK => ?_) (fun v45 => ?_)
    · have HK := Lib.hid hK
      have HC := Lib.hid hC
      obtain rfl : v44 = Value.int .i64 (x : Int) := hd 0 rfl _ rfl
      clear hK hd hC
      go_simp
      exact HK.out _ _ ⟨_, rfl, HC.out, Below.refl _ _, rfl⟩
    simp only [Act.put, List.setIfInBounds_toArray, List.set_cons_zero, List.set_cons_succ]
    refine wpRelI_cons (fun _ _ _ _ _ h => h) (fun V hC hd => relOblI_intro fun K hK => ?_) (fun v46 => ?_)
    · have HK := Lib.hid hK
      have HC := Lib.hid hC
      obtain rfl : v45 = Value.pointer (some ⟨Bt, x * 5, none⟩) := hd 1 rfl _ rfl
      have hg5 : (R1.set x M).getD x 0 = M := by rw [List.getD, List.getElem?_set_self (by rw [HOK1.out.len]; exact hx8)]; rfl
      obtain ⟨c0, c1, c2, c3, c4⟩ := BlkT.cells (BlkA.below HT5.out hC) x (by rw [List.length_set, HOK1.out.len]; exact hx8)
      rw [hg5] at c0 c1 c2 c3 c4
      clear hg5
      clear hK hd hC
      go_simp
      exact HK.out _ _ ⟨_, rfl, HC.out, Below.refl _ _, rfl⟩
    simp only [Act.put, List.setIfInBounds_toArray, List.set_cons_zero, List.set_cons_succ]
    refine wpRelI_cons (fun _ _ _ _ _ h => h) (fun V hC hd => relOblI_intro fun K hK => ?_) (fun v47 => ?_)
    · have HK := Lib.hid hK
      have HC := Lib.hid hC
      have m0 : V.cell? ⟨w.heap.size + 1 + 1, 0, none⟩ = some (.int .i64 (H : Int)) := (HH3.out.below (blink HB55.out hC)).at 0
      clear hK hd hC
      go_simp
      exact HK.out _ _ ⟨_, rfl, HC.out, Below.refl _ _, rfl⟩
    simp only [Act.put, List.setIfInBounds_toArray, List.set_cons_zero, List.set_cons_succ]
    refine wpRelI_cons (fun _ _ _ _ _ h => h) (fun V hC hd => relOblI_intro fun K hK => ?_) (fun v48 => ?_)
    · have HK := Lib.hid hK
      have HC := Lib.hid hC
      obtain rfl : v46 = hv M := hd 2 rfl _ rfl
      obtain rfl : v47 = Value.int .i64 (H : Int) := hd 3 rfl _ rfl
      clear hK hd hC
      go_simp
      refine (CallsIn.inRound l ((callsIn_wide (n := _)).2 (HHB.out V))).mono ?_
      rintro e V5 ⟨rfl, b5⟩
      exact HK.out _ _ ⟨_, rfl, blink HC.out b5, b5, rfl⟩
    simp only [Act.put, List.setIfInBounds_toArray, List.set_cons_zero, List.set_cons_succ]
    refine wpRelI_nil fun V3 hC hd => ?_
    obtain rfl : v48 = Value.bool z := hd 4 _ rfl
    have HL6 := Lib.hid (HL5.out.below hC)
    have HT6 : Hid (BlkT V3 Bt (R1.set x M)) := Lib.hid (BlkA.below HT5.out hC)
    have HO6 := Lib.hid (ownRow_below HO5.out hC)
    have HB6 := Lib.hid (blink HB55.out hC)
    have HK6 : Hid (KeepsOthers W V3) := Lib.hid (HK5.out.trans ⟨hC.size, fun k o hk _ => (hC.block k (Array.getElem?_eq_some_iff.1 hk).1).trans hk⟩)
    have hV3s : V2.heap.size ≤ V3.heap.size := hC.size
    clear hd hC
    cases z
    · have HFIN : Hid (WaInv w3 Bt W5.heap.size yn H R ys V3) := Lib.hid (by
        unfold WaInv
        rw [HSN.out]
        simp only [Bool.false_eq_true, if_false]
        exact ⟨HT6.out, ⟨v, HL6.out, HO6.out⟩, HB6.out, by omega⟩)
      gi_wp2
      exact ⟨HK6.out, trivial, HFIN.out⟩
    · have c0 : V3.cell? ⟨W5.heap.size, 0, none⟩ = some v := HL6.out.at 0
      gi_wp2_with (gi_at_builtin; refine wpListIn_append_own _ rfl _ _ 30 rfl (W5.heap.size + 1) 2 i0 (.int .i64 0) 1 8 Try.underlying30 hi hz0 hz1 hz2 rfl (by decide) _ _ _ rfl (HO6.out.alloc _) ⟨V3.heap.size, 0, none⟩ 1 1 [.int .i64 (x : Int)] rfl rfl (cell_one_new _ _ _) (ints_oneCell .i64 [(x : Int)]) ?c3 ?c4 ?c5 ?_)
      case c3 => unfold maxLen; omega
      case c4 => omega
      case c5 => first | omega | (simp; omega)
      intro v' V4 hown' hgrow _
      obtain ⟨gv, cv, rfl⟩ : ∃ gv cv, v' = .slice (some ⟨gv, 0, none⟩) (ls.length + 1) cv := by
        rcases hown'.2 with ⟨_, h0⟩ | ⟨gu, cu, cur, h1, _⟩
        · omega
        · exact ⟨gu, cu, h1⟩
      obtain ⟨v', hv'⟩ : ∃ v', Value.slice (some ⟨gv, 0, none⟩) (ls.length + 1) cv = v' := ⟨_, rfl⟩
      have HV' := Lib.hid hv'
      rw [hv'] at hown'
      have hbl2 : BlkA V4 W5.heap.size 30 #[v] := (hgrow.block _ (by simp; omega) (fun e => by have := (HO6.out.lt _ e.symm).1; omega)).trans (HL6.out.alloc _)
      have hbt2 : BlkT V4 Bt (R1.set x M) := (hgrow.block _ (by simp; omega) (fun e => by have := (HO6.out.lt _ e.symm).1; omega)).trans (BlkA.alloc HT6.out _)
      have hb2 : Below w3.heap.size w3 V4 := (HB6.out.alloc (by omega) _).grown hgrow (by simp; omega) (fun k e => by have := (HO6.out.lt _ e).1; omega)
      have hko : KeepsOthers W V4 := HK6.out.trans (KeepsOthers.trans (KeepsOthers.alloc V3 _) (KeepsOthers.of_grownBy hgrow (fun j o hj ho => by
        have h := (HO6.out.alloc (.cells #[.int .i64 (x : Int)] 2)).2
        rcases h with ⟨rfl, _⟩ | ⟨g, cap', cur, rfl, _, hg, _⟩
        · cases hj
        · simp [Value.ownBlock] at hj; subst hj; rw [hg] at ho; cases ho; rfl)))
      have hsz2 := hgrow.size
      have c0 : V4.cell? ⟨W5.heap.size, 0, none⟩ = some v := hbl2.at 0
      have f0 : V4.frozen? ⟨W5.heap.size, 0, none⟩ = false := hbl2.frozen 0
      have HFIN : Hid (WaInv w3 Bt W5.heap.size yn H R ys (V4.setCell ⟨W5.heap.size, 0, none⟩ v')) := Lib.hid (by
        unfold WaInv
        rw [HSN.out]
        simp only [if_true]
        exact ⟨BlkA.other hbt2 _ _ (by show Bt ≠ W5.heap.size; omega), ⟨v', by have := hbl2.set 0 v'; simpa using this, row_other (by rw [List.map_append, List.length_append]; exact hown') _ _ (by simp)⟩, hb2.setCell (by show w3.heap.size ≤ W5.heap.size; omega) _, by simp at hsz2 ⊢; omega⟩)
      have HKO : Hid (KeepsOthers W (V4.setCell ⟨W5.heap.size, 0, none⟩ v')) := Lib.hid (hko.trans (KeepsOthers.setCell _ _ _))
      rw [← HV'.out] at HKO HFIN
      clear hown' hgrow hbl2 hbt2 hb2 hko hv'
      gi_wp2
      exact ⟨HKO.out, trivial, HFIN.out⟩
  case done =>
    rintro D xs W hD hxs ⟨h1, ⟨v, h2, h3⟩, h4, h5⟩ hK
    obtain ⟨hA1, hA2⟩ := wsF_all (y := yn) (H := H) HRK.out hxs
    have hok2 : TOk (wsF yn H R xs).1 := wsF_ok HRK.out xs
    obtain ⟨R2, hR2⟩ : ∃ R2, (wsF yn H R xs).1 = R2 := ⟨_, rfl⟩
    have hA3 : (wsF yn H R xs).2 = (pickL (wsG (yn : Int) ps s0 h0 H) sn) := by
      rw [hA2]
      refine pickL_congr sn fun s hs => ?_
      rw [show (mvK (R.getD s 0) 0 (yn + 1)).testBit H = _ from wa_bit (HRK.out.lt s) hH]
      unfold wsG
      rw [Int.toNat_natCast, Int.toNat_natCast]
      exact waB_congr fun c hc => HBITS.out s c (by omega) (by omega)
    rw [hR2] at h1 hA1 hok2
    rw [hA3] at h3
    have HOK2 := Lib.hid hok2
    have HLAN : Hid (∀ (f M : Nat), f < sn → 1 ≤ M → (mvK (R2.getD f 0) 1 (M - 1 + 1)).testBit H = wlB (eaP (yn : Int) ps s0 h0 f) yn M H) := Lib.hid (fun f M hf hM => by
      rw [hA1 f hf, wl_bit (HRK.out.lt f) hH hM]
      exact wlB_congr fun c hc => HBITS.out f c (by omega) (by omega))
    have H1 := Lib.hid h1
    have H2 := Lib.hid h2
    have H3 := Lib.hid h3
    have H4 := Lib.hid h4
    have HK := Lib.hid hK
    have hDW : D < W.heap.size := (Array.getElem?_eq_some_iff.1 hK).1
    have hWs : W5.heap.size + 1 ≤ W.heap.size := h5
    have n2 : W.cell? ⟨w.heap.size, 2, none⟩ = some (.slice a len cap) := (HN3.out.below h4).at 2
    clear h1 h2 h3 h4 h5 hK hxs hA1 hA2 hA3 hok2 hR2
    gi_wp2
    gi_loopw [12, 56] (fun g i wr => ∃ k : Nat, k ≤ len ∧ i = .int .i64 k ∧ OwnI W.heap.size wr g (pickL (wlG (yn : Int) ps s0 h0 H) k) ∧ Below W.heap.size W wr) (fun _ i _ => len - (intOf i).toNat)
    case atStart => exact ⟨0, Nat.zero_le _, rfl, World.ownsRow_nil _ _ _ _, Below.refl _ _⟩
    case round =>
      obtain ⟨k, hk, rfl, hown, hnx⟩ := hrel
      obtain ⟨wp, rfl⟩ : ∃ V, V = wr := ⟨wr, rfl⟩
      have HOL := Lib.hid hown
      have HNX := Lib.hid hnx
      have hws : W.heap.size ≤ wp.heap.size := hnx.size
      clear hown hnx
      by_cases hlt2 : k < len
      · have hil : (k : Int) < (len : Int) := by omega
        obtain ⟨bb, rfl, hc⟩ := HA.out (by intro e; have := HLN.out; rw [e] at this; simp at this; omega)
        obtain ⟨q0, q1, q2, q3⟩ := (hc.below (blink HB3.out (blink H4.out HNX.out))) k (by rw [HLN.out]; exact hlt2)
        obtain ⟨f, tt, xx, M, hq4, hf8, hfs, hM1, hM40⟩ := net_natsX HOK.out (k := k) (by rw [HLN.out]; exact hlt2)
        rw [hq4] at q0 q1 q2 q3
        simp only at q0 q1 q2 q3
        have hbbs : bb < wp.heap.size := World.block_lt_of_cell? wp _ q0
        have HGK : Hid ((mvK (R2.getD f 0) 1 (M - 1 + 1)).testBit H = (wlG (yn : Int) ps s0 h0 H) k) := Lib.hid (by
          rw [HLAN.out f M (by omega) hM1]
          unfold wlG
          rw [hq4]
          simp only [Int.toNat_natCast])
        have HYES := Lib.hid (pickL_yes (g := (wlG (yn : Int) ps s0 h0 H)) (k := k))
        have HNO := Lib.hid (pickL_no (g := (wlG (yn : Int) ps s0 h0 H)) (k := k))
        have hpl := pickL_len (wlG (yn : Int) ps s0 h0 H) k
        obtain ⟨ls, hls⟩ : ∃ ls, pickL (wlG (yn : Int) ps s0 h0 H) k = ls := ⟨_, rfl⟩
        rw [hls] at HOL HYES HNO hpl
        obtain ⟨z, hz⟩ : ∃ G, (wlG (yn : Int) ps s0 h0 H) k = G := ⟨_, rfl⟩
        rw [hz] at HGK HYES HNO
        obtain ⟨N, hN⟩ : ∃ N, R2.getD f 0 = N := ⟨_, rfl⟩
        have hNlt : N < 2 ^ room := by rw [← hN]; exact HOK2.out.lt f
        rw [hN] at HGK
        have hM40' : M - 1 ≤ 1000 := by omega
        have HMV : Hid (∀ W, Calls Try.prog 45 #[hv N, .func (.func 46) #[] #[], .int .i16 1, .int .i16 ((M - 1 : Nat) : Int)] W fun e w' => e = .returned (hv (mvK N 1 (M - 1 + 1))) ∧ Below W.heap.size W w') := Lib.hid (fun W => imoved_any N 1 (M - 1) hNlt (by omega) hM40' W)
        obtain ⟨N2, hN2⟩ : ∃ N2, mvK N 1 (M - 1 + 1) = N2 := ⟨_, rfl⟩
        rw [hN2] at HMV HGK
        have HHB : Hid (∀ W, Calls Try.prog 47 #[hv N2, .int .i64 (H : Int)] W fun e w' => e = .returned (.bool z) ∧ Below W.heap.size W w') := Lib.hid (fun W => by rw [← HGK.out]; exact ihbit_any N2 H hH W)
        have HNN := Lib.hid hN
        have hM1i : (1 : Int) ≤ (M : Int) := by omega
        have hM40i : (M : Int) ≤ 40 := by omega
        have hMM : (M : Int) - 1 = ((M - 1 : Nat) : Int) := by omega
        have HMM := Lib.hid hMM
        have hf0 : (0 : Int) ≤ (f : Int) := by omega
        have hf88 : (f : Int) < 8 := by omega
        clear hls hz hN hNlt hN2 hq4 hc hMM HA
        have bl : Below wp.heap.size wp (wp.alloc (.cells #[.int .i8 (f : Int), .int .i8 (tt : Int), .int .i16 (xx : Int), .int .i16 (M : Int)] 67)) := (Below.refl _ _).alloc (Nat.le_refl _) _
        have BLN : BlkA (wp.alloc (.cells #[.int .i8 (f : Int), .int .i8 (tt : Int), .int .i16 (xx : Int), .int .i16 (M : Int)] 67)) wp.heap.size 67 #[.int .i8 (f : Int), .int .i8 (tt : Int), .int .i16 (xx : Int), .int .i16 (M : Int)] := BlkA.new rfl _ _
        gi_wp2
        obtain ⟨wl, hwl⟩ : ∃ W, wp.alloc (.cells #[.int .i8 (f : Int), .int .i8 (tt : Int), .int .i16 (xx : Int), .int .i16 (M : Int)] 67) = W := ⟨_, rfl⟩
        rw [hwl] at bl BLN ⊢
        have HBLN := Lib.hid BLN
        have HOLL := Lib.hid (HOL.out.below bl)
        have HNXL := Lib.hid (blink HNX.out bl)
        have hwlS : wp.heap.size < wl.heap.size := BLN.lt
        clear hwl bl BLN q0 q1 q2 q3
        refine wpIn_region_relL (fun W' => Below wl.heap.size wl W') (fun W W' => Below W.heap.size W W') 10 [fun u _ => u = Value.pointer (some ⟨wp.heap.size, 0, none⟩), fun u _ => u = Value.int .i8 (f : Int), fun u _ => u = Value.pointer (some ⟨Bt, f * 5, none⟩), fun u _ => u = hv N, fun u _ => u = Value.pointer (some ⟨wp.heap.size, 3, none⟩), fun u _ => u = Value.int .i16 (M : Int), fun u _ => u = Value.int .i16 ((M - 1 : Nat) : Int), fun u _ => u = hv N2, fun u _ => u = Value.int .i64 (H : Int), fun u _ => u = Value.bool z] (by kernel_rfl) (by kernel_rfl) (by kernel_rfl) rfl (Below.refl _ _).drew ?_
        simp only [List.take_succ_cons, List.take_zero, List.drop_succ_cons, List.drop_zero]
        refine wpRelI_cons (fun _ _ _ _ _ h => h) (fun V hC hd => relOblI_intro fun K hK => ?_) (fun v61 => ?_)
        · have HK := Lib.hid hK
          have HC := Lib.hid hC
          clear hK hd hC
          go_simp
          exact HK.out _ _ ⟨_, rfl, HC.out, Below.refl _ _, rfl⟩
        simp only [Act.put, List.setIfInBounds_toArray, List.set_cons_zero, List.set_cons_succ]
        refine wpRelI_cons (fun _ _ _ _ _ h => h) (fun V hC hd => relOblI_intro fun K hK => ?_) (fun v62 => ?_)
        · have HK := Lib.hid hK
          have HC := Lib.hid hC
          obtain rfl : v61 = Value.pointer (some ⟨wp.heap.size, 0, none⟩) := hd 0 rfl _ rfl
          have l0 : V.cell? ⟨wp.heap.size, 0, none⟩ = some (.int .i8 (f : Int)) := (HBLN.out.below hC).at 0
          clear hK hd hC
          go_simp
          exact HK.out _ _ ⟨_, rfl, HC.out, Below.refl _ _, rfl⟩
        simp only [Act.put, List.setIfInBounds_toArray, List.set_cons_zero, List.set_cons_succ]
        refine wpRelI_cons (fun _ _ _ _ _ h => h) (fun V hC hd => relOblI_intro fun K hK => ?_) (fun v63 => ?_)
        · have HK := Lib.hid hK
          have HC := Lib.hid hC
          obtain rfl : v62 = Value.int .i8 (f : Int) := hd 1 rfl _ rfl
          clear hK hd hC
          go_simp
          exact HK.out _ _ ⟨_, rfl, HC.out, Below.refl _ _, rfl⟩
        simp only [Act.put, List.setIfInBounds_toArray, List.set_cons_zero, List.set_cons_succ]
        refine wpRelI_cons (fun _ _ _ _ _ h => h) (fun V hC hd => relOblI_intro fun K hK => ?_) (fun v64 => ?_)
        · have HK := Lib.hid hK
          have HC := Lib.hid hC
          obtain rfl : v63 = Value.pointer (some ⟨Bt, f * 5, none⟩) := hd 2 rfl _ rfl
          obtain ⟨c0, c1, c2, c3, c4⟩ := BlkT.cells (BlkA.below H1.out (blink HNXL.out hC)) f (by rw [HOK2.out.len]; exact hf8)
          rw [HNN.out] at c0 c1 c2 c3 c4
          clear hK hd hC
          go_simp
          exact HK.out _ _ ⟨_, rfl, HC.out, Below.refl _ _, rfl⟩
        simp only [Act.put, List.setIfInBounds_toArray, List.set_cons_zero, List.set_cons_succ]
        refine wpRelI_cons (fun _ _ _ _ _ h => h) (fun V hC hd => relOblI_intro fun K hK => ?_) (fun v65 => ?_)
        · have HK := Lib.hid hK
          have HC := Lib.hid hC
          clear hK hd hC
          go_simp
          exact HK.out _ _ ⟨_, rfl, HC.out, Below.refl _ _, rfl⟩
        simp only [Act.put, List.setIfInBounds_toArray, List.set_cons_zero, List.set_cons_succ]
        refine wpRelI_cons (fun _ _ _ _ _ h => h) (fun V hC hd => relOblI_intro fun K hK => ?_) (fun v66 => ?_)
        · have HK := Lib.hid hK
          have HC := Lib.hid hC
          obtain rfl : v65 = Value.pointer (some ⟨wp.heap.size, 3, none⟩) := hd 4 rfl _ rfl
          have l3 : V.cell? ⟨wp.heap.size, 3, none⟩ = some (.int .i16 (M : Int)) := (HBLN.out.below hC).at 3
          clear hK hd hC
          go_simp
          exact HK.out _ _ ⟨_, rfl, HC.out, Below.refl _ _, rfl⟩
        simp only [Act.put, List.setIfInBounds_toArray, List.set_cons_zero, List.set_cons_succ]
        refine wpRelI_cons (fun _ _ _ _ _ h => h) (fun V hC hd => relOblI_intro fun K hK => ?_) (fun v67 => ?_)
        · have HK := Lib.hid hK
          have HC := Lib.hid hC
          obtain rfl : v66 = Value.int .i16 (M : Int) := hd 5 rfl _ rfl
          clear hK hd hC
          go_simp
          exact HK.out _ _ ⟨_, rfl, HC.out, Below.refl _ _, by first | rfl | (rw [HMM.out]; done) | (congr 1; rw [IntWalk.i16_in _ (by omega)]; exact HMM.out) | (congr 1; exact HMM.out)⟩
        simp only [Act.put, List.setIfInBounds_toArray, List.set_cons_zero, List.set_cons_succ]
        refine wpRelI_cons (fun _ _ _ _ _ h => h) (fun V hC hd => relOblI_intro fun K hK => ?_) (fun v68 => ?_)
        · have HK := Lib.hid hK
          have HC := Lib.hid hC
          obtain rfl : v64 = hv N := hd 3 rfl _ rfl
          obtain rfl : v67 = Value.int .i16 ((M - 1 : Nat) : Int) := hd 6 rfl _ rfl
          clear hK hd hC
          go_simp
          refine ((callsIn_wide (n := _)).2 (HMV.out V)).mono ?_
          rintro e V5 ⟨rfl, b5⟩
          exact HK.out _ _ ⟨_, rfl, blink HC.out b5, b5, rfl⟩
        simp only [Act.put, List.setIfInBounds_toArray, List.set_cons_zero, List.set_cons_succ]
        refine wpRelI_cons (fun _ _ _ _ _ h => h) (fun V hC hd => relOblI_intro fun K hK => ?_) (fun v69 => ?_)
        · have HK := Lib.hid hK
          have HC := Lib.hid hC
          have m0 : V.cell? ⟨w.heap.size + 1 + 1, 0, none⟩ = some (.int .i64 (H : Int)) := (HH3.out.below (blink H4.out (blink HNXL.out hC))).at 0
          clear hK hd hC
          go_simp
          exact HK.out _ _ ⟨_, rfl, HC.out, Below.refl _ _, rfl⟩
        simp only [Act.put, List.setIfInBounds_toArray, List.set_cons_zero, List.set_cons_succ]
        refine wpRelI_cons (fun _ _ _ _ _ h => h) (fun V hC hd => relOblI_intro fun K hK => ?_) (fun v70 => ?_)
        · have HK := Lib.hid hK
          have HC := Lib.hid hC
          obtain rfl : v68 = hv N2 := hd 7 rfl _ rfl
          obtain rfl : v69 = Value.int .i64 (H : Int) := hd 8 rfl _ rfl
          clear hK hd hC
          go_simp
          refine ((callsIn_wide (n := _)).2 (HHB.out V)).mono ?_
          rintro e V5 ⟨rfl, b5⟩
          exact HK.out _ _ ⟨_, rfl, blink HC.out b5, b5, rfl⟩
        simp only [Act.put, List.setIfInBounds_toArray, List.set_cons_zero, List.set_cons_succ]
        refine wpRelI_nil fun V3 hC hd => ?_
        obtain rfl : v70 = Value.bool z := hd 9 _ rfl
        have HO6 := Lib.hid (HOLL.out.below hC)
        have HB6 := Lib.hid (blink HNXL.out hC)
        have hV3s : wl.heap.size ≤ V3.heap.size := hC.size
        clear hd hC
        cases z
        · have HL := Lib.hid (HNO.out rfl)
          have HO' : Hid (OwnI W.heap.size V3 _ (pickL (wlG (yn : Int) ps s0 h0 H) (k + 1))) := Lib.hid (by rw [HL.out]; exact HO6.out)
          gi_wp2
          go_roundw
          case rel => exact ⟨k + 1, by omega, by go_num, HO'.out, HB6.out⟩
          case measure => simp [intOf]; omega
        · have HL := Lib.hid (HYES.out rfl)
          have hown : V3.ownsRow W.heap.size 2 1 _ _ _ := HO6.out
          gi_wp2_with (gi_at_builtin; refine wpListIn_append_own _ rfl _ _ 30 rfl W.heap.size 2 i0 (.int .i64 0) 1 8 Try.underlying30 hi hz0 hz1 hz2 rfl (by decide) _ _ _ rfl (hown.alloc _) ⟨V3.heap.size, 0, none⟩ 1 1 [.int .i64 (k : Int)] rfl rfl (cell_one_new _ _ _) (ints_oneCell .i64 [(k : Int)]) ?c3 ?c4 ?c5 ?_)
          case c3 => unfold maxLen; omega
          case c4 => omega
          case c5 => first | omega | (simp; omega)
          intro v' V4 hown' hgrow _
          have HO' : Hid (OwnI W.heap.size V4 v' (pickL (wlG (yn : Int) ps s0 h0 H) (k + 1))) := Lib.hid (by
            unfold OwnI
            rw [HL.out, List.map_append, List.length_append]; exact hown')
          have HB' : Hid (Below W.heap.size W V4) := Lib.hid ((HB6.out.alloc (by omega) _).grown hgrow (by simp; omega) (fun j hj => (hown.lt j hj).1))
          clear hown' hgrow hown
          gi_wp2
          go_roundw
          case rel => exact ⟨k + 1, by omega, by go_num, HO'.out, HB'.out⟩
          case measure => simp [intOf]; omega
      · have hk' : k = len := by omega
        have hil : ¬ (k : Int) < (len : Int) := by omega
        have HOF : Hid (OwnI W.heap.size wp u12 (pickL (wlG (yn : Int) ps s0 h0 H) len)) := Lib.hid (by rw [← hk']; exact HOL.out)
        obtain ⟨g, hg⟩ : ∃ g, u12 = g := ⟨_, rfl⟩
        rw [hg] at HOF ⊢
        have c0 : wp.cell? ⟨W5.heap.size, 0, none⟩ = some v := (H2.out.below HNX.out).at 0
        have hKp : wp.heap[D]? = some (.deferred (some [])) := (HNX.out.block D hDW).trans HK.out
        have HKP := Lib.hid hKp
        have HO1 := Lib.hid (row_kept (ownRow_below H3.out HNX.out) (grownBy_putObj' wp D (.deferred none)) (fun r e => by cases e; exact ⟨_, hKp, rfl⟩))
        have HO2 := Lib.hid (row_kept (show wp.ownsRow W.heap.size 2 1 g _ _ from HOF.out) (grownBy_putObj' wp D (.deferred none)) (fun r e => by cases e; exact ⟨_, hKp, rfl⟩))
        have HD : Hid (v.ownBlock = none ∨ v.ownBlock ≠ g.ownBlock) := Lib.hid (by
          by_cases e : v.ownBlock = none
          · exact .inl e
          · refine .inr fun h => ?_
            obtain ⟨j, hj⟩ := Option.ne_none_iff_exists'.1 e
            have e1 := (H3.out.lt j hj).2
            have e2 := (HOF.out.lt j (h ▸ hj)).1
            omega)
        have HBF := Lib.hid ((blink HB3.out (blink H4.out HNX.out)).trans (belowK_b (w := w) (Nat.le_refl _) wp D _ (.deferred none) (by have := HB3.out.size; have := HB7.out.size; omega) hKp rfl rfl))
        have hw3w : w.heap.size ≤ w3.heap.size := HB3.out.size
        clear hk' hKp hg HOL
        gi_wp2
        refine ⟨by simp, .inl ⟨_, _, rfl, run_takeDeferred HKP.out, ?_⟩⟩
        refine ⟨.tuple #[v, g, .int .i64 0], by simp [results, Try.results12, go_sem], v, g, rfl, ?_, ?_, HD.out, HBF.out⟩
        · exact (show OwnI (W5.heap.size + 1) _ v _ from HO1.out).mono (by omega)
        · exact (show OwnI W.heap.size _ g _ from HO2.out).mono (by omega)
end Go.Proofs.Ytlempmahkeilpaa
/-
  The program's WhereAt, whatever the code.
-/
namespace Go.Proofs.Ytlempmahkeilpaa
open Go Go.RowKit
set_option linter.unusedVariables false

set_option maxHeartbeats 2000000 in
set_option maxRecDepth 100000 in
theorem iwa_any (st sy : Int) (v : Value) (ps : List Lan) (x0 x1 hr : Int) (w : World) (hn : FitN st sy ps) (hx : FitSc (x0, x1)) (hv : ReadsLa w v ps) :
    Calls Try.prog 12 #[netV st sy v, .agg #[.int .i8 x0, .int .i16 x1], .int .i64 hr] w (RetL2 w.heap.size w (wsR st sy ps x0 x1 hr) (wlR st sy ps x0 x1 hr) (waC st sy ps x0 x1 hr)) := by
  by_cases hz : waC st sy ps x0 x1 hr = 0
  · obtain ⟨hok, hsc, hr0, hr3⟩ := waC_ok hz
    obtain ⟨a, cap, rfl, ha⟩ := hv
    obtain ⟨sn, yn, rfl, rfl⟩ := net_nat hok
    obtain ⟨s0, h0, rfl, rfl, hs0, hh0⟩ := scan_nats hok.1.2 hsc
    obtain ⟨H, rfl⟩ : ∃ H : Nat, hr = (H : Int) := ⟨hr.toNat, by omega⟩
    refine (callsIn_wide.1 (iwa_in sn yn a ps.length cap ps s0 h0 H w hok hn hz hs0 hh0 (by omega) hx ⟨a, cap, rfl, ha⟩ ha rfl)).mono ?_
    rintro e w2 ⟨v1, u1, rfl, o1, o2, d, b⟩
    refine ⟨v1, u1, ret_trip hz.symm, ?_, ?_, d, b⟩
    · unfold wsR
      rw [if_pos hz, Int.toNat_natCast]
      exact o1
    · unfold wlR
      rw [if_pos hz]
      exact o2
  · have HV := Lib.hid hv
    have HN := Lib.hid hn
    have HX := Lib.hid hx
    obtain ⟨a, cap, rfl, ha⟩ := hv
    obtain ⟨len, hlen⟩ : ∃ m, ps.length = m := ⟨_, rfl⟩
    rw [hlen] at HV ⊢
    clear ha hlen hn hx
    have hb1 : Below w.heap.size w (((w.alloc (.cells #[.int .i8 st, .int .i16 sy, .slice a len cap] 35)).alloc (.cells #[.int .i8 x0, .int .i16 x1] 37)).alloc (.cells #[.int .i64 hr] 2)) := (((Below.refl _ _).alloc (Nat.le_refl _) _).alloc (by simp) _).alloc (by simp; omega) _
    obtain ⟨W1, hW⟩ : ∃ W, (((w.alloc (.cells #[.int .i8 st, .int .i16 sy, .slice a len cap] 35)).alloc (.cells #[.int .i8 x0, .int .i16 x1] 37)).alloc (.cells #[.int .i64 hr] 2)) = W := ⟨_, rfl⟩
    rw [hW] at hb1
    have hs1 : W1.heap.size = w.heap.size + 1 + 1 + 1 := by rw [← hW]; simp
    have b2 : Below W1.heap.size W1 ((W1.alloc (.cells #[.int .i8 x0, .int .i16 x1] 37)).alloc (.cells #[.int .i64 hr] 2)) := ((Below.refl _ _).alloc (Nat.le_refl _) _).alloc (by simp) _
    have BL : BlkA ((W1.alloc (.cells #[.int .i8 x0, .int .i16 x1] 37)).alloc (.cells #[.int .i64 hr] 2)) W1.heap.size 37 #[.int .i8 x0, .int .i16 x1] := (BlkA.new rfl _ _).alloc _
    have BM : BlkA ((W1.alloc (.cells #[.int .i8 x0, .int .i16 x1] 37)).alloc (.cells #[.int .i64 hr] 2)) (W1.heap.size + 1) 2 #[.int .i64 hr] := BlkA.new (by simp) _ _
    obtain ⟨W2, hW2⟩ : ∃ W, (W1.alloc (.cells #[.int .i8 x0, .int .i16 x1] 37)).alloc (.cells #[.int .i64 hr] 2) = W := ⟨_, rfl⟩
    rw [hW2] at b2 BL BM
    rw [hs1] at BL BM
    have HB2 := Lib.hid (blink hb1 b2)
    have HL2 := Lib.hid BL
    have HM2 := Lib.hid BM
    have HV2 := Lib.hid (HV.out.below (blink hb1 b2))
    rw [← hW] at hW2
    have HW2 := Lib.hid hW2
    clear hW hW2 hb1 b2 BL BM hs1
    obtain ⟨c, hc⟩ : ∃ c, waC st sy ps x0 x1 hr = c := ⟨_, rfl⟩
    have HCD := Lib.hid hc
    rw [hc] at hz
    have HR1 : Hid (wsR st sy ps x0 x1 hr = []) := Lib.hid (if_neg (by rw [HCD.out]; exact hz))
    have HR2 : Hid (wlR st sy ps x0 x1 hr = []) := Lib.hid (if_neg (by rw [HCD.out]; exact hz))
    have t0 : (c == 0) = false := by simp [hz]
    have t1 : (c != 0) = true := by simp [hz]
    clear hc hz
    go_enter Try.func12, Try.ntmps12
    go_wp2_with fail
    rw [HW2.out]
    refine (ichk_any st sy (.slice a len cap) ps _ _ _ [(x0, x1)] [] [hr] W2 HN.out HV2.out (reads_sc1 (HL2.out.at 0) (HL2.out.at 1)) (fun p hp => by simp at hp; subst hp; exact HX.out) (reads_nil _) (reads_one (HM2.out.at 0)) (by simp) (by simp) (by simp)).mono ?_
    rintro e w3 ⟨rfl, b3⟩
    have HB3 := Lib.hid (blink HB2.out b3)
    rw [wa_chk, HCD.out]
    clear b3
    go_wp2_with fail
    go_ret3
    exact ⟨_, _, ret_trip HCD.out.symm, by rw [HR1.out]; exact World.ownsRow_nil _ _ _ _, by rw [HR2.out]; exact World.ownsRow_nil _ _ _ _, .inl rfl, HB3.out⟩
end Go.Proofs.Ytlempmahkeilpaa
/-
  The walk of FnExactWhereAt: program and model answer the same at every argument; neither writes into its arguments, and what is answered lies in new memory.
-/
namespace Go.Proofs.Ytlempmahkeilpaa.fnExactWhereAt
open Go Go.RowKit
set_option linter.unusedVariables false

set_option maxHeartbeats 16000000 in
set_option maxRecDepth 100000 in
theorem walk (st0 sy0 : Int) (a0 : Option Addr) (len0 cap0 : Nat) (ps0 : List Lan) (x10 x11 : Int) (a2 : Int) (w : World) (hh0 : (IsRowLa w a0 len0 cap0 ps0 ∧ FitsLa ps0) ∧ (-128 ≤ st0 ∧ st0 ≤ 127) ∧ (-32768 ≤ sy0 ∧ sy0 ≤ 32767)) (hv1 : FitSc (x10, x11)) (hw2 : (Lit.int .i64 a2).wf = true) :
    Calls Try.prog 3 #[.agg #[.int .i8 st0, .int .i16 sy0, .slice a0 len0 cap0], .agg #[.int .i8 x10, .int .i16 x11], .int .i64 a2] w fun e w' => e = .returned (.bool true) ∧ Below w.heap.size w w' := by
  obtain ⟨⟨hr0, hf0⟩, hst0, hsy0⟩ := hh0
  have HFQ0 := Lib.hid hf0
  have HST0 := Lib.hid hst0
  have HSY0 := Lib.hid hsy0
  have HN0 := Lib.hid hr0.len_ok
  clear hf0 hst0 hsy0
  have HV1 := Lib.hid hv1
  clear hv1
  by_cases hm0 : 0 ≤ 1048576 - (len0 : Int)
  rotate_left
  · have t0 : decide (1048576 - (len0 : Int) < 0) = true := decide_eq_true (by omega)
    go_enter Try.func3, Try.ntmps3
    go_wp2_with fail
    have b1 : Below w.heap.size w ((w.alloc (.cells #[.int .i8 st0, .int .i16 sy0, .slice a0 len0 cap0] 26)).alloc (.cells #[.int .i8 x10, .int .i16 x11] 28)) := (((Below.refl _ _).alloc (Nat.le_refl _) _).alloc (by simp) _)
    have BX0 : BlkA ((w.alloc (.cells #[.int .i8 st0, .int .i16 sy0, .slice a0 len0 cap0] 26)).alloc (.cells #[.int .i8 x10, .int .i16 x11] 28)) (w.heap.size) 26 #[.int .i8 st0, .int .i16 sy0, .slice a0 len0 cap0] := ((BlkA.new rfl _ _).alloc _)
    have BX1 : BlkA ((w.alloc (.cells #[.int .i8 st0, .int .i16 sy0, .slice a0 len0 cap0] 26)).alloc (.cells #[.int .i8 x10, .int .i16 x11] 28)) (w.heap.size + 1) 28 #[.int .i8 x10, .int .i16 x11] := (BlkA.new (by simp) _ _)
    generalize ((w.alloc (.cells #[.int .i8 st0, .int .i16 sy0, .slice a0 len0 cap0] 26)).alloc (.cells #[.int .i8 x10, .int .i16 x11] 28)) = w1 at b1 BX0 BX1 ⊢
    have c1 := b1
    have hs1 : w.heap.size ≤ w1.heap.size := b1.size
    have hb0 : w.heap.size < w1.heap.size := BX0.lt
    have hb1 : w.heap.size + 1 < w1.heap.size := BX1.lt
    have va0_0_1 : w1.cell? ⟨w.heap.size, 0, none⟩ = some (.int .i8 st0) := (BX0).at 0
    have va0_1_1 : w1.cell? ⟨w.heap.size, 1, none⟩ = some (.int .i16 sy0) := (BX0).at 1
    have va0_2_1 : w1.cell? ⟨w.heap.size, 2, none⟩ = some (.slice a0 len0 cap0) := (BX0).at 2
    have la0_1 : w.heap.size < w1.heap.size := (BX0).lt
    go_wp2_with fail
    refine (szNet_big st0 sy0 a0 len0 cap0 1048576 (by omega) (by omega) (by omega) HN0.out _).mono ?_
    rintro e w2 ⟨rfl, b2⟩
    have c2 : Below w.heap.size w w2 := blink c1 b2
    have hs2 : w1.heap.size ≤ w2.heap.size := b2.size
    go_wp2_with fail
    go_ret
    exact ⟨rfl, c2⟩
  have t0 : decide (1048576 - (len0 : Int) < 0) = false := decide_eq_false (by omega)
  have hlq0 : ps0.length = len0 := hr0.len_eq
  have HX0 : Hid (ps0.length ≤ 1048576) := Lib.hid (by omega)
  have HL0 : Hid (len0 ≤ 1048576) := Lib.hid (by omega)
  have hxb0 : ps0.length ≤ 1048576 := HX0.out
  clear hlq0
  have HF0 : Hid (FitN st0 sy0 ps0) := Lib.hid ⟨HST0.out, HSY0.out, HFQ0.out, HX0.out⟩
  have hlb0 := wsR_len st0 sy0 ps0 x10 x11 a2
  have HLB0 : Hid ((wsR st0 sy0 ps0 x10 x11 a2).length ≤ 1048576) := Lib.hid (by omega)
  have hlb1 := wlR_len st0 sy0 ps0 x10 x11 a2
  have HLB1 : Hid ((wlR st0 sy0 ps0 x10 x11 a2).length ≤ 1048576) := Lib.hid (by omega)
  go_enter Try.func3, Try.ntmps3
  go_wp2_with fail
  have b1 : Below w.heap.size w ((w.alloc (.cells #[.int .i8 st0, .int .i16 sy0, .slice a0 len0 cap0] 26)).alloc (.cells #[.int .i8 x10, .int .i16 x11] 28)) := (((Below.refl _ _).alloc (Nat.le_refl _) _).alloc (by simp) _)
  have BX0 : BlkA ((w.alloc (.cells #[.int .i8 st0, .int .i16 sy0, .slice a0 len0 cap0] 26)).alloc (.cells #[.int .i8 x10, .int .i16 x11] 28)) (w.heap.size) 26 #[.int .i8 st0, .int .i16 sy0, .slice a0 len0 cap0] := ((BlkA.new rfl _ _).alloc _)
  have BX1 : BlkA ((w.alloc (.cells #[.int .i8 st0, .int .i16 sy0, .slice a0 len0 cap0] 26)).alloc (.cells #[.int .i8 x10, .int .i16 x11] 28)) (w.heap.size + 1) 28 #[.int .i8 x10, .int .i16 x11] := (BlkA.new (by simp) _ _)
  generalize ((w.alloc (.cells #[.int .i8 st0, .int .i16 sy0, .slice a0 len0 cap0] 26)).alloc (.cells #[.int .i8 x10, .int .i16 x11] 28)) = w1 at b1 BX0 BX1 ⊢
  have c1 := b1
  have hs1 : w.heap.size ≤ w1.heap.size := b1.size
  have hb0 : w.heap.size < w1.heap.size := BX0.lt
  have hb1 : w.heap.size + 1 < w1.heap.size := BX1.lt
  have va0_0_1 : w1.cell? ⟨w.heap.size, 0, none⟩ = some (.int .i8 st0) := (BX0).at 0
  have va0_1_1 : w1.cell? ⟨w.heap.size, 1, none⟩ = some (.int .i16 sy0) := (BX0).at 1
  have va0_2_1 : w1.cell? ⟨w.heap.size, 2, none⟩ = some (.slice a0 len0 cap0) := (BX0).at 2
  have la0_1 : w.heap.size < w1.heap.size := (BX0).lt
  go_wp2_with fail
  refine (szNet_fit st0 sy0 a0 len0 cap0 1048576 (by omega) (by omega) _).mono ?_
  rintro e w2 ⟨rfl, b2⟩
  have c2 : Below w.heap.size w w2 := blink c1 b2
  have hs2 : w1.heap.size ≤ w2.heap.size := b2.size
  have CD2 : Below w.heap.size w w2.drew := Below.drew c2
  have BD2 : Below w2.heap.size w2 w2.drew := (Below.refl _ _).drew
  have SD2 : w2.drew.cell? ⟨w.heap.size, 0, none⟩ = some (.int .i8 st0) ∧ w2.drew.cell? ⟨w.heap.size, 1, none⟩ = some (.int .i16 sy0) ∧ w2.drew.cell? ⟨w.heap.size, 2, none⟩ = some (.slice a0 len0 cap0) ∧ w2.drew.cell? ⟨w.heap.size + 1, 0, none⟩ = some (.int .i8 x10) ∧ w2.drew.cell? ⟨w.heap.size + 1, 1, none⟩ = some (.int .i16 x11) := ⟨cbl BD2 (((BX0).below b2).at 0), cbl BD2 (((BX0).below b2).at 1), cbl BD2 (((BX0).below b2).at 2), cbl BD2 (((BX1).below b2).at 0), cbl BD2 (((BX1).below b2).at 1)⟩
  go_wp2_with fail
  go_region_held3 (fun v => v.cell? ⟨w.heap.size, 0, none⟩ = some (.int .i8 st0) ∧ v.cell? ⟨w.heap.size, 1, none⟩ = some (.int .i16 sy0) ∧ v.cell? ⟨w.heap.size, 2, none⟩ = some (.slice a0 len0 cap0) ∧ v.cell? ⟨w.heap.size + 1, 0, none⟩ = some (.int .i8 x10) ∧ v.cell? ⟨w.heap.size + 1, 1, none⟩ = some (.int .i16 x11)) (first | exact zS5 | exact zS4 | exact zS3 | exact SD2) (first | (go_at_call 10; (with_reducible refine (toNet_any st0 sy0 a0 len0 cap0 ps0 _ (hr0.below CD2) HL0.out).mono ?_); rintro e w3 ⟨g3, rfl, o3, d3⟩; have b3 : Below w2.heap.size w2 w3 := BD2.trans (d3.mono (Nat.le_refl _)); have zS3 : w3.cell? ⟨w.heap.size, 0, none⟩ = some (.int .i8 st0) ∧ w3.cell? ⟨w.heap.size, 1, none⟩ = some (.int .i16 sy0) ∧ w3.cell? ⟨w.heap.size, 2, none⟩ = some (.slice a0 len0 cap0) ∧ w3.cell? ⟨w.heap.size + 1, 0, none⟩ = some (.int .i8 x10) ∧ w3.cell? ⟨w.heap.size + 1, 1, none⟩ = some (.int .i16 x11) := ⟨cbl d3 SD2.1, cbl d3 SD2.2.1, cbl d3 SD2.2.2.1, cbl d3 SD2.2.2.2.1, cbl d3 SD2.2.2.2.2⟩) | (go_at_call 11; (with_reducible refine (toScan_one x10 x11 _).mono ?_); rintro e w4 ⟨rfl, b4⟩; have zS4 : w4.cell? ⟨w.heap.size, 0, none⟩ = some (.int .i8 st0) ∧ w4.cell? ⟨w.heap.size, 1, none⟩ = some (.int .i16 sy0) ∧ w4.cell? ⟨w.heap.size, 2, none⟩ = some (.slice a0 len0 cap0) ∧ w4.cell? ⟨w.heap.size + 1, 0, none⟩ = some (.int .i8 x10) ∧ w4.cell? ⟨w.heap.size + 1, 1, none⟩ = some (.int .i16 x11) := ⟨cbl b4 zS3.1, cbl b4 zS3.2.1, cbl b4 zS3.2.2.1, cbl b4 zS3.2.2.2.1, cbl b4 zS3.2.2.2.2⟩) | (go_at_call 9; (with_reducible refine (swa_any _ _ _ ps0 _ _ a2 _ HF0.out HV1.out (o3.below b4).reads).mono ?_); rintro e w5 ⟨sv0, sv1, rfl, so0, so1, b5⟩; have zS5 : w5.cell? ⟨w.heap.size, 0, none⟩ = some (.int .i8 st0) ∧ w5.cell? ⟨w.heap.size, 1, none⟩ = some (.int .i16 sy0) ∧ w5.cell? ⟨w.heap.size, 2, none⟩ = some (.slice a0 len0 cap0) ∧ w5.cell? ⟨w.heap.size + 1, 0, none⟩ = some (.int .i8 x10) ∧ w5.cell? ⟨w.heap.size + 1, 1, none⟩ = some (.int .i16 x11) := ⟨cbl b5 zS4.1, cbl b5 zS4.2.1, cbl b5 zS4.2.2.1, cbl b5 zS4.2.2.2.1, cbl b5 zS4.2.2.2.2⟩))
  have c3 : Below w.heap.size w w3 := blink c2 b3
  have hs3 : w2.heap.size ≤ w3.heap.size := b3.size
  have c4 : Below w.heap.size w w4 := blink c3 b4
  have hs4 : w3.heap.size ≤ w4.heap.size := b4.size
  have c5 : Below w.heap.size w w5 := blink c4 b5
  have hs5 : w4.heap.size ≤ w5.heap.size := b5.size
  clear zS3 zS4 zS5 SD2 CD2 BD2
  have lso0 : Hid (∀ k, Value.ownBlock sv0 = some k → w4.heap.size ≤ k ∧ k < w5.heap.size) := Lib.hid so0.block
  have lso1 : Hid (∀ k, Value.ownBlock sv1 = some k → w4.heap.size ≤ k ∧ k < w5.heap.size) := Lib.hid so1.block
  have va0_0_5 : w5.cell? ⟨w.heap.size, 0, none⟩ = some (.int .i8 st0) := (((((BX0).below b2).below b3).below b4).below b5).at 0
  have va0_1_5 : w5.cell? ⟨w.heap.size, 1, none⟩ = some (.int .i16 sy0) := (((((BX0).below b2).below b3).below b4).below b5).at 1
  have va0_2_5 : w5.cell? ⟨w.heap.size, 2, none⟩ = some (.slice a0 len0 cap0) := (((((BX0).below b2).below b3).below b4).below b5).at 2
  have la0_5 : w.heap.size < w5.heap.size := (((((BX0).below b2).below b3).below b4).below b5).lt
  go_wp2_with fail
  refine (toNet_any st0 sy0 a0 len0 cap0 ps0 _ (hr0.below c5) HL0.out).mono ?_
  rintro e w6 ⟨g6, rfl, o6, b6⟩
  have c6 : Below w.heap.size w w6 := blink c5 b6
  have hs6 : w5.heap.size ≤ w6.heap.size := b6.size
  have lo6 : Hid (∀ k, Value.ownBlock (.slice (some ⟨g6, 0, none⟩) len0 len0) = some k → w5.heap.size ≤ k ∧ k < w6.heap.size) := Lib.hid o6.block
  have va0_0_6 : w6.cell? ⟨w.heap.size, 0, none⟩ = some (.int .i8 st0) := ((((((BX0).below b2).below b3).below b4).below b5).below b6).at 0
  have va0_1_6 : w6.cell? ⟨w.heap.size, 1, none⟩ = some (.int .i16 sy0) := ((((((BX0).below b2).below b3).below b4).below b5).below b6).at 1
  have va0_2_6 : w6.cell? ⟨w.heap.size, 2, none⟩ = some (.slice a0 len0 cap0) := ((((((BX0).below b2).below b3).below b4).below b5).below b6).at 2
  have la0_6 : w.heap.size < w6.heap.size := ((((((BX0).below b2).below b3).below b4).below b5).below b6).lt
  have va1_0_6 : w6.cell? ⟨w.heap.size + 1, 0, none⟩ = some (.int .i8 x10) := ((((((BX1).below b2).below b3).below b4).below b5).below b6).at 0
  have va1_1_6 : w6.cell? ⟨w.heap.size + 1, 1, none⟩ = some (.int .i16 x11) := ((((((BX1).below b2).below b3).below b4).below b5).below b6).at 1
  have la1_6 : w.heap.size + 1 < w6.heap.size := ((((((BX1).below b2).below b3).below b4).below b5).below b6).lt
  go_wp2_with fail
  have b7 : Below w6.heap.size w6 (w6.alloc (.cells #[.int .i8 st0, .int .i16 sy0, .slice (some ⟨g6, 0, none⟩) len0 len0] 35)) := (Below.refl _ _).alloc (Nat.le_refl _) _
  have BY0 : BlkA (w6.alloc (.cells #[.int .i8 st0, .int .i16 sy0, .slice (some ⟨g6, 0, none⟩) len0 len0] 35)) w6.heap.size 35 #[.int .i8 st0, .int .i16 sy0, .slice (some ⟨g6, 0, none⟩) len0 len0] := BlkA.new rfl _ _
  generalize (w6.alloc (.cells #[.int .i8 st0, .int .i16 sy0, .slice (some ⟨g6, 0, none⟩) len0 len0] 35)) = w7 at b7 BY0 ⊢
  have c7 : Below w.heap.size w w7 := blink c6 b7
  have hs7 : w6.heap.size ≤ w7.heap.size := b7.size
  have hx0 : w6.heap.size < w7.heap.size := BY0.lt
  have CD7 : Below w.heap.size w w7.drew := Below.drew c7
  have BD7 : Below w7.heap.size w7 w7.drew := (Below.refl _ _).drew
  have SD7 : w7.drew.cell? ⟨w.heap.size, 0, none⟩ = some (.int .i8 st0) ∧ w7.drew.cell? ⟨w.heap.size, 1, none⟩ = some (.int .i16 sy0) ∧ w7.drew.cell? ⟨w.heap.size, 2, none⟩ = some (.slice a0 len0 cap0) ∧ w7.drew.cell? ⟨w.heap.size + 1, 0, none⟩ = some (.int .i8 x10) ∧ w7.drew.cell? ⟨w.heap.size + 1, 1, none⟩ = some (.int .i16 x11) ∧ w7.drew.cell? ⟨w6.heap.size, 0, none⟩ = some (.int .i8 st0) ∧ w7.drew.cell? ⟨w6.heap.size, 1, none⟩ = some (.int .i16 sy0) ∧ w7.drew.cell? ⟨w6.heap.size, 2, none⟩ = some (.slice (some ⟨g6, 0, none⟩) len0 len0) := ⟨cbl BD7 ((((((((BX0).below b2).below b3).below b4).below b5).below b6).below b7).at 0), cbl BD7 ((((((((BX0).below b2).below b3).below b4).below b5).below b6).below b7).at 1), cbl BD7 ((((((((BX0).below b2).below b3).below b4).below b5).below b6).below b7).at 2), cbl BD7 ((((((((BX1).below b2).below b3).below b4).below b5).below b6).below b7).at 0), cbl BD7 ((((((((BX1).below b2).below b3).below b4).below b5).below b6).below b7).at 1), cbl BD7 ((BY0).at 0), cbl BD7 ((BY0).at 1), cbl BD7 ((BY0).at 2)⟩
  go_wp2_with fail
  go_region_held3 (fun v => v.cell? ⟨w.heap.size, 0, none⟩ = some (.int .i8 st0) ∧ v.cell? ⟨w.heap.size, 1, none⟩ = some (.int .i16 sy0) ∧ v.cell? ⟨w.heap.size, 2, none⟩ = some (.slice a0 len0 cap0) ∧ v.cell? ⟨w.heap.size + 1, 0, none⟩ = some (.int .i8 x10) ∧ v.cell? ⟨w.heap.size + 1, 1, none⟩ = some (.int .i16 x11) ∧ v.cell? ⟨w6.heap.size, 0, none⟩ = some (.int .i8 st0) ∧ v.cell? ⟨w6.heap.size, 1, none⟩ = some (.int .i16 sy0) ∧ v.cell? ⟨w6.heap.size, 2, none⟩ = some (.slice (some ⟨g6, 0, none⟩) len0 len0)) (first | exact zS9 | exact zS8 | exact SD7) (first | (go_at_call 11; (with_reducible refine (toScan_one x10 x11 _).mono ?_); rintro e w8 ⟨rfl, d8⟩; have b8 : Below w7.heap.size w7 w8 := BD7.trans (d8.mono (Nat.le_refl _)); have zS8 : w8.cell? ⟨w.heap.size, 0, none⟩ = some (.int .i8 st0) ∧ w8.cell? ⟨w.heap.size, 1, none⟩ = some (.int .i16 sy0) ∧ w8.cell? ⟨w.heap.size, 2, none⟩ = some (.slice a0 len0 cap0) ∧ w8.cell? ⟨w.heap.size + 1, 0, none⟩ = some (.int .i8 x10) ∧ w8.cell? ⟨w.heap.size + 1, 1, none⟩ = some (.int .i16 x11) ∧ w8.cell? ⟨w6.heap.size, 0, none⟩ = some (.int .i8 st0) ∧ w8.cell? ⟨w6.heap.size, 1, none⟩ = some (.int .i16 sy0) ∧ w8.cell? ⟨w6.heap.size, 2, none⟩ = some (.slice (some ⟨g6, 0, none⟩) len0 len0) := ⟨cbl d8 SD7.1, cbl d8 SD7.2.1, cbl d8 SD7.2.2.1, cbl d8 SD7.2.2.2.1, cbl d8 SD7.2.2.2.2.1, cbl d8 SD7.2.2.2.2.2.1, cbl d8 SD7.2.2.2.2.2.2.1, cbl d8 SD7.2.2.2.2.2.2.2⟩) | (go_at_call 12; (with_reducible refine (iwa_any _ _ _ ps0 _ _ a2 _ HF0.out HV1.out ((((o6).below b7).below BD7).below d8).reads).mono ?_); rintro e w9 ⟨gv0, gv1, rfl, go0, go1, gd, b9⟩; have zS9 : w9.cell? ⟨w.heap.size, 0, none⟩ = some (.int .i8 st0) ∧ w9.cell? ⟨w.heap.size, 1, none⟩ = some (.int .i16 sy0) ∧ w9.cell? ⟨w.heap.size, 2, none⟩ = some (.slice a0 len0 cap0) ∧ w9.cell? ⟨w.heap.size + 1, 0, none⟩ = some (.int .i8 x10) ∧ w9.cell? ⟨w.heap.size + 1, 1, none⟩ = some (.int .i16 x11) ∧ w9.cell? ⟨w6.heap.size, 0, none⟩ = some (.int .i8 st0) ∧ w9.cell? ⟨w6.heap.size, 1, none⟩ = some (.int .i16 sy0) ∧ w9.cell? ⟨w6.heap.size, 2, none⟩ = some (.slice (some ⟨g6, 0, none⟩) len0 len0) := ⟨cbl b9 zS8.1, cbl b9 zS8.2.1, cbl b9 zS8.2.2.1, cbl b9 zS8.2.2.2.1, cbl b9 zS8.2.2.2.2.1, cbl b9 zS8.2.2.2.2.2.1, cbl b9 zS8.2.2.2.2.2.2.1, cbl b9 zS8.2.2.2.2.2.2.2⟩))
  have c8 : Below w.heap.size w w8 := blink c7 b8
  have hs8 : w7.heap.size ≤ w8.heap.size := b8.size
  have c9 : Below w.heap.size w w9 := blink c8 b9
  have hs9 : w8.heap.size ≤ w9.heap.size := b9.size
  clear zS8 zS9 SD7 CD7 BD7
  have lgo0 : Hid (∀ k, Value.ownBlock gv0 = some k → w8.heap.size ≤ k ∧ k < w9.heap.size) := Lib.hid go0.block
  have lgo1 : Hid (∀ k, Value.ownBlock gv1 = some k → w8.heap.size ≤ k ∧ k < w9.heap.size) := Lib.hid go1.block
  go_wp2_with fail
  refine (eqI_any _ _ (wsR st0 sy0 ps0 x10 x11 a2) (wsR st0 sy0 ps0 x10 x11 a2) _ (go0).reads (((((so0).below b6).below b7).below b8).below b9).reads (HLB0.out) (HLB0.out)).mono ?_
  rintro e w10 ⟨rfl, b10⟩
  have c10 : Below w.heap.size w w10 := blink c9 b10
  have hs10 : w9.heap.size ≤ w10.heap.size := b10.size
  rw [eqB_true rfl]
  go_wp2_with fail
  refine (eqI_any _ _ (wlR st0 sy0 ps0 x10 x11 a2) (wlR st0 sy0 ps0 x10 x11 a2) _ ((go1).below b10).reads ((((((so1).below b6).below b7).below b8).below b9).below b10).reads (HLB1.out) (HLB1.out)).mono ?_
  rintro e w11 ⟨rfl, b11⟩
  have c11 : Below w.heap.size w w11 := blink c10 b11
  have hs11 : w10.heap.size ≤ w11.heap.size := b11.size
  rw [eqB_true rfl]
  have CD11 : Below w.heap.size w w11.drew := Below.drew c11
  have BD11 : Below w11.heap.size w11 w11.drew := (Below.refl _ _).drew
  have SD11 : w11.drew.cell? ⟨w.heap.size, 0, none⟩ = some (.int .i8 st0) ∧ w11.drew.cell? ⟨w.heap.size, 1, none⟩ = some (.int .i16 sy0) ∧ w11.drew.cell? ⟨w.heap.size, 2, none⟩ = some (.slice a0 len0 cap0) ∧ w11.drew.cell? ⟨w.heap.size + 1, 0, none⟩ = some (.int .i8 x10) ∧ w11.drew.cell? ⟨w.heap.size + 1, 1, none⟩ = some (.int .i16 x11) ∧ w11.drew.cell? ⟨w6.heap.size, 0, none⟩ = some (.int .i8 st0) ∧ w11.drew.cell? ⟨w6.heap.size, 1, none⟩ = some (.int .i16 sy0) ∧ w11.drew.cell? ⟨w6.heap.size, 2, none⟩ = some (.slice (some ⟨g6, 0, none⟩) len0 len0) := ⟨cbl BD11 ((((((((((((BX0).below b2).below b3).below b4).below b5).below b6).below b7).below b8).below b9).below b10).below b11).at 0), cbl BD11 ((((((((((((BX0).below b2).below b3).below b4).below b5).below b6).below b7).below b8).below b9).below b10).below b11).at 1), cbl BD11 ((((((((((((BX0).below b2).below b3).below b4).below b5).below b6).below b7).below b8).below b9).below b10).below b11).at 2), cbl BD11 ((((((((((((BX1).below b2).below b3).below b4).below b5).below b6).below b7).below b8).below b9).below b10).below b11).at 0), cbl BD11 ((((((((((((BX1).below b2).below b3).below b4).below b5).below b6).below b7).below b8).below b9).below b10).below b11).at 1), cbl BD11 ((((((BY0).below b8).below b9).below b10).below b11).at 0), cbl BD11 ((((((BY0).below b8).below b9).below b10).below b11).at 1), cbl BD11 ((((((BY0).below b8).below b9).below b10).below b11).at 2)⟩
  go_wp2_with fail
  go_region_held3 (fun v => v.cell? ⟨w.heap.size, 0, none⟩ = some (.int .i8 st0) ∧ v.cell? ⟨w.heap.size, 1, none⟩ = some (.int .i16 sy0) ∧ v.cell? ⟨w.heap.size, 2, none⟩ = some (.slice a0 len0 cap0) ∧ v.cell? ⟨w.heap.size + 1, 0, none⟩ = some (.int .i8 x10) ∧ v.cell? ⟨w.heap.size + 1, 1, none⟩ = some (.int .i16 x11) ∧ v.cell? ⟨w6.heap.size, 0, none⟩ = some (.int .i8 st0) ∧ v.cell? ⟨w6.heap.size, 1, none⟩ = some (.int .i16 sy0) ∧ v.cell? ⟨w6.heap.size, 2, none⟩ = some (.slice (some ⟨g6, 0, none⟩) len0 len0)) (first | exact zS13 | exact zS12 | exact SD11) (first | (go_at_call 10; (with_reducible refine (toNet_any st0 sy0 a0 len0 cap0 ps0 _ (hr0.below CD11) HL0.out).mono ?_); rintro e w12 ⟨g12, rfl, o12, d12⟩; have b12 : Below w11.heap.size w11 w12 := BD11.trans (d12.mono (Nat.le_refl _)); have zS12 : w12.cell? ⟨w.heap.size, 0, none⟩ = some (.int .i8 st0) ∧ w12.cell? ⟨w.heap.size, 1, none⟩ = some (.int .i16 sy0) ∧ w12.cell? ⟨w.heap.size, 2, none⟩ = some (.slice a0 len0 cap0) ∧ w12.cell? ⟨w.heap.size + 1, 0, none⟩ = some (.int .i8 x10) ∧ w12.cell? ⟨w.heap.size + 1, 1, none⟩ = some (.int .i16 x11) ∧ w12.cell? ⟨w6.heap.size, 0, none⟩ = some (.int .i8 st0) ∧ w12.cell? ⟨w6.heap.size, 1, none⟩ = some (.int .i16 sy0) ∧ w12.cell? ⟨w6.heap.size, 2, none⟩ = some (.slice (some ⟨g6, 0, none⟩) len0 len0) := ⟨cbl d12 SD11.1, cbl d12 SD11.2.1, cbl d12 SD11.2.2.1, cbl d12 SD11.2.2.2.1, cbl d12 SD11.2.2.2.2.1, cbl d12 SD11.2.2.2.2.2.1, cbl d12 SD11.2.2.2.2.2.2.1, cbl d12 SD11.2.2.2.2.2.2.2⟩) | (go_at_call 14; (with_reducible refine (eqNet_eq st0 sy0 _ _ ps0 _ ((((((((o6).below b7).below b8).below b9).below b10).below b11).below BD11).below d12).reads o12.reads HX0.out).mono ?_); rintro e w13 ⟨rfl, b13⟩; have zS13 : w13.cell? ⟨w.heap.size, 0, none⟩ = some (.int .i8 st0) ∧ w13.cell? ⟨w.heap.size, 1, none⟩ = some (.int .i16 sy0) ∧ w13.cell? ⟨w.heap.size, 2, none⟩ = some (.slice a0 len0 cap0) ∧ w13.cell? ⟨w.heap.size + 1, 0, none⟩ = some (.int .i8 x10) ∧ w13.cell? ⟨w.heap.size + 1, 1, none⟩ = some (.int .i16 x11) ∧ w13.cell? ⟨w6.heap.size, 0, none⟩ = some (.int .i8 st0) ∧ w13.cell? ⟨w6.heap.size, 1, none⟩ = some (.int .i16 sy0) ∧ w13.cell? ⟨w6.heap.size, 2, none⟩ = some (.slice (some ⟨g6, 0, none⟩) len0 len0) := ⟨cbl b13 zS12.1, cbl b13 zS12.2.1, cbl b13 zS12.2.2.1, cbl b13 zS12.2.2.2.1, cbl b13 zS12.2.2.2.2.1, cbl b13 zS12.2.2.2.2.2.1, cbl b13 zS12.2.2.2.2.2.2.1, cbl b13 zS12.2.2.2.2.2.2.2⟩))
  have c12 : Below w.heap.size w w12 := blink c11 b12
  have hs12 : w11.heap.size ≤ w12.heap.size := b12.size
  have c13 : Below w.heap.size w w13 := blink c12 b13
  have hs13 : w12.heap.size ≤ w13.heap.size := b13.size
  clear zS12 zS13 SD11 CD11 BD11
  have vx0_0_13 : w13.cell? ⟨w6.heap.size, 0, none⟩ = some (.int .i8 st0) := (((((((BY0).below b8).below b9).below b10).below b11).below b12).below b13).at 0
  have vx0_1_13 : w13.cell? ⟨w6.heap.size, 1, none⟩ = some (.int .i16 sy0) := (((((((BY0).below b8).below b9).below b10).below b11).below b12).below b13).at 1
  have vx0_2_13 : w13.cell? ⟨w6.heap.size, 2, none⟩ = some (.slice (some ⟨g6, 0, none⟩) len0 len0) := (((((((BY0).below b8).below b9).below b10).below b11).below b12).below b13).at 2
  have lx0_13 : w6.heap.size < w13.heap.size := (((((((BY0).below b8).below b9).below b10).below b11).below b12).below b13).lt
  go_wp2_with fail
  refine (markNet_any _ _ st0 sy0 _ ps0 _ _ ((((((((o6).below b7).below b8).below b9).below b10).below b11).below b12).below b13) (by omega) (by omega) HX0.out).mono ?_
  rintro e w14 ⟨rfl, mk1, G14⟩
  have K14 : KeepsOut w5.heap.size w6.heap.size w13 w14 := G14 _ _ (fun k hk => by have := lo6.out k hk; omega)
  have c14 : Below w.heap.size w w14 := kout_below c13 K14 (by omega) (by omega)
  have hs14 : w13.heap.size ≤ w14.heap.size := K14.size
  go_wp2_with fail
  refine (eqI_any _ _ (wsR st0 sy0 ps0 x10 x11 a2) (wsR st0 sy0 ps0 x10 x11 a2) _ ((((((go0).below b10).below b11).below b12).below b13).out K14 (fun k hk => by have := lgo0.out k hk; omega)).reads ((((((((((so0).below b6).below b7).below b8).below b9).below b10).below b11).below b12).below b13).out K14 (fun k hk => by have := lso0.out k hk; omega)).reads (HLB0.out) (HLB0.out)).mono ?_
  rintro e w15 ⟨rfl, b15⟩
  have c15 : Below w.heap.size w w15 := blink c14 b15
  have hs15 : w14.heap.size ≤ w15.heap.size := b15.size
  rw [eqB_true rfl]
  go_wp2_with fail
  refine (eqI_any _ _ (wlR st0 sy0 ps0 x10 x11 a2) (wlR st0 sy0 ps0 x10 x11 a2) _ (((((((go1).below b10).below b11).below b12).below b13).out K14 (fun k hk => by have := lgo1.out k hk; omega)).below b15).reads (((((((((((so1).below b6).below b7).below b8).below b9).below b10).below b11).below b12).below b13).out K14 (fun k hk => by have := lso1.out k hk; omega)).below b15).reads (HLB1.out) (HLB1.out)).mono ?_
  rintro e w16 ⟨rfl, b16⟩
  have c16 : Below w.heap.size w w16 := blink c15 b16
  have hs16 : w15.heap.size ≤ w16.heap.size := b16.size
  rw [eqB_true rfl]
  go_wp2_with fail
  refine (mark_any _ _ (wsR st0 sy0 ps0 x10 x11 a2) _ _ ((((((((go0).below b10).below b11).below b12).below b13).out K14 (fun k hk => by have := lgo0.out k hk; omega)).below b15).below b16) (by omega) (by omega) (HLB0.out)).mono ?_
  rintro e w17 ⟨rfl, mk2, g17⟩
  have K17 : KeepsOut w8.heap.size w9.heap.size w16 w17 := keepsOut_grown g17 (fun k hk => by have := lgo0.out k hk; omega)
  have c17 : Below w.heap.size w w17 := kout_below c16 K17 (by omega) (by omega)
  have hs17 : w16.heap.size ≤ w17.heap.size := K17.size
  have lmk2 : Hid (∀ k, Value.ownBlock gv0 = some k → w8.heap.size ≤ k ∧ k < w9.heap.size) := lgo0
  go_wp2_with fail
  refine (mark_any _ _ (wlR st0 sy0 ps0 x10 x11 a2) _ _ ((show OwnI _ _ _ _ from World.ownsRow.kept ((((((((go1).below b10).below b11).below b12).below b13).out K14 (fun k hk => by have := lgo1.out k hk; omega)).below b15).below b16) g17 (by rcases gd with h | h; (by_cases h2 : gv1.ownBlock = none; exact .inl h2; exact .inr (by rw [h]; exact h2)); exact .inr (Ne.symm h)))) (by omega) (by omega) (HLB1.out)).mono ?_
  rintro e w18 ⟨rfl, mk3, g18⟩
  have K18 : KeepsOut w8.heap.size w9.heap.size w17 w18 := keepsOut_grown g18 (fun k hk => by have := lgo1.out k hk; omega)
  have c18 : Below w.heap.size w w18 := kout_below c17 K18 (by omega) (by omega)
  have hs18 : w17.heap.size ≤ w18.heap.size := K18.size
  have lmk3 : Hid (∀ k, Value.ownBlock gv1 = some k → w8.heap.size ≤ k ∧ k < w9.heap.size) := lgo1
  go_wp2_with fail
  refine (held_any _ _ _ _ ((show OwnI _ _ _ _ from World.ownsRow.kept (mk2) g18 gd)).reads (by omega) (by omega) (HLB0.out)).mono ?_
  rintro e w19 ⟨rfl, b19⟩
  have c19 : Below w.heap.size w w19 := blink c18 b19
  have hs19 : w18.heap.size ≤ w19.heap.size := b19.size
  go_wp2_with fail
  refine (held_any _ _ _ _ ((mk3).below b19).reads (by omega) (by omega) (HLB1.out)).mono ?_
  rintro e w20 ⟨rfl, b20⟩
  have c20 : Below w.heap.size w w20 := blink c19 b20
  have hs20 : w19.heap.size ≤ w20.heap.size := b20.size
  have CD20 : Below w.heap.size w w20.drew := Below.drew c20
  have BD20 : Below w20.heap.size w20 w20.drew := (Below.refl _ _).drew
  have SD20 : w20.drew.cell? ⟨w.heap.size, 0, none⟩ = some (.int .i8 st0) ∧ w20.drew.cell? ⟨w.heap.size, 1, none⟩ = some (.int .i16 sy0) ∧ w20.drew.cell? ⟨w.heap.size, 2, none⟩ = some (.slice a0 len0 cap0) ∧ w20.drew.cell? ⟨w.heap.size + 1, 0, none⟩ = some (.int .i8 x10) ∧ w20.drew.cell? ⟨w.heap.size + 1, 1, none⟩ = some (.int .i16 x11) ∧ w20.drew.cell? ⟨w6.heap.size, 0, none⟩ = some (.int .i8 st0) ∧ w20.drew.cell? ⟨w6.heap.size, 1, none⟩ = some (.int .i16 sy0) ∧ w20.drew.cell? ⟨w6.heap.size, 2, none⟩ = some (.slice (some ⟨g6, 0, none⟩) len0 len0) := ⟨cbl BD20 (((((((((((((((((((((BX0).below b2).below b3).below b4).below b5).below b6).below b7).below b8).below b9).below b10).below b11).below b12).below b13).out K14 (by omega)).below b15).below b16).out K17 (by omega)).out K18 (by omega)).below b19).below b20).at 0), cbl BD20 (((((((((((((((((((((BX0).below b2).below b3).below b4).below b5).below b6).below b7).below b8).below b9).below b10).below b11).below b12).below b13).out K14 (by omega)).below b15).below b16).out K17 (by omega)).out K18 (by omega)).below b19).below b20).at 1), cbl BD20 (((((((((((((((((((((BX0).below b2).below b3).below b4).below b5).below b6).below b7).below b8).below b9).below b10).below b11).below b12).below b13).out K14 (by omega)).below b15).below b16).out K17 (by omega)).out K18 (by omega)).below b19).below b20).at 2), cbl BD20 (((((((((((((((((((((BX1).below b2).below b3).below b4).below b5).below b6).below b7).below b8).below b9).below b10).below b11).below b12).below b13).out K14 (by omega)).below b15).below b16).out K17 (by omega)).out K18 (by omega)).below b19).below b20).at 0), cbl BD20 (((((((((((((((((((((BX1).below b2).below b3).below b4).below b5).below b6).below b7).below b8).below b9).below b10).below b11).below b12).below b13).out K14 (by omega)).below b15).below b16).out K17 (by omega)).out K18 (by omega)).below b19).below b20).at 1), cbl BD20 (((((((((((((((BY0).below b8).below b9).below b10).below b11).below b12).below b13).out K14 (by omega)).below b15).below b16).out K17 (by omega)).out K18 (by omega)).below b19).below b20).at 0), cbl BD20 (((((((((((((((BY0).below b8).below b9).below b10).below b11).below b12).below b13).out K14 (by omega)).below b15).below b16).out K17 (by omega)).out K18 (by omega)).below b19).below b20).at 1), cbl BD20 (((((((((((((((BY0).below b8).below b9).below b10).below b11).below b12).below b13).out K14 (by omega)).below b15).below b16).out K17 (by omega)).out K18 (by omega)).below b19).below b20).at 2)⟩
  go_wp2_with fail
  go_region_held3 (fun v => v.cell? ⟨w.heap.size, 0, none⟩ = some (.int .i8 st0) ∧ v.cell? ⟨w.heap.size, 1, none⟩ = some (.int .i16 sy0) ∧ v.cell? ⟨w.heap.size, 2, none⟩ = some (.slice a0 len0 cap0) ∧ v.cell? ⟨w.heap.size + 1, 0, none⟩ = some (.int .i8 x10) ∧ v.cell? ⟨w.heap.size + 1, 1, none⟩ = some (.int .i16 x11) ∧ v.cell? ⟨w6.heap.size, 0, none⟩ = some (.int .i8 st0) ∧ v.cell? ⟨w6.heap.size, 1, none⟩ = some (.int .i16 sy0) ∧ v.cell? ⟨w6.heap.size, 2, none⟩ = some (.slice (some ⟨g6, 0, none⟩) len0 len0)) (first | exact zS23 | exact zS22 | exact zS21 | exact SD20) (first | (go_at_call 10; (with_reducible refine (toNet_any st0 sy0 a0 len0 cap0 ps0 _ (hr0.below CD20) HL0.out).mono ?_); rintro e w21 ⟨g21, rfl, o21, d21⟩; have b21 : Below w20.heap.size w20 w21 := BD20.trans (d21.mono (Nat.le_refl _)); have zS21 : w21.cell? ⟨w.heap.size, 0, none⟩ = some (.int .i8 st0) ∧ w21.cell? ⟨w.heap.size, 1, none⟩ = some (.int .i16 sy0) ∧ w21.cell? ⟨w.heap.size, 2, none⟩ = some (.slice a0 len0 cap0) ∧ w21.cell? ⟨w.heap.size + 1, 0, none⟩ = some (.int .i8 x10) ∧ w21.cell? ⟨w.heap.size + 1, 1, none⟩ = some (.int .i16 x11) ∧ w21.cell? ⟨w6.heap.size, 0, none⟩ = some (.int .i8 st0) ∧ w21.cell? ⟨w6.heap.size, 1, none⟩ = some (.int .i16 sy0) ∧ w21.cell? ⟨w6.heap.size, 2, none⟩ = some (.slice (some ⟨g6, 0, none⟩) len0 len0) := ⟨cbl d21 SD20.1, cbl d21 SD20.2.1, cbl d21 SD20.2.2.1, cbl d21 SD20.2.2.2.1, cbl d21 SD20.2.2.2.2.1, cbl d21 SD20.2.2.2.2.2.1, cbl d21 SD20.2.2.2.2.2.2.1, cbl d21 SD20.2.2.2.2.2.2.2⟩) | (go_at_call 11; (with_reducible refine (toScan_one x10 x11 _).mono ?_); rintro e w22 ⟨rfl, b22⟩; have zS22 : w22.cell? ⟨w.heap.size, 0, none⟩ = some (.int .i8 st0) ∧ w22.cell? ⟨w.heap.size, 1, none⟩ = some (.int .i16 sy0) ∧ w22.cell? ⟨w.heap.size, 2, none⟩ = some (.slice a0 len0 cap0) ∧ w22.cell? ⟨w.heap.size + 1, 0, none⟩ = some (.int .i8 x10) ∧ w22.cell? ⟨w.heap.size + 1, 1, none⟩ = some (.int .i16 x11) ∧ w22.cell? ⟨w6.heap.size, 0, none⟩ = some (.int .i8 st0) ∧ w22.cell? ⟨w6.heap.size, 1, none⟩ = some (.int .i16 sy0) ∧ w22.cell? ⟨w6.heap.size, 2, none⟩ = some (.slice (some ⟨g6, 0, none⟩) len0 len0) := ⟨cbl b22 zS21.1, cbl b22 zS21.2.1, cbl b22 zS21.2.2.1, cbl b22 zS21.2.2.2.1, cbl b22 zS21.2.2.2.2.1, cbl b22 zS21.2.2.2.2.2.1, cbl b22 zS21.2.2.2.2.2.2.1, cbl b22 zS21.2.2.2.2.2.2.2⟩) | (go_at_call 12; (with_reducible refine (iwa_any _ _ _ ps0 _ _ a2 _ HF0.out HV1.out (o21.below b22).reads).mono ?_); rintro e w23 ⟨hv0, hv1, rfl, ho0, ho1, hd, b23⟩; have zS23 : w23.cell? ⟨w.heap.size, 0, none⟩ = some (.int .i8 st0) ∧ w23.cell? ⟨w.heap.size, 1, none⟩ = some (.int .i16 sy0) ∧ w23.cell? ⟨w.heap.size, 2, none⟩ = some (.slice a0 len0 cap0) ∧ w23.cell? ⟨w.heap.size + 1, 0, none⟩ = some (.int .i8 x10) ∧ w23.cell? ⟨w.heap.size + 1, 1, none⟩ = some (.int .i16 x11) ∧ w23.cell? ⟨w6.heap.size, 0, none⟩ = some (.int .i8 st0) ∧ w23.cell? ⟨w6.heap.size, 1, none⟩ = some (.int .i16 sy0) ∧ w23.cell? ⟨w6.heap.size, 2, none⟩ = some (.slice (some ⟨g6, 0, none⟩) len0 len0) := ⟨cbl b23 zS22.1, cbl b23 zS22.2.1, cbl b23 zS22.2.2.1, cbl b23 zS22.2.2.2.1, cbl b23 zS22.2.2.2.2.1, cbl b23 zS22.2.2.2.2.2.1, cbl b23 zS22.2.2.2.2.2.2.1, cbl b23 zS22.2.2.2.2.2.2.2⟩))
  have c21 : Below w.heap.size w w21 := blink c20 b21
  have hs21 : w20.heap.size ≤ w21.heap.size := b21.size
  have c22 : Below w.heap.size w w22 := blink c21 b22
  have hs22 : w21.heap.size ≤ w22.heap.size := b22.size
  have c23 : Below w.heap.size w w23 := blink c22 b23
  have hs23 : w22.heap.size ≤ w23.heap.size := b23.size
  clear zS21 zS22 zS23 SD20 CD20 BD20
  have lho0 : Hid (∀ k, Value.ownBlock hv0 = some k → w22.heap.size ≤ k ∧ k < w23.heap.size) := Lib.hid ho0.block
  have lho1 : Hid (∀ k, Value.ownBlock hv1 = some k → w22.heap.size ≤ k ∧ k < w23.heap.size) := Lib.hid ho1.block
  go_wp2_with fail
  refine (eqI_any _ _ (wsR st0 sy0 ps0 x10 x11 a2) (wsR st0 sy0 ps0 x10 x11 a2) _ (ho0).reads (((((((((((((((((((so0).below b6).below b7).below b8).below b9).below b10).below b11).below b12).below b13).out K14 (fun k hk => by have := lso0.out k hk; omega)).below b15).below b16).out K17 (fun k hk => by have := lso0.out k hk; omega)).out K18 (fun k hk => by have := lso0.out k hk; omega)).below b19).below b20).below b21).below b22).below b23).reads (HLB0.out) (HLB0.out)).mono ?_
  rintro e w24 ⟨rfl, b24⟩
  have c24 : Below w.heap.size w w24 := blink c23 b24
  have hs24 : w23.heap.size ≤ w24.heap.size := b24.size
  rw [eqB_true rfl]
  go_wp2_with fail
  refine (eqI_any _ _ (wlR st0 sy0 ps0 x10 x11 a2) (wlR st0 sy0 ps0 x10 x11 a2) _ ((ho1).below b24).reads ((((((((((((((((((((so1).below b6).below b7).below b8).below b9).below b10).below b11).below b12).below b13).out K14 (fun k hk => by have := lso1.out k hk; omega)).below b15).below b16).out K17 (fun k hk => by have := lso1.out k hk; omega)).out K18 (fun k hk => by have := lso1.out k hk; omega)).below b19).below b20).below b21).below b22).below b23).below b24).reads (HLB1.out) (HLB1.out)).mono ?_
  rintro e w25 ⟨rfl, b25⟩
  have c25 : Below w.heap.size w w25 := blink c24 b25
  have hs25 : w24.heap.size ≤ w25.heap.size := b25.size
  rw [eqB_true rfl]
  go_wp2_with fail
  refine (held_any _ _ _ _ (((((((((show OwnI _ _ _ _ from World.ownsRow.kept (mk2) g18 gd)).below b19).below b20).below b21).below b22).below b23).below b24).below b25).reads (by omega) (by omega) (HLB0.out)).mono ?_
  rintro e w26 ⟨rfl, b26⟩
  have c26 : Below w.heap.size w w26 := blink c25 b26
  have hs26 : w25.heap.size ≤ w26.heap.size := b26.size
  go_wp2_with fail
  refine (held_any _ _ _ _ (((((((((mk3).below b19).below b20).below b21).below b22).below b23).below b24).below b25).below b26).reads (by omega) (by omega) (HLB1.out)).mono ?_
  rintro e w27 ⟨rfl, b27⟩
  have c27 : Below w.heap.size w w27 := blink c26 b27
  have hs27 : w26.heap.size ≤ w27.heap.size := b27.size
  go_wp2_with fail
  go_ret
  exact ⟨rfl, c27⟩
end Go.Proofs.Ytlempmahkeilpaa.fnExactWhereAt
namespace Go.Proofs.Ytlempmahkeilpaa.fnExactWhereAt
open Go.ChangeShapes Go.WideShapes Go.ChangeAt Go.RowKit
open Go.ChangeMaps (open_string shut_string)
set_option linter.unusedVariables false

theorem own : ownKnob Try.prog.godebug = none := by kernel_rfl
theorem laidOut : laidOutB Try.prog = true := by kernel_rfl

set_option maxHeartbeats 1000000 in
set_option maxRecDepth 100000 in
theorem lifted (os : Os) (started : os.Started) (H : Type) (enc : TypeId × Value → H) :
    ReturnsInHanded {} Try.checked os 3 .any (Rows.fnExactWhereAtSpec.pre6 enc Try.prog Try.f3 Rows.fnExactWhereAtRow.domain false) (Rows.fnExactWhereAtSpec.post enc Try.prog Try.f3 false true false false) := by
  refine returnsInHanded_of_change (C := Try.checked) own started (by kernel_rfl) Try.func3
    (ChangeSpec.witness6 (enc := enc) (C := Try.checked) false ⟨#[], #[.agg #[.int .i8 0, .int .i16 0, .slice none 0 0], .agg #[.int .i8 0, .int .i16 0], .int .i64 0], []⟩ 8 (by kernel_rfl) (by kernel_rfl) (by kernel_rfl) (by kernel_rfl)) ?_
  intro W base args ds gs before hval0 hW hcnd _
  have hval : ∀ (j : Nat) t v, Try.f3.params[j]? = some t → args[j]? = some v → Value.okWide Try.prog W .any base t v := hval0
  have hW' := hW
  obtain ⟨p, q, hA0, hV, rfl, hfz, hnd⟩ := hW
  have hA : DataW.TrodAll enc Try.prog W 0 (fun _ => true) true Try.f3.params.toList args.toList ds p := hA0
  rw [Try.params3] at hA hval
  obtain ⟨v0, vs0, d0, ds0, p0, q0, hargs, rfl, rfl, h0, r0⟩ := trodAll_cons hA
  obtain ⟨v1, vs1, d1, ds1, p1, q1, rfl, rfl, rfl, h1, r1⟩ := trodAll_cons r0
  obtain ⟨v2, vs2, d2, ds2, p2, q2, rfl, rfl, rfl, h2, r2⟩ := trodAll_cons r1
  obtain ⟨rfl, rfl, rfl⟩ := trodAll_nil r2
  obtain rfl : args = #[v0, v1, v2] := by cases args; simp_all
  obtain ⟨rfl, rfl⟩ := trodVars_none hV
  have k0 := h0
  have lt0 : ∀ x ∈ p0, x.block < W.heap.size := by obtain ⟨m, hm⟩ := k0; exact DataW.trod_lt m _ _ _ hm
  obtain ⟨u00, u01, u02, y00, y01, y02, n0, rfl, rfl, rfl, t00, t01, t02⟩ := Go.Joins.open_agg3 Try.underlying26 (by kernel_rfl) (by kernel_rfl) (hval 0 26 v0 rfl rfl) h0
  obtain ⟨x00, e00, _, wf00⟩ := DataW.trod_int Try.underlying22 t00
  simp only [List.cons.injEq, and_true] at e00
  subst e00
  obtain ⟨x01, e01, _, wf01⟩ := DataW.trod_int Try.underlying23 t01
  simp only [List.cons.injEq, and_true] at e01
  subst e01
  obtain ⟨a0, len0, cap0, z0, rfl, w0⟩ := openNetLanes t02
  have wn0 : (-128 ≤ x00 ∧ x00 ≤ 127) ∧ (-32768 ≤ x01 ∧ x01 ≤ 32767) := by
    simp [Lit.wf, IntKind.min, IntKind.max, IntKind.signed, IntKind.bits] at wf00 wf01
    omega
  have k1 := h1
  have lt1 : ∀ x ∈ p1, x.block < W.heap.size := by obtain ⟨m, hm⟩ := k1; exact DataW.trod_lt m _ _ _ hm
  obtain ⟨u10, u11, y10, y11, n1, rfl, rfl, rfl, t10, t11⟩ := Go.Joins.open_agg2 Try.underlying28 (by kernel_rfl) (by kernel_rfl) (hval 1 28 v1 rfl rfl) h1
  obtain ⟨x10, e10, _, wf10⟩ := DataW.trod_int Try.underlying22 t10
  simp only [List.cons.injEq, and_true] at e10
  subst e10
  obtain ⟨x11, e11, _, wf11⟩ := DataW.trod_int Try.underlying23 t11
  simp only [List.cons.injEq, and_true] at e11
  subst e11
  have w1 : FitSc (x10, x11) := by
    simp [Lit.wf, IntKind.min, IntKind.max, IntKind.signed, IntKind.bits] at wf10 wf11
    unfold FitSc; simp only; omega
  obtain ⟨a2, rfl, rfl, rfl, w2⟩ := open_int Try.underlying2 (hval 2 2 v2 rfl rfl) h2
  clear hA0 hval0
  refine (walk (w := W) x00 x01 a0 len0 cap0 z0 x10 x11 a2 ⟨w0, wn0⟩ w1 w2).mono fun e W' ⟨he, bel⟩ => ?_
  subst he
  exact ⟨_, rfl, _, _, _, [], _, [], hW', trodAll_mk1 (shut_bool Try.underlying4 _), (trodAll_cons_mk (Below.trod laidOut (by kernel_rfl) (of_decide_eq_true (by kernel_rfl)) k0 bel lt0) (trodAll_cons_mk (Below.trod laidOut (by kernel_rfl) (of_decide_eq_true (by kernel_rfl)) k1 bel lt1) (trodAll_cons_mk (shut_int Try.underlying2 w2) trodAll_mk0))), rfl, bel.frame _, fun h => by cases h⟩

theorem over : Rows.fnExactWhereAtRow.holds Try.pinned (OpenSpec.ofChange Rows.fnExactWhereAtSpec) :=
  OpenClaim.holds_of_wide 3 Try.f3 rfl rfl rfl rfl rfl rfl rfl ⟨rfl, rfl, rfl, rfl, rfl⟩ rfl rfl rfl rfl rfl (by kernel_rfl) Try.func3 (by kernel_rfl)
    (of_decide_eq_true (by kernel_rfl)) (by unfold Func.isWrapper; first | (rw [if_pos (by decide +kernel)]; kernel_rfl) | (rw [if_neg (by decide +kernel)]; exact ⟨rfl, rfl⟩))
    (fun os started H enc _ => lifted os started H enc)

theorem proved : Rows.FnExactWhereAtSaid := over
#print axioms proved
end Go.Proofs.Ytlempmahkeilpaa.fnExactWhereAt
