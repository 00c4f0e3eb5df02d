/-
  'FnExactIsLate' answers true at every input, and leaves all memory that was there as it was. Conditions: none beyond the row's own.
-/
import Derived.Test.YtloelbaaolhlhaaRows
import Derived.ProofKit
import Derived.OpenShut
import Derived.ShutString
import Derived.ChangeOld
import Derived.Below
import Derived.Deep.SlicePairs
import Derived.Lib.SmallJoins
import Derived.Test.YtloelbaaolhlhaaONet
import Derived.Test.YtloelbaaolhlhaaOScan
import Derived.Test.YtloelbaaolhlhaaTkJ
import Derived.Test.YtloelbaaolhlhaaScP
import Derived.Test.YtloelbaaolhlhaaFsI
import Derived.Test.YtloelbaaolhlhaaScS
import Derived.Test.YtloelbaaolhlhaaArB
import Derived.Test.YtloelbaaolhlhaaRel
import Derived.Test.YtloelbaaolhlhaaNtA
import Derived.Test.YtloelbaaolhlhaaTScan
import Derived.Test.YtloelbaaolhlhaaEScan
/-
  The program's CheckScans and FirstBadScan.
-/
namespace Go.Proofs.Ytloelbaaolhlhaa
open Go Go.RowKit
set_option linter.unusedVariables false

theorem KeptBut.setCell {M : Nat} {w w' : World} (h : KeptBut M w w') (p : Addr) (u : Value) (hp : p.block = M) : KeptBut M w (w'.setCell p u) :=
  ⟨h.1.setCell (by rw [hp]; exact Nat.le_refl _) u, by have := h.2.1; simpa using this, fun b hb hne => (heap_setCell_other w' p b u (by rw [hp]; exact hne)).trans (h.2.2 b hb hne)⟩

set_option maxHeartbeats 1000000 in
set_option maxRecDepth 100000 in
theorem itrk_any (st sy : Int) (v : Value) (ps : List Lan) (w : World) (hok : okNet st sy ps) (hv : ReadsLa w v ps) :
    Calls Try.prog 74 #[netV st sy v] w fun e w' => ∃ au cu M, e = .returned (trkV au (hopsL sy ps).length cu M) ∧ ReadsLa w' (.slice au (hopsL sy ps).length cu) (hopsL sy ps) ∧ ownsT w' M 0 (.map []) ∧ w.heap.size ≤ M ∧ Below w.heap.size w w' := by
  have HOK := Lib.hid hok
  have hb1 : Below w.heap.size w ((w.alloc (.cells #[.int .i8 st, .int .i16 sy, v] 35)).alloc (.cells #[.slice none 0 0, .map none] 109)) := ((Below.refl _ _).alloc (Nat.le_refl _) _).alloc (by simp) _
  have BN : BlkA ((w.alloc (.cells #[.int .i8 st, .int .i16 sy, v] 35)).alloc (.cells #[.slice none 0 0, .map none] 109)) w.heap.size 35 #[.int .i8 st, .int .i16 sy, v] := (BlkA.new rfl _ _).alloc _
  have BT : BlkA ((w.alloc (.cells #[.int .i8 st, .int .i16 sy, v] 35)).alloc (.cells #[.slice none 0 0, .map none] 109)) (w.heap.size + 1) 109 #[.slice none 0 0, .map none] := BlkA.new (by simp) _ _
  obtain ⟨W1, hW⟩ : ∃ W, ((w.alloc (.cells #[.int .i8 st, .int .i16 sy, v] 35)).alloc (.cells #[.slice none 0 0, .map none] 109)) = W := ⟨_, rfl⟩
  rw [hW] at hb1 BN BT
  have HW := Lib.hid hW
  have HV1 := Lib.hid (hv.below hb1)
  have HB1 := Lib.hid hb1
  have HBT := Lib.hid BT
  have n0 := BN.at 0
  have n1 := BN.at 1
  have n2 := BN.at 2
  obtain ⟨l, hl⟩ : ∃ l, (hopsL sy ps).length = l := ⟨_, rfl⟩
  have HLN := Lib.hid hl
  rw [hl]
  clear hW hb1 BN BT hok hv hl
  go_enter Try.func74, Try.ntmps74
  go_wp2_with fail
  rw [HW.out]
  go_wp2_with fail
  refine (ihops_any st sy v ps W1 HOK.out HV1.out).mono ?_
  rintro e w3 ⟨u, rfl, o3, b3⟩
  have hfar : ∃ au cu, u = .slice au (hopsL sy ps).length cu ∧ (hopsL sy ps ≠ [] → ∃ b, au = some ⟨b, 0, none⟩ ∧ W1.heap.size ≤ b ∧ CellsLa w3 b (hopsL sy ps)) := by
    rcases o3.cases with ⟨rfl, h0⟩ | ⟨g, cap, rfl, hB, _, _, _, hc, _⟩
    · exact ⟨none, 0, by rw [h0]; rfl, fun h => absurd h0 h⟩
    · exact ⟨_, cap, rfl, fun _ => ⟨g, rfl, hB, hc⟩⟩
  obtain ⟨au, cu, rfl, hfc⟩ := hfar
  have HFC := Lib.hid hfc
  rw [HLN.out]
  have hs1 : W1.heap.size = w.heap.size + 1 + 1 := by rw [← HW.out]; simp
  have hs13 : W1.heap.size ≤ w3.heap.size := b3.size
  have hk4 : KeptBut (w.heap.size + 1) w3 (w3.alloc (.map #[] 0)) := KeptBut.of_below ((Below.refl _ _).alloc (Nat.le_refl _) _) (by omega)
  have hb4 : Below w3.heap.size w3 (w3.alloc (.map #[] 0)) := (Below.refl _ _).alloc (Nat.le_refl _) _
  have hm4 : ownsT (w3.alloc (.map #[] 0)) w3.heap.size 0 (.map []) := World.ownsMap_made w3 _ _ _
  have BT4 := (HBT.out.below b3).below hb4
  obtain ⟨W4, hW4⟩ : ∃ W, w3.alloc (.map #[] 0) = W := ⟨_, rfl⟩
  rw [hW4] at hb4 hm4 BT4 hk4
  have HW4 := Lib.hid hW4
  have HB4 := Lib.hid (blink (blink HB1.out b3) hb4)
  have HM4 := Lib.hid hm4
  have HK4 := Lib.hid hk4
  have HBT4 := Lib.hid BT4
  have t0 := BT4.at 0
  have t1 := BT4.at 1
  have f0 := BlkA.frozen BT4 0
  have f1 := BlkA.frozen BT4 1
  have hs3 : w.heap.size ≤ w3.heap.size := (blink HB1.out b3).size
  have hmm := run_makeMap (P := Try.prog) 107 w3
  rw [HW4.out] at hmm
  clear o3 hfc hb4 hm4 BT4 hk4 hW4 b3
  go_wp2_with fail
  clear hmm
  have hkf := (HK4.out.setCell ⟨w.heap.size + 1, 0, none⟩ (.slice au l cu) rfl).setCell ⟨w.heap.size + 1, 1, none⟩ (.map (some w3.heap.size)) rfl
  have hbf : Below w.heap.size w ((W4.setCell ⟨w.heap.size + 1, 0, none⟩ (.slice au l cu)).setCell ⟨w.heap.size + 1, 1, none⟩ (.map (some w3.heap.size))) := (HB4.out.setCell (by simp) _).setCell (by simp) _
  have hof : ownsT ((W4.setCell ⟨w.heap.size + 1, 0, none⟩ (.slice au l cu)).setCell ⟨w.heap.size + 1, 1, none⟩ (.map (some w3.heap.size))) w3.heap.size 0 (.map []) := (HM4.out.setCell (a := ⟨w.heap.size + 1, 0, none⟩) (by simp; omega) _).setCell (a := ⟨w.heap.size + 1, 1, none⟩) (by simp; omega) _
  have hcf : BlkA ((W4.setCell ⟨w.heap.size + 1, 0, none⟩ (.slice au l cu)).setCell ⟨w.heap.size + 1, 1, none⟩ (.map (some w3.heap.size))) (w.heap.size + 1) 109 #[.slice au l cu, .map (some w3.heap.size)] := by
    have h := (HBT4.out.set 0 (.slice au l cu)).set 1 (.map (some w3.heap.size))
    simpa using h
  obtain ⟨W5, hW5⟩ : ∃ W, ((W4.setCell ⟨w.heap.size + 1, 0, none⟩ (.slice au l cu)).setCell ⟨w.heap.size + 1, 1, none⟩ (.map (some w3.heap.size))) = W := ⟨_, rfl⟩
  rw [hW5] at hkf hbf hof hcf ⊢
  have c0 := hcf.at 0
  have c1 := hcf.at 1
  clear t0 t1 f0 f1 hW5
  refine bodyPost_ret (v := trkV au l cu w3.heap.size) (by simp [results, Try.results74, go_sem, c0, c1]) rfl ⟨au, cu, _, rfl, ?_, hof, hs3, hbf⟩
  refine ⟨au, cu, by rw [HLN.out], fun hne => ?_⟩
  obtain ⟨b, e, hb, hc⟩ := HFC.out hne
  have hne2 : b ≠ w.heap.size + 1 := by omega
  refine ⟨b, e, fun i hi => ?_⟩
  obtain ⟨h0, h1, h2, h3⟩ := hc i hi
  exact ⟨hkf.cell hne2 h0, hkf.cell hne2 h1, hkf.cell hne2 h2, hkf.cell hne2 h3⟩
end Go.Proofs.Ytloelbaaolhlhaa
/-
  Whether a parcel is late (plain).
-/
namespace Go.Proofs.Ytloelbaaolhlhaa
open Go Go.RowKit
set_option linter.unusedVariables false

theorem hour_none {q : Nat → Bool} : ∀ {n : Nat}, (∀ h, h < n → q h = false) → hourTo q n = []
  | 0, _ => rfl
  | n + 1, h => by rw [hourTo_no (h n (by omega)), hour_none fun i hi => h i (by omega)]
theorem hour_some {q : Nat → Bool} : ∀ {n : Nat} {m : Nat}, m < n → q m = true → (∀ i, i < m → q i = false) → (hourTo q n).head? = some (m : Int)
  | 0, m, hm, _, _ => by omega
  | n + 1, m, hm, hq, hl => by
    by_cases e : m = n
    · subst e
      rw [hourTo_yes hq, hour_none hl]; rfl
    · have ih := hour_some (n := n) (by omega) hq hl
      rw [hourTo]
      split
      · rw [List.head?_append, ih]; rfl
      · exact ih
theorem least_hour {q : Nat → Bool} : ∀ n, (∀ h, h < n → q h = false) ∨ ∃ m, m < n ∧ q m = true ∧ ∀ i, i < m → q i = false
  | 0 => .inl fun h hh => by omega
  | n + 1 => by
    rcases least_hour (q := q) n with h | ⟨m, h1, h2, h3⟩
    · cases hq : q n
      · exact .inl fun i hi => by
          by_cases e : i = n
          · subst e; exact hq
          · exact h i (by omega)
      · exact .inr ⟨n, by omega, hq, h⟩
    · exact .inr ⟨m, by omega, h2, h3⟩
/-- The least hour tells whether there is one up to p. -/
theorem frst_late (q : Nat → Bool) (p : Nat) (hp : p ≤ 300) : (decide (frst q < 0) || decide (frst q > (p : Int))) = (List.range (p + 1)).all fun h => !q h := by
  rcases least_hour (q := q) 301 with h | ⟨m, h1, h2, h3⟩
  · have e : frst q = -1 := by unfold frst; rw [hour_none h]; rfl
    rw [e]
    have : ((List.range (p + 1)).all fun h => !q h) = true := List.all_eq_true.2 fun x hx => by rw [h x (by have := List.mem_range.1 hx; omega)]; rfl
    rw [this]; rfl
  · have e : frst q = (m : Int) := by
      have := hour_some h1 h2 h3
      unfold frst
      obtain ⟨y, ys, hy⟩ : ∃ y ys, hourTo q 301 = y :: ys := by
        cases hl : hourTo q 301 with
        | nil => rw [hl] at this; cases this
        | cons y ys => exact ⟨y, ys, rfl⟩
      rw [hy] at this ⊢
      simpa using this
    rw [e]
    have n0 : decide ((m : Int) < 0) = false := decide_eq_false (by omega)
    rw [n0, Bool.false_or, Bool.eq_iff_iff]
    rw [decide_eq_true_iff, List.all_eq_true]
    constructor
    · intro h x hx
      rw [h3 x (by have := List.mem_range.1 hx; omega)]; rfl
    · intro h
      refine Classical.byContradiction fun hn => ?_
      have := h m (List.mem_range.2 (by omega))
      rw [h2] at this; cases this
def lastSc (cs : List (Int × Int)) : Int × Int := cs.getD (cs.length - 1) (0, 0)
/-- The hours at a station that a parcel has been seen or can come to. -/
noncomputable def ltP (sy : Int) (ps : List Lan) (cs : List (Int × Int)) (s : Nat) (h : Nat) : Bool := arrB ps (-1) sy (lastSc cs).1 (lastSc cs).2 (s : Int) (h : Int) || decide (((s : Int), (h : Int)) ∈ cs)
noncomputable def ltB (sy : Int) (ps : List Lan) (cs : List (Int × Int)) (s p : Nat) : Bool := (List.range (p + 1)).all fun h => !ltP sy ps cs s h
/-- No scan of the first k is at the station up to the hour. -/
def missTo (cs : List (Int × Int)) (s p : Int) (k : Nat) : Prop := ∀ i, i < k → ¬ ((cs.getD i (0, 0)).1 = s ∧ (cs.getD i (0, 0)).2 ≤ p)
theorem missTo.zero (cs : List (Int × Int)) (s p : Int) : missTo cs s p 0 := fun i hi => by omega
theorem missTo.succ {cs : List (Int × Int)} {s p : Int} {k : Nat} (h : missTo cs s p k) (hk : ¬ ((cs.getD k (0, 0)).1 = s ∧ (cs.getD k (0, 0)).2 ≤ p)) : missTo cs s p (k + 1) := fun i hi => by
  by_cases e : i = k
  · subst e; exact hk
  · exact h i (by omega)
theorem sc_mem {cs : List (Int × Int)} {x : Int × Int} : x ∈ cs ↔ ∃ i, i < cs.length ∧ cs.getD i (0, 0) = x := by
  constructor
  · intro h
    obtain ⟨i, hi, e⟩ := List.getElem_of_mem h
    exact ⟨i, hi, by simp [List.getD, hi, e]⟩
  · rintro ⟨i, hi, rfl⟩
    simp [List.getD, hi]
theorem ltB_hit {sy : Int} {ps : List Lan} {cs : List (Int × Int)} {s p i : Nat} (hi : i < cs.length) (h0 : 0 ≤ (cs.getD i (0, 0)).2) (h : (cs.getD i (0, 0)).1 = (s : Int) ∧ (cs.getD i (0, 0)).2 ≤ (p : Int)) : ltB sy ps cs s p = false := by
  obtain ⟨x, hx⟩ : ∃ x : Nat, (cs.getD i (0, 0)).2 = (x : Int) := ⟨((cs.getD i (0, 0)).2).toNat, by omega⟩
  cases hb : ltB sy ps cs s p
  · rfl
  · have := List.all_eq_true.1 hb x (List.mem_range.2 (by omega))
    have hm : ((s : Int), (x : Int)) ∈ cs := sc_mem.2 ⟨i, hi, by rw [← h.1, ← hx]⟩
    unfold ltP at this
    rw [decide_eq_true hm, Bool.or_true] at this
    cases this
theorem ltB_arr {sy : Int} {ps : List Lan} {cs : List (Int × Int)} {s p x : Nat} (hx : x ≤ p) (h : arrB ps (-1) sy (lastSc cs).1 (lastSc cs).2 (s : Int) (x : Int) = true) : ltB sy ps cs s p = false := by
  cases hb : ltB sy ps cs s p
  · rfl
  · have := List.all_eq_true.1 hb x (List.mem_range.2 (by omega))
    unfold ltP at this
    rw [h] at this
    cases this
theorem ltB_miss {sy : Int} {ps : List Lan} {cs : List (Int × Int)} {s p : Nat} (h : missTo cs (s : Int) (p : Int) cs.length) (ha : ∀ x, x ≤ p → arrB ps (-1) sy (lastSc cs).1 (lastSc cs).2 (s : Int) (x : Int) = false) : ltB sy ps cs s p = true := by
  refine List.all_eq_true.2 fun x hx => ?_
  have hxp := List.mem_range.1 hx
  unfold ltP
  rw [ha x (by omega), decide_eq_false]
  · rfl
  · intro hm
    obtain ⟨i, hi, e⟩ := sc_mem.1 hm
    exact h i hi ⟨by rw [e], by rw [e]; simp only; omega⟩
/-- The code of the check. -/
def ltA (st sy : Int) (ps : List Lan) (cs : List (Int × Int)) (s p : Int) : Int := scnC st sy ps ((inB s 0 (st - 1) && inB p 0 300) && scsB st cs) cs.length
theorem betwB_one (x lo hi : Int) : betwB [x] lo hi = inB x lo hi := by
  unfold betwB inB
  rw [Bool.eq_iff_iff, decide_eq_true_iff, decide_eq_true_iff]
  unfold betw
  constructor
  · intro h; exact h 0 (by simp)
  · intro h i hi
    match i, hi with
    | 0, _ => exact h
theorem chk_lt (st sy : Int) (ps : List Lan) (cs : List (Int × Int)) (s p : Int) : chkC st sy ps cs [s] [p] = ltA st sy ps cs s p := by
  unfold chkC ltA scnC
  rw [betwB_one, betwB_one]
  cases inB s 0 (st - 1) <;> cases inB p 0 300 <;> cases scsB st cs <;> simp
noncomputable def ltC (st sy : Int) (ps : List Lan) (cs : List (Int × Int)) (s p : Int) : Int := if ltA st sy ps cs s p = 0 then (if cs.length = 0 ∨ 0 ≤ badS sy ps cs then 4 else 0) else ltA st sy ps cs s p
noncomputable def ltR (st sy : Int) (ps : List Lan) (cs : List (Int × Int)) (s p : Int) : Bool := if ltC st sy ps cs s p = 0 then ltB sy ps cs s.toNat p.toNat else false
theorem ltA_ok {st sy : Int} {ps : List Lan} {cs : List (Int × Int)} {s p : Int} (h : ltA st sy ps cs s p = 0) : okNet st sy ps ∧ OkScTo st cs cs.length ∧ cs.length ≤ 12 ∧ (0 ≤ s ∧ s ≤ st - 1) ∧ (0 ≤ p ∧ p ≤ 300) := by
  obtain ⟨h1, h2, h3⟩ := scnC_ok h
  simp only [Bool.and_eq_true] at h2
  exact ⟨vldN_spec h1, of_decide_eq_true h2.2, h3, of_decide_eq_true h2.1.1, of_decide_eq_true h2.1.2⟩
theorem ltR_no {st sy : Int} {ps : List Lan} {cs : List (Int × Int)} {s p : Int} (h : ltC st sy ps cs s p ≠ 0) : ltR st sy ps cs s p = false := if_neg h
/-- The arrivals, and the first k scans. -/
def tlK (A : List Nat) (cs : List (Int × Int)) : Nat → List Nat
  | 0 => A
  | k + 1 => orT (tlK A cs k) (tOf (cs.getD k (0, 0)).1.toNat (cs.getD k (0, 0)).2.toNat)
theorem tlK_ok {A : List Nat} (hA : TOk A) {st : Int} {cs : List (Int × Int)} (hst : st ≤ 8) (h : OkScTo st cs cs.length) : ∀ k, k ≤ cs.length → TOk (tlK A cs k)
  | 0, _ => hA
  | k + 1, hk => by
    obtain ⟨s, t, e, hs, ht⟩ := ok_nats hst h (i := k) (by omega)
    rw [tlK, e]
    exact orT_ok (tlK_ok hA hst h k (by omega)) (tOf_ok _ _ (by simpa using ht))
theorem tlK_bit {A : List Nat} (hA : TOk A) {st : Int} {cs : List (Int × Int)} (hst : st ≤ 8) (h : OkScTo st cs cs.length) (s x : Nat) (hs : s < 8) : ∀ k, k ≤ cs.length → (bitT (tlK A cs k) s x = true ↔ bitT A s x = true ∨ ∃ i, i < k ∧ cs.getD i (0, 0) = ((s : Int), (x : Int)))
  | 0, _ => by
    rw [tlK]
    exact ⟨.inl, fun h => h.elim id fun ⟨i, hi, _⟩ => by omega⟩
  | k + 1, hk => by
    obtain ⟨s', t, e, hs', ht⟩ := ok_nats hst h (i := k) (by omega)
    rw [tlK, bitT_or (tlK_ok hA hst h k (by omega)) s x hs, Bool.or_eq_true, tlK_bit hA hst h s x hs k (by omega), e]
    simp only [Int.toNat_natCast]
    rw [bitT_tOf hs']
    constructor
    · rintro ((h1 | ⟨i, hi, h2⟩) | ⟨h1, h2⟩)
      · exact .inl h1
      · exact .inr ⟨i, by omega, h2⟩
      · exact .inr ⟨k, by omega, by rw [e, h1, h2]⟩
    · rintro (h1 | ⟨i, hi, h2⟩)
      · exact .inl (.inl h1)
      · by_cases ek : i = k
        · subst ek
          rw [e] at h2
          simp only [Prod.mk.injEq] at h2
          exact .inr ⟨by omega, by omega⟩
        · exact .inl (.inr ⟨i, by omega, h2⟩)
end Go.Proofs.Ytloelbaaolhlhaa
/-
  The model's IsLate.
-/
namespace Go.Proofs.Ytloelbaaolhlhaa
open Go Go.RowKit
set_option linter.unusedVariables false

set_option maxHeartbeats 2000000 in
set_option maxRecDepth 100000 in
theorem slt_any (st sy : Int) (v u : Value) (ps : List Lan) (cs : List (Int × Int)) (s p : Int) (w : World) (hn : FitN st sy ps) (hf : FitsSc cs) (hv : ReadsLa w v ps) (hu : ReadsSc w u cs) (hx : cs.length ≤ 1048576) :
    Calls Try.prog 31 #[netV st sy v, u, .int .i64 s, .int .i64 p] w (RetCg w (ltR st sy ps cs s p) (ltC st sy ps cs s p)) := by
  have b1 : Below w.heap.size w (w.alloc (.cells #[.int .i8 st, .int .i16 sy, v] 35)) := (Below.refl _ _).alloc (Nat.le_refl _) _
  have BN : BlkA (w.alloc (.cells #[.int .i8 st, .int .i16 sy, v] 35)) w.heap.size 35 (netB st sy v) := BlkA.new rfl _ _
  obtain ⟨W1, hW⟩ : ∃ W, w.alloc (.cells #[.int .i8 st, .int .i16 sy, v] 35) = W := ⟨_, rfl⟩
  rw [hW] at b1 BN
  have HW := Lib.hid hW
  have HST := Lib.hid hn.s
  have HB1 := Lib.hid b1
  have HBN := Lib.hid BN
  have HV1 := Lib.hid (hv.below b1)
  have HU1 := Lib.hid (hu.below b1)
  obtain ⟨ua, uc, rfl, _⟩ := hu
  have HCHK : Hid (∀ f, (inB s 0 (st - 1) && inB p 0 300) = f → Calls Try.prog 72 #[.pointer (some ⟨w.heap.size, 0, none⟩), .slice ua cs.length uc, .bool f] W1 fun e w' => e = .returned (.int .i64 (ltA st sy ps cs s p)) ∧ Below W1.heap.size W1 w') := Lib.hid (fun f h => by
    have h2 := sscans_any w.heap.size st sy v ps _ cs f W1 hn HV1.out HU1.out hf hx BN
    rw [← h] at h2 ⊢
    exact h2)
  have HSTAT := Lib.hid (sstat_any w.heap.size 35 st sy v s W1 HST.out BN)
  have HHOUR := Lib.hid (shour_any p W1)
  obtain ⟨m, hm⟩ : ∃ m, cs.length = m := ⟨_, rfl⟩
  have HM := Lib.hid hm
  obtain ⟨q1, hq1⟩ : ∃ q, inB s 0 (st - 1) = q := ⟨_, rfl⟩
  obtain ⟨q2, hq2⟩ : ∃ q, inB p 0 300 = q := ⟨_, rfl⟩
  rw [hq1] at HCHK HSTAT
  rw [hq2] at HCHK HHOUR
  rw [hm] at HCHK hx ⊢
  clear hW b1 BN hv hn hf hq1 hq2 hm
  go_enter Try.func31, Try.ntmps31
  go_wp2_with fail
  rw [HW.out]
  refine HSTAT.out.mono ?_
  rintro e _ ⟨rfl, rfl⟩
  clear HSTAT
  cases q1 <;> (
    go_wp2_with (first | (go_at_call 67; refine HHOUR.out.mono ?_; rintro e _ ⟨rfl, rfl⟩))
    refine (HCHK.out _ (by first | rfl | simp)).mono ?_
    rintro e w2 ⟨rfl, b2⟩
    have HB2 := Lib.hid (blink HB1.out b2)
    have HBN2 := Lib.hid (HBN.out.below b2)
    have HV2 := Lib.hid (HV1.out.below b2)
    have HU2 := Lib.hid (HU1.out.below b2)
    obtain ⟨c, hc⟩ : ∃ c, ltA st sy ps cs s p = c := ⟨_, rfl⟩
    have HC := Lib.hid hc
    rw [hc]
    clear b2 HCHK HHOUR hc
    by_cases hz : c = 0
    rotate_left
    · have HCC : Hid (ltC st sy ps cs s p = c) := Lib.hid (by unfold ltC; rw [HC.out, if_neg hz])
      have HR : Hid (ltR st sy ps cs s p = false) := Lib.hid (ltR_no (by rw [HCC.out]; exact hz))
      have t1 : (c != 0) = true := by simp [hz]
      have t0 : (c == 0) = false := by simp [hz]
      clear hz
      go_wp2_with fail
      go_ret2
      exact ⟨ret_bc HR.out.symm HCC.out.symm, HB2.out⟩
    subst hz
    obtain ⟨hok, hsc, h12, ⟨hs0, hs1⟩, hp0, hp1⟩ := ltA_ok HC.out
    by_cases h0 : m = 0
    · have HCC : Hid (ltC st sy ps cs s p = 4) := Lib.hid (by unfold ltC; rw [if_pos HC.out, if_pos (.inl (by rw [HM.out]; exact h0))])
      have HR : Hid (ltR st sy ps cs s p = false) := Lib.hid (ltR_no (by rw [HCC.out]; decide))
      subst h0
      clear hok hsc
      go_wp2_with fail
      go_ret2
      exact ⟨ret_bc HR.out.symm HCC.out.symm, HB2.out⟩
    have hst8 : st ≤ 8 := hok.1.2
    obtain ⟨sn, yn, rfl, rfl⟩ := net_nat hok
    obtain ⟨sx, rfl⟩ : ∃ x : Nat, s = (x : Int) := ⟨s.toNat, by omega⟩
    obtain ⟨px, rfl⟩ : ∃ x : Nat, p = (x : Int) := ⟨p.toNat, by omega⟩
    have hsx8 : sx < 8 := by omega
    have hpx : px ≤ 300 := by omega
    have HOK := Lib.hid hok
    have HSC := Lib.hid hsc
    have tm0 : ((m : Int) == 0) = false := by simp; omega
    have HBAD := Lib.hid (sbad_any w.heap.size sn yn v ps _ cs w2 hok HV2.out HU2.out hsc (by rw [HM.out]; exact hx) HBN2.out)
    rw [HM.out] at HBAD
    obtain ⟨b, hb⟩ : ∃ b, badS (yn : Int) ps cs = b := ⟨_, rfl⟩
    have HBB := Lib.hid hb
    rw [hb] at HBAD
    clear hok hsc hb
    go_wp2_with fail
    refine HBAD.out.mono ?_
    rintro e w4 ⟨rfl, b4⟩
    have HB4 := Lib.hid (blink HB2.out b4)
    have HBN4 := Lib.hid (HBN2.out.below b4)
    have HV4 := Lib.hid (HV2.out.below b4)
    have HU4 := Lib.hid (HU2.out.below b4)
    clear b4 HBAD
    by_cases hbb : 0 ≤ b
    · have HCC : Hid (ltC (sn : Int) (yn : Int) ps cs (sx : Int) (px : Int) = 4) := Lib.hid (by unfold ltC; rw [if_pos HC.out, if_pos (.inr (by rw [HBB.out]; exact hbb))])
      have HR : Hid (ltR (sn : Int) (yn : Int) ps cs (sx : Int) (px : Int) = false) := Lib.hid (ltR_no (by rw [HCC.out]; decide))
      have tb : decide (b ≥ 0) = true := decide_eq_true hbb
      clear hbb
      go_wp2_with fail
      go_ret2
      exact ⟨ret_bc HR.out.symm HCC.out.symm, HB4.out⟩
    have tb : decide (b ≥ 0) = false := decide_eq_false hbb
    have HCC : Hid (ltC (sn : Int) (yn : Int) ps cs (sx : Int) (px : Int) = 0) := Lib.hid (by unfold ltC; rw [if_pos HC.out, if_neg (by rw [HM.out, HBB.out]; omega)])
    have HRR : Hid (ltR (sn : Int) (yn : Int) ps cs (sx : Int) (px : Int) = ltB (yn : Int) ps cs sx px) := Lib.hid (by unfold ltR; rw [if_pos HCC.out, Int.toNat_natCast, Int.toNat_natCast])
    obtain ⟨g, hg, hgc⟩ : ∃ g, ua = some ⟨g, 0, none⟩ ∧ CellsSc w4 g cs := by
      obtain ⟨a', cap', e, h⟩ := HU4.out
      injection e with e1 e2 e3
      subst e1
      exact h (by intro e; have := HM.out; rw [e] at this; simp at this; omega)
    subst hg
    have HGC := Lib.hid hgc
    have hm1 : 1 ≤ m := by omega
    clear hbb hgc h0
    go_wp2_with fail
    go_loopw [11] (fun i wr => ∃ k : Nat, k ≤ m ∧ i = .int .i64 k ∧ missTo cs (sx : Int) (px : Int) k ∧ wr = w4) (fun i _ => m - (intOf i).toNat)
    case atStart => exact ⟨0, Nat.zero_le _, rfl, missTo.zero _ _ _, rfl⟩
    case round =>
      obtain ⟨k, hk, rfl, hms, hwr⟩ := hrel
      have hwr2 := hwr.symm
      clear hwr
      subst hwr2
      have HMS := Lib.hid hms
      by_cases hlt : k < m
      · have hkl : (k : Int) < (m : Int) := by omega
        have hk0 : (0 : Int) ≤ (k : Int) := by omega
        obtain ⟨p0, p1⟩ := HGC.out k (by rw [HM.out]; exact hlt)
        obtain ⟨s0, h0, hq, hs0', hh0'⟩ := ok_nats (i := k) hst8 HSC.out (by rw [HM.out]; exact hlt)
        have HHIT : Hid ((s0 : Int) = (sx : Int) → (h0 : Int) ≤ (px : Int) → ltB (yn : Int) ps cs sx px = false) := Lib.hid (fun e1 e2 => ltB_hit (i := k) (by rw [HM.out]; exact hlt) (by rw [hq]; simp only; omega) (by rw [hq]; exact ⟨e1, e2⟩))
        have HNEXT : Hid (¬ ((s0 : Int) = (sx : Int) ∧ (h0 : Int) ≤ (px : Int)) → missTo cs (sx : Int) (px : Int) (k + 1)) := Lib.hid (fun h => HMS.out.succ (by rw [hq]; exact h))
        rw [hq] at p0 p1
        simp only at p0 p1
        clear hq hms
        by_cases e1 : (s0 : Int) = (sx : Int)
        · have u1 : ((s0 : Int) == (sx : Int)) = true := by simp [e1]
          by_cases e2 : (h0 : Int) ≤ (px : Int)
          · have u2 : decide ((h0 : Int) ≤ (px : Int)) = true := decide_eq_true e2
            have u3 : h0 ≤ px := by omega
            have HF := Lib.hid (HHIT.out e1 e2)
            clear HHIT HNEXT e1 e2
            go_wp2_with fail
            go_ret2
            exact ⟨ret_bc (by rw [HRR.out, HF.out]) HCC.out.symm, HB4.out⟩
          · have u2 : decide ((h0 : Int) ≤ (px : Int)) = false := decide_eq_false e2
            have u3 : ¬ h0 ≤ px := by omega
            have HN := Lib.hid (HNEXT.out (fun h => e2 h.2))
            clear HHIT HNEXT e1 e2
            go_wp2_with fail
            go_roundw
            case rel => exact ⟨k + 1, by omega, by go_num, HN.out, (by first | rfl | trivial)⟩
            case measure => simp [intOf]; omega
        · have u1 : ((s0 : Int) == (sx : Int)) = false := by simp; omega
          have HN := Lib.hid (HNEXT.out (fun h => e1 h.1))
          clear HHIT HNEXT e1
          go_wp2_with fail
          go_roundw
          case rel => exact ⟨k + 1, by omega, by go_num, HN.out, (by first | rfl | trivial)⟩
          case measure => simp [intOf]; omega
      · have HMA : Hid (missTo cs (sx : Int) (px : Int) cs.length) := Lib.hid (by rw [HM.out, show m = k by omega]; exact hms)
        obtain ⟨j, hj⟩ : ∃ j, m = j + 1 := ⟨m - 1, by omega⟩
        have hjm : (m : Int) - 1 = (j : Int) := by omega
        have hw1 : IntKind.i64.wrap ((m : Int) - 1) = (j : Int) := by rw [hjm]; exact IntWalk.i64_in _ (by omega)
        obtain ⟨p0, p1⟩ := HGC.out j (by rw [HM.out]; omega)
        obtain ⟨s1, h1, hq, hs1', hh1'⟩ := ok_nats (i := j) hst8 HSC.out (by rw [HM.out]; omega)
        have HLAST : Hid (lastSc cs = ((s1 : Int), (h1 : Int))) := Lib.hid (by unfold lastSc; rw [HM.out, hj]; exact hq)
        rw [hq] at p0 p1
        simp only at p0 p1
        have hj0 : (0 : Int) ≤ (j : Int) := by omega
        have hjl : (j : Int) < (m : Int) := by omega
        have hjn : j < m := by omega
        have hkm : ¬ (k : Int) < (m : Int) := by omega
        have HBEH := Lib.hid (sbehind_any w.heap.size sn yn v ps s1 h1 (-1) HOK.out hs1' hh1' (by omega) w4 HV4.out HBN4.out)
        clear hq hms hjm hj
        go_wp2_with fail
        refine HBEH.out.mono ?_
        rintro e w5 ⟨Bt, rfl, hBt, ⟨cells, A, bt, hT, hA⟩, b5⟩
        have HB5 := Lib.hid (blink HB4.out b5)
        have HBT := Lib.hid bt
        have HT := Lib.hid hT
        have HARR : Hid (∀ x : Nat, x ≤ 300 → arrB ps (-1) (yn : Int) (lastSc cs).1 (lastSc cs).2 (sx : Int) (x : Int) = A sx x) := Lib.hid (fun x hx => by
          rw [HLAST.out]
          exact (arrB_of (by simpa using hA sx x hsx8 hx)).symm)
        clear bt hT hA b5 HBEH p0 p1 hw1 hBt
        go_wp2_with fail
        go_loopw [13] (fun i wr => ∃ x : Nat, x ≤ px + 1 ∧ i = .int .i64 x ∧ (∀ y, y < x → A sx y = false) ∧ wr = w5) (fun i _ => px + 1 - (intOf i).toNat)
        case atStart => exact ⟨0, Nat.zero_le _, rfl, fun y hy => by omega, rfl⟩
        case round =>
          obtain ⟨x, hx, rfl, hno, hwr⟩ := hrel
          have hwr2 := hwr.symm
          clear hwr
          subst hwr2
          have HNO := Lib.hid hno
          by_cases hle : x ≤ px
          · have hle' : decide ((x : Int) ≤ (px : Int)) = true := decide_eq_true (by omega)
            have hx3 : (x : Int) < 301 := by omega
            have hx0 : (0 : Int) ≤ (x : Int) := by omega
            have hsx0 : (0 : Int) ≤ (sx : Int) := by omega
            have hsx8' : (sx : Int) < 8 := by omega
            have z0 : w5.cell? ⟨Bt, sx * 301 + x, none⟩ = some (.bool (A sx x)) := (HBT.out.at _).trans (HT.out.at' sx x (by omega) (by omega))
            have HHIT : Hid (A sx x = true → ltB (yn : Int) ps cs sx px = false) := Lib.hid (fun h => ltB_arr hle (by rw [HARR.out x (by omega)]; exact h))
            have HSUC : Hid (A sx x = false → ∀ y, y < x + 1 → A sx y = false) := Lib.hid (fun h y hy => by
              by_cases e : y = x
              · subst e; exact h
              · exact HNO.out y (by omega))
            obtain ⟨bv, hbv⟩ : ∃ bv, A sx x = bv := ⟨_, rfl⟩
            rw [hbv] at z0 HHIT HSUC
            clear hbv hno
            cases bv with
            | true =>
              have HF := Lib.hid (HHIT.out rfl)
              clear HHIT HSUC
              go_wp2_with fail
              go_ret2
              exact ⟨ret_bc (by rw [HRR.out, HF.out]) HCC.out.symm, HB5.out⟩
            | false =>
              have HF := Lib.hid (HSUC.out rfl)
              clear HHIT HSUC
              go_wp2_with fail
              go_roundw
              case rel => exact ⟨x + 1, by omega, by go_num, HF.out, (by first | rfl | trivial)⟩
              case measure => simp [intOf]; omega
          · have hle' : decide ((x : Int) ≤ (px : Int)) = false := decide_eq_false (by omega)
            have HF : Hid (ltB (yn : Int) ps cs sx px = true) := Lib.hid (ltB_miss HMA.out (fun y hy => by rw [HARR.out y (by omega)]; exact hno y (by omega)))
            clear hno
            go_wp2_with fail
            go_ret2
            exact ⟨ret_bc (by rw [HRR.out, HF.out]) HCC.out.symm, HB5.out⟩)
end Go.Proofs.Ytloelbaaolhlhaa
/-
  The program's IsLate.
-/
namespace Go.Proofs.Ytloelbaaolhlhaa
open Go Go.RowKit
set_option linter.unusedVariables false

theorem reads_one_at {w : World} {b : Nat} {x : Int} (h : w.cell? ⟨b, 0, none⟩ = some (.int .i64 x)) : ReadsI w (.slice (some ⟨b, 0, none⟩) 1 1) [x] :=
  ⟨_, 1, rfl, fun _ => ⟨b, rfl, fun i hi => by
    match i, hi with
    | 0, _ => exact h⟩⟩

set_option maxHeartbeats 2000000 in
set_option maxRecDepth 100000 in
theorem ilt_any (st sy : Int) (v u : Value) (ps : List Lan) (cs : List (Int × Int)) (s p : Int) (w : World) (hn : FitN st sy ps) (hf : FitsSc cs) (hv : ReadsLa w v ps) (hu : ReadsSc w u cs) (hx : cs.length ≤ 1048576) :
    Calls Try.prog 33 #[netV st sy v, u, .int .i64 s, .int .i64 p] w (RetCg w (ltR st sy ps cs s p) (ltC st sy ps cs s p)) := by
  have HN := Lib.hid hn
  have hu0 := hu
  obtain ⟨ua, uc, rfl, _⟩ := hu0
  have b1 : Below w.heap.size w ((((w.alloc (.cells #[.int .i8 st, .int .i16 sy, v] 35)).alloc (.cells #[.int .i64 s] 2)).alloc (.cells #[.int .i64 p] 2)).alloc (.cells #[.slice ua cs.length uc, .slice (some ⟨w.heap.size + 1, 0, none⟩) 1 1, .slice (some ⟨w.heap.size + 1 + 1, 0, none⟩) 1 1] 82)) := ((((Below.refl _ _).alloc (Nat.le_refl _) _).alloc (by simp) _).alloc (by simp; omega) _).alloc (by simp; omega) _
  have BN : BlkA ((((w.alloc (.cells #[.int .i8 st, .int .i16 sy, v] 35)).alloc (.cells #[.int .i64 s] 2)).alloc (.cells #[.int .i64 p] 2)).alloc (.cells #[.slice ua cs.length uc, .slice (some ⟨w.heap.size + 1, 0, none⟩) 1 1, .slice (some ⟨w.heap.size + 1 + 1, 0, none⟩) 1 1] 82)) w.heap.size 35 #[.int .i8 st, .int .i16 sy, v] := (((BlkA.new rfl _ _).alloc _).alloc _).alloc _
  have BS : BlkA ((((w.alloc (.cells #[.int .i8 st, .int .i16 sy, v] 35)).alloc (.cells #[.int .i64 s] 2)).alloc (.cells #[.int .i64 p] 2)).alloc (.cells #[.slice ua cs.length uc, .slice (some ⟨w.heap.size + 1, 0, none⟩) 1 1, .slice (some ⟨w.heap.size + 1 + 1, 0, none⟩) 1 1] 82)) (w.heap.size + 1) 2 #[.int .i64 s] := ((BlkA.new (by simp) _ _).alloc _).alloc _
  have BP : BlkA ((((w.alloc (.cells #[.int .i8 st, .int .i16 sy, v] 35)).alloc (.cells #[.int .i64 s] 2)).alloc (.cells #[.int .i64 p] 2)).alloc (.cells #[.slice ua cs.length uc, .slice (some ⟨w.heap.size + 1, 0, none⟩) 1 1, .slice (some ⟨w.heap.size + 1 + 1, 0, none⟩) 1 1] 82)) (w.heap.size + 1 + 1) 2 #[.int .i64 p] := (BlkA.new (by simp) _ _).alloc _
  obtain ⟨W1, hW⟩ : ∃ W, ((((w.alloc (.cells #[.int .i8 st, .int .i16 sy, v] 35)).alloc (.cells #[.int .i64 s] 2)).alloc (.cells #[.int .i64 p] 2)).alloc (.cells #[.slice ua cs.length uc, .slice (some ⟨w.heap.size + 1, 0, none⟩) 1 1, .slice (some ⟨w.heap.size + 1 + 1, 0, none⟩) 1 1] 82)) = W := ⟨_, rfl⟩
  rw [hW] at b1 BN BS BP
  have HW := Lib.hid hW
  have HB1 := Lib.hid b1
  have HBN := Lib.hid BN
  have HV1 := Lib.hid (hv.below b1)
  have HU1 := Lib.hid (hu.below b1)
  have HUW := Lib.hid hu
  have HCHK := Lib.hid (ichk_any st sy v ps (.slice ua cs.length uc) (.slice (some ⟨w.heap.size + 1, 0, none⟩) 1 1) (.slice (some ⟨w.heap.size + 1 + 1, 0, none⟩) 1 1) cs [s] [p] W1 hn (hv.below b1) (hu.below b1) hf (reads_one_at (BS.at 0)) (reads_one_at (BP.at 0)) hx (by simp) (by simp))
  rw [chk_lt] at HCHK
  obtain ⟨m, hm⟩ : ∃ m, cs.length = m := ⟨_, rfl⟩
  have HM := Lib.hid hm
  rw [hm] at HW HCHK HU1 HUW hx ⊢
  clear hW b1 BN BS BP hv hu hn hf hm
  go_enter Try.func33, Try.ntmps33
  go_wp2_with fail
  rw [HW.out]
  refine HCHK.out.mono ?_
  rintro e w2 ⟨rfl, b2⟩
  have HB2 := Lib.hid (blink HB1.out b2)
  have BN2 := HBN.out.below b2
  have HV2 := Lib.hid (HV1.out.below b2)
  have HU2 := Lib.hid (HU1.out.below b2)
  obtain ⟨c, hc⟩ : ∃ c, ltA st sy ps cs s p = c := ⟨_, rfl⟩
  have HC := Lib.hid hc
  rw [hc]
  clear b2 HCHK hc HW HU1 HV1 HBN
  by_cases hz : c = 0
  rotate_left
  · have HCC : Hid (ltC st sy ps cs s p = c) := Lib.hid (by unfold ltC; rw [HC.out, if_neg hz])
    have HR : Hid (ltR st sy ps cs s p = false) := Lib.hid (ltR_no (by rw [HCC.out]; exact hz))
    have t1 : (c != 0) = true := by simp [hz]
    have t0 : (c == 0) = false := by simp [hz]
    clear hz BN2
    go_wp2_with fail
    go_ret2
    exact ⟨ret_bc HR.out.symm HCC.out.symm, HB2.out⟩
  subst hz
  obtain ⟨hok, hsc, h12, ⟨hs0, hs1⟩, hp0, hp1⟩ := ltA_ok HC.out
  have hst8 : st ≤ 8 := hok.1.2
  have HTR := Lib.hid (itrk_any st sy v ps w2 hok HV2.out)
  obtain ⟨sn, yn, rfl, rfl⟩ := net_nat hok
  obtain ⟨sx, rfl⟩ : ∃ x : Nat, s = (x : Int) := ⟨s.toNat, by omega⟩
  obtain ⟨px, rfl⟩ : ∃ x : Nat, p = (x : Int) := ⟨p.toNat, by omega⟩
  have hsx8 : sx < 8 := by omega
  have hpx : px ≤ 300 := by omega
  have HOK := Lib.hid hok
  have HSC := Lib.hid hsc
  have m0 := BN2.at 0
  have m1 := BN2.at 1
  have m2 := BN2.at 2
  clear hok hsc BN2
  go_wp2_with fail
  refine HTR.out.mono ?_
  rintro e w3 ⟨au, cu, M, rfl, hr3, hm3, hM3, b3⟩
  obtain ⟨l, hl⟩ : ∃ l, (hopsL (yn : Int) ps).length = l := ⟨_, rfl⟩
  have HLN := Lib.hid hl
  rw [hl] at hr3
  rw [hl]
  have HB3 := Lib.hid (blink HB2.out b3)
  have hMlt : M < w3.heap.size := hm3.lt
  have hwM : w.heap.size ≤ M := Nat.le_trans HB2.out.size hM3
  have HU3 := Lib.hid (HU2.out.below b3)
  have hb4 : Below w3.heap.size w3 (w3.alloc (.cells #[.slice au l cu, .map (some M)] 109)) := (Below.refl _ _).alloc (Nat.le_refl _) _
  have BK : BlkA (w3.alloc (.cells #[.slice au l cu, .map (some M)] 109)) w3.heap.size 109 #[.slice au l cu, .map (some M)] := BlkA.new rfl _ _
  obtain ⟨W4, hW4⟩ : ∃ W, w3.alloc (.cells #[.slice au l cu, .map (some M)] 109) = W := ⟨_, rfl⟩
  rw [hW4] at hb4 BK
  have HW4 := Lib.hid hW4
  have HB4 := Lib.hid (blink HB3.out hb4)
  have HBK := Lib.hid BK
  have HM4 : Hid (ownsT W4 M 0 (.map [])) := Lib.hid (ownT_below hm3 hb4 hMlt)
  have HR4 := Lib.hid (hr3.below hb4)
  have HU4 := Lib.hid (HU3.out.below hb4)
  clear m0 m1 m2 hr3 hm3 b3 HTR hl hb4 hW4
  by_cases h0 : m = 0
  · have HCC : Hid (ltC (sn : Int) (yn : Int) ps cs (sx : Int) (px : Int) = 4) := Lib.hid (by unfold ltC; rw [if_pos HC.out, if_pos (.inl (by rw [HM.out]; exact h0))])
    have HR : Hid (ltR (sn : Int) (yn : Int) ps cs (sx : Int) (px : Int) = false) := Lib.hid (ltR_no (by rw [HCC.out]; decide))
    subst h0
    clear BK
    go_wp2_with fail
    rw [HW4.out]
    go_wp2_with fail
    go_ret2
    exact ⟨ret_bc HR.out.symm HCC.out.symm, HB4.out⟩
  have tm0 : ((m : Int) == 0) = false := by simp; omega
  have HBAD := Lib.hid (ibad_any au cu M 0 (.map []) sn yn ps _ cs W4 HOK.out HN.out.n (by rw [HLN.out]; exact HR4.out) HM4.out (KTr.zero yn ps) (by rw [← HM.out] at HU4; exact HU4.out) HSC.out (by omega) (by omega))
  rw [HM.out, HLN.out] at HBAD
  obtain ⟨b, hb⟩ : ∃ b, badS (yn : Int) ps cs = b := ⟨_, rfl⟩
  have HBB := Lib.hid hb
  rw [hb] at HBAD
  have k0 := BK.at 0
  have k1 := BK.at 1
  clear BK hb
  go_wp2_with fail
  rw [HW4.out]
  refine HBAD.out.mono ?_
  rintro e w5 ⟨D5, rfl, hm5, hk5, hkp5⟩
  have HB5 : Hid (Below w.heap.size w w5) := Lib.hid (HB4.out.trans (hkp5.1.mono hwM))
  have HBK5 := Lib.hid (HBK.out.kept hkp5 (by omega))
  have HR5 := Lib.hid (HR4.out.kept HM4.out hkp5)
  have hU5 := HUW.out.below HB5.out
  clear hm5 hk5 hkp5 HBAD k0 k1
  by_cases hbb : 0 ≤ b
  · have HCC : Hid (ltC (sn : Int) (yn : Int) ps cs (sx : Int) (px : Int) = 4) := Lib.hid (by unfold ltC; rw [if_pos HC.out, if_pos (.inr (by rw [HBB.out]; exact hbb))])
    have HR : Hid (ltR (sn : Int) (yn : Int) ps cs (sx : Int) (px : Int) = false) := Lib.hid (ltR_no (by rw [HCC.out]; decide))
    have tb : decide (b ≥ 0) = true := decide_eq_true hbb
    clear hU5
    go_wp2_with fail
    go_ret2
    exact ⟨ret_bc HR.out.symm HCC.out.symm, HB5.out⟩
  have tb : decide (b ≥ 0) = false := decide_eq_false hbb
  have HCC : Hid (ltC (sn : Int) (yn : Int) ps cs (sx : Int) (px : Int) = 0) := Lib.hid (by unfold ltC; rw [if_pos HC.out, if_neg (by rw [HM.out, HBB.out]; omega)])
  have HRR : Hid (ltR (sn : Int) (yn : Int) ps cs (sx : Int) (px : Int) = ltB (yn : Int) ps cs sx px) := Lib.hid (by unfold ltR; rw [if_pos HCC.out, Int.toNat_natCast, Int.toNat_natCast])
  obtain ⟨g, hg, hgc⟩ : ∃ g, ua = some ⟨g, 0, none⟩ ∧ CellsSc w5 g cs := by
    obtain ⟨a', cap', e, h⟩ := hU5
    injection e with e1 e2 e3
    subst e1
    exact h (by intro e; have := HM.out; rw [e] at this; simp at this; omega)
  have HGC := Lib.hid hgc
  have hm1 : 1 ≤ m := by omega
  obtain ⟨j, hj⟩ : ∃ j, m = j + 1 := ⟨m - 1, by omega⟩
  have hjm : (m : Int) - 1 = (j : Int) := by omega
  have hw1 : IntKind.i64.wrap ((m : Int) - 1) = (j : Int) := by rw [hjm]; exact IntWalk.i64_in _ (by omega)
  obtain ⟨p0, p1⟩ := hgc j (by rw [HM.out]; omega)
  have hgw : g < w5.heap.size := World.block_lt_of_cell? w5 _ p0
  obtain ⟨s1, h1, hq, hs1', hh1'⟩ := ok_nats (i := j) hst8 HSC.out (by rw [HM.out]; omega)
  have HLAST : Hid (lastSc cs = ((s1 : Int), (h1 : Int))) := Lib.hid (by unfold lastSc; rw [HM.out, hj]; exact hq)
  rw [hq] at p0 p1
  simp only at p0 p1
  have HCS : Hid (∀ W, Below w5.heap.size w5 W → W.cell? ⟨g, j * 2, none⟩ = some (.int .i8 (s1 : Int)) ∧ W.cell? ⟨g, j * 2 + 1, none⟩ = some (.int .i16 (h1 : Int))) := Lib.hid (fun W hC => ⟨(hC.cell (p := ⟨g, j * 2, none⟩) hgw).trans p0, (hC.cell (p := ⟨g, j * 2 + 1, none⟩) hgw).trans p1⟩)
  have hj0 : (0 : Int) ≤ (j : Int) := by omega
  have hjl : (j : Int) < (m : Int) := by omega
  have hjn : j < m := by omega
  have HG := Lib.hid hg
  have HARR : Hid (∀ W, ReadsLa W (.slice au l cu) (hopsL (yn : Int) ps) → Calls Try.prog 62 #[.slice au l cu, scv s1 h1] W fun e w' => ∃ k, e = .returned (tv (rarr yn ps s1 h1 k)) ∧ rend yn ps s1 h1 k ∧ Below W.heap.size W w') := Lib.hid (fun W hr => by
    have h := callsIn_wide.1 (iarr_in au (hopsL (yn : Int) ps).length cu (hopsL (yn : Int) ps) s1 h1 (hops_ok HOK.out) (by rw [hopsL_len]; exact HN.out.n) hs1' hh1' W (by rw [HLN.out]; exact hr))
    rw [HLN.out] at h
    exact h)
  clear hbb hgc hU5 hg hq hj hjm p0 p1 h0 tm0
  go_wp2_with fail
  refine wp_region_relL (fun W => Below w5.heap.size w5 W) (fun W W' => Below W.heap.size W W') 10 [fun u _ => u = Value.pointer (some ⟨w3.heap.size, 0, none⟩), fun u _ => u = Value.slice au l cu, fun u _ => u = Value.slice ua m uc, fun u _ => u = Value.slice ua m uc, fun u _ => u = Value.int .i64 (m : Int), fun u _ => u = Value.int .i64 (j : Int), fun u _ => u = Value.pointer (some ⟨g, j * 2, none⟩), fun u _ => u = scv s1 h1, fun u _ => ∃ k, u = tv (rarr yn ps s1 h1 k) ∧ rend yn ps s1 h1 k, fun u W => ∃ B, u = Value.pointer (some ⟨B, 0, none⟩) ∧ w5.heap.size ≤ B ∧ BlkT W B t0] (by kernel_rfl) (by kernel_rfl) rfl (Below.refl _ _).drew ?_
  simp only [List.take_succ_cons, List.take_zero, List.drop_succ_cons, List.drop_zero]
  refine wpRel_cons (fun _ _ _ _ _ h => h) (fun W hC hd => relObl_intro fun K hK => ?_) (fun v40 => ?_)
  · have HK := Lib.hid hK
    have HC := Lib.hid hC
    clear hK hd hC
    go_simp
    exact HK.out _ _ ⟨_, rfl, HC.out, Below.refl _ _, rfl⟩
  simp only [Act.put, List.setIfInBounds_toArray, List.set_cons_zero, List.set_cons_succ]
  refine wpRel_cons (fun _ _ _ _ _ h => h) (fun W hC hd => relObl_intro fun K hK => ?_) (fun v41 => ?_)
  · have HK := Lib.hid hK
    have HC := Lib.hid hC
    obtain rfl : v40 = Value.pointer (some ⟨w3.heap.size, 0, none⟩) := hd 0 rfl _ rfl
    have c0 : W.cell? ⟨w3.heap.size, 0, none⟩ = some (.slice au l cu) := (HBK5.out.below hC).at 0
    clear hK hd hC
    go_simp
    exact HK.out _ _ ⟨_, rfl, HC.out, Below.refl _ _, rfl⟩
  simp only [Act.put, List.setIfInBounds_toArray, List.set_cons_zero, List.set_cons_succ]
  refine wpRel_cons (fun _ _ _ _ _ h => h) (fun W hC hd => relObl_intro fun K hK => ?_) (fun v42 => ?_)
  · have HK := Lib.hid hK
    have HC := Lib.hid hC
    clear hK hd hC
    go_simp
    exact HK.out _ _ ⟨_, rfl, HC.out, Below.refl _ _, rfl⟩
  simp only [Act.put, List.setIfInBounds_toArray, List.set_cons_zero, List.set_cons_succ]
  refine wpRel_cons (fun _ _ _ _ _ h => h) (fun W hC hd => relObl_intro fun K hK => ?_) (fun v43 => ?_)
  · have HK := Lib.hid hK
    have HC := Lib.hid hC
    clear hK hd hC
    go_simp
    exact HK.out _ _ ⟨_, rfl, HC.out, Below.refl _ _, rfl⟩
  simp only [Act.put, List.setIfInBounds_toArray, List.set_cons_zero, List.set_cons_succ]
  refine wpRel_cons (fun _ _ _ _ _ h => h) (fun W hC hd => relObl_intro fun K hK => ?_) (fun v44 => ?_)
  · have HK := Lib.hid hK
    have HC := Lib.hid hC
    obtain rfl : v43 = Value.slice ua m uc := hd 3 rfl _ rfl
    clear hK hd hC
    go_simp
    exact HK.out _ _ ⟨_, rfl, HC.out, Below.refl _ _, rfl⟩
  simp only [Act.put, List.setIfInBounds_toArray, List.set_cons_zero, List.set_cons_succ]
  refine wpRel_cons (fun _ _ _ _ _ h => h) (fun W hC hd => relObl_intro fun K hK => ?_) (fun v45 => ?_)
  · have HK := Lib.hid hK
    have HC := Lib.hid hC
    obtain rfl : v44 = Value.int .i64 (m : Int) := hd 4 rfl _ rfl
    clear hK hd hC
    go_simp
    exact HK.out _ _ ⟨_, rfl, HC.out, Below.refl _ _, rfl⟩
  simp only [Act.put, List.setIfInBounds_toArray, List.set_cons_zero, List.set_cons_succ]
  refine wpRel_cons (fun _ _ _ _ _ h => h) (fun W hC hd => relObl_intro fun K hK => ?_) (fun v46 => ?_)
  · have HK := Lib.hid hK
    have HC := Lib.hid hC
    obtain rfl : v42 = Value.slice ua m uc := hd 2 rfl _ rfl
    obtain rfl : v45 = Value.int .i64 (j : Int) := hd 5 rfl _ rfl
    have e := HG.out
    subst e
    clear hK hd hC
    go_simp
    exact HK.out _ _ ⟨_, rfl, HC.out, Below.refl _ _, rfl⟩
  simp only [Act.put, List.setIfInBounds_toArray, List.set_cons_zero, List.set_cons_succ]
  refine wpRel_cons (fun _ _ _ _ _ h => h) (fun W hC hd => relObl_intro fun K hK => ?_) (fun v47 => ?_)
  · have HK := Lib.hid hK
    have HC := Lib.hid hC
    obtain rfl : v46 = Value.pointer (some ⟨g, j * 2, none⟩) := hd 6 rfl _ rfl
    obtain ⟨c0, c1⟩ := HCS.out W hC
    clear hK hd hC
    go_simp
    exact HK.out _ _ ⟨_, rfl, HC.out, Below.refl _ _, rfl⟩
  simp only [Act.put, List.setIfInBounds_toArray, List.set_cons_zero, List.set_cons_succ]
  refine wpRel_cons (fun _ _ _ _ _ h => h) (fun W hC hd => relObl_intro fun K hK => ?_) (fun v48 => ?_)
  · have HK := Lib.hid hK
    have HC := Lib.hid hC
    obtain rfl : v41 = Value.slice au l cu := hd 1 rfl _ rfl
    obtain rfl : v47 = scv s1 h1 := hd 7 rfl _ rfl
    have HA := Lib.hid (HARR.out W (HR5.out.below hC))
    clear hK hd hC
    go_simp
    refine HA.out.mono ?_
    rintro e V5 ⟨k, rfl, hend, b5⟩
    exact HK.out _ _ ⟨_, rfl, blink HC.out b5, b5, k, rfl, hend⟩
  simp only [Act.put, List.setIfInBounds_toArray, List.set_cons_zero, List.set_cons_succ]
  refine wpRel_cons (fun _ _ _ _ hS ⟨B, e, h1, h2⟩ => ⟨B, e, h1, BlkA.below h2 hS⟩) (fun W hC hd => relObl_intro fun K hK => ?_) (fun v13 => ?_)
  · have HK := Lib.hid hK
    have HC := Lib.hid hC
    clear hK hd hC
    go_simp
    refine HK.out _ _ ⟨_, rfl, HC.out.alloc HC.out.size _, (Below.refl _ _).alloc (Nat.le_refl _) _, W.heap.size, rfl, HC.out.size, ?_⟩
    show BlkA _ _ _ (tw t0)
    rw [tw_zero]
    exact BlkA.new rfl _ _
  simp only [Act.put, List.setIfInBounds_toArray, List.set_cons_zero, List.set_cons_succ]
  refine wpRel_nil fun W6 hC hd => ?_
  obtain ⟨k, rfl, hend⟩ := (show ∃ k, v48 = tv (rarr yn ps s1 h1 k) ∧ rend yn ps s1 h1 k from hd 8 _ rfl)
  obtain ⟨Bt, rfl, hBt, bt⟩ := (show ∃ B, v13 = Value.pointer (some ⟨B, 0, none⟩) ∧ w5.heap.size ≤ B ∧ BlkT W6 B t0 from hd 9 _ rfl)
  have HBND : Hid (∀ x : Nat, x < 301 → bitT (rarr yn ps s1 h1 k) sx x = arrB ps (-1) (yn : Int) (lastSc cs).1 (lastSc cs).2 (sx : Int) (x : Int)) := Lib.hid (fun x hx => by
    rw [HLAST.out]
    exact arrB_of (by simpa using seen_arr HOK.out hs1' hh1' hend sx x hsx8 (by omega)))
  have hAO := rarr_ok yn ps s1 h1 hh1' k
  obtain ⟨A, hA⟩ : ∃ A, rarr yn ps s1 h1 k = A := ⟨_, rfl⟩
  rw [hA] at HBND hAO ⊢
  have HAO := Lib.hid hAO
  have HBT := Lib.hid bt
  have hsz6 : w5.heap.size ≤ W6.heap.size := hC.size
  have hT7 : BlkT (W6.setRow Bt (tw A)) Bt A := bt.setRow_same
  have hC7 : Below w5.heap.size w5 (W6.setRow Bt (tw A)) := hC.grown (grown_setRow W6 Bt (tw A)) hsz6 (fun i hi => by cases hi; exact hBt)
  obtain ⟨W7, hW7⟩ : ∃ W, W6.setRow Bt (tw A) = W := ⟨_, rfl⟩
  rw [hW7] at hT7 hC7
  have HW7 := Lib.hid hW7
  have HT7 := Lib.hid hT7
  have HC7 := Lib.hid hC7
  have HTOK : Hid (∀ k, k ≤ m → TOk (tlK A cs k)) := Lib.hid (fun k hk => tlK_ok HAO.out hst8 HSC.out k (by rw [HM.out]; exact hk))
  have HLATE : Hid ((decide ((frst fun h => ((tlK A cs m).getD sx 0).testBit h) < 0) || decide ((frst fun h => ((tlK A cs m).getD sx 0).testBit h) > (px : Int))) = ltB (yn : Int) ps cs sx px) := Lib.hid (by
    have e : (frst fun h => ((tlK A cs m).getD sx 0).testBit h) = frst (ltP (yn : Int) ps cs sx) := by
      unfold frst
      rw [hourTo_congr fun i hi => ?_]
      show bitT (tlK A cs m) sx i = _
      rw [Bool.eq_iff_iff, tlK_bit HAO.out hst8 HSC.out sx i hsx8 m (by rw [HM.out]; exact Nat.le_refl _), HBND.out i hi]
      unfold ltP
      rw [Bool.or_eq_true, decide_eq_true_iff, sc_mem, HM.out]
    rw [e, frst_late _ _ hpx]
    rfl)
  have e := HG.out
  subst e
  clear hd hC hend bt hAO hA hT7 hC7 hW7 HBND HARR HCS hw1
  go_wp2_with (refine wpList_store_row (o := ⟨none, _, _, _, _, _⟩) rfl 87 (.tmp 13) (.tmp 48) rfl Bt (tw A) rfl rfl 87 (tw t0) HBT.out (tw_info HAO.out.len) (by rw [tw_size, tw_size, HAO.out.len, t0_ok.len]) (tw_ones _) ?_; rw [HW7.out])
  go_loopw [51] (fun i wr => ∃ k : Nat, k ≤ m ∧ i = .int .i64 k ∧ BlkT wr Bt (tlK A cs k) ∧ Below w5.heap.size w5 wr) (fun i _ => m - (intOf i).toNat)
  case atStart => exact ⟨0, Nat.zero_le _, rfl, HT7.out, HC7.out⟩
  case round =>
    obtain ⟨k, hk, rfl, hbt, hnx⟩ := hrel
    obtain ⟨wo, rfl⟩ : ∃ W, W = wr := ⟨_, rfl⟩
    have HB := Lib.hid hnx
    have HBTK := Lib.hid hbt
    have HTO0 := Lib.hid (HTOK.out k hk)
    by_cases hlt : k < m
    · have hkl : (k : Int) < (m : Int) := by omega
      have hk0 : (0 : Int) ≤ (k : Int) := by omega
      obtain ⟨p0, p1⟩ := (HGC.out.below hnx) k (by rw [HM.out]; exact hlt)
      obtain ⟨s0, h0, hq, hs0', hh0'⟩ := ok_nats (i := k) hst8 HSC.out (by rw [HM.out]; exact hlt)
      have HNEXT : Hid (tlK A cs (k + 1) = orT (tlK A cs k) (tOf s0 h0)) := Lib.hid (by rw [tlK, hq]; rfl)
      rw [hq] at p0 p1
      simp only at p0 p1
      obtain ⟨T, hT⟩ : ∃ T, tlK A cs k = T := ⟨_, rfl⟩
      rw [hT] at hbt HTO0 HNEXT
      have HTO := HTO0
      have hb8 : Below wo.heap.size wo (wo.alloc (.cells #[.int .i8 (s0 : Int), .int .i16 (h0 : Int)] 37)) := (Below.refl _ _).alloc (Nat.le_refl _) _
      have hx8 : BlkA (wo.alloc (.cells #[.int .i8 (s0 : Int), .int .i16 (h0 : Int)] 37)) wo.heap.size 37 #[.int .i8 (s0 : Int), .int .i16 (h0 : Int)] := BlkA.new rfl _ _
      obtain ⟨W8, hW8⟩ : ∃ W, wo.alloc (.cells #[.int .i8 (s0 : Int), .int .i16 (h0 : Int)] 37) = W := ⟨_, rfl⟩
      rw [hW8] at hb8 hx8
      have HW8 := Lib.hid hW8
      have HX8 := Lib.hid hx8
      have HT8 : Hid (BlkT W8 Bt T) := Lib.hid (BlkA.below hbt hb8)
      have HB8 := Lib.hid (blink hnx hb8)
      clear hq hT hbt hnx hb8 hx8 hW8
      go_wp2_with fail
      rw [HW8.out]
      refine wp_region_relL (fun W => Below W8.heap.size W8 W) (fun W W' => Below W.heap.size W W') 4 [fun u _ => u = tv T, fun u _ => u = scv s0 h0, fun u _ => u = tv (tOf s0 h0), fun u _ => u = tv (orT T (tOf s0 h0))] (by kernel_rfl) (by kernel_rfl) rfl (Below.refl _ _).drew ?_
      simp only [List.take_succ_cons, List.take_zero, List.drop_succ_cons, List.drop_zero]
      refine wpRel_cons (fun _ _ _ _ _ h => h) (fun W hC hd => relObl_intro fun K hK => ?_) (fun v55 => ?_)
      · have HK := Lib.hid hK
        have HC := Lib.hid hC
        have h8 := BlkA.below HT8.out hC
        clear hK hd
        exact wp_load_row 87 (.tmp 13) rfl Bt rfl 87 _ (0, 0) _ h8 (show Try.prog.underlying 87 = some (.array 8 85) by kernel_rfl) rfl (tw_info HTO.out.len) (HK.out _ _ ⟨_, rfl, HC.out, Below.refl _ _, rfl⟩)
      simp only [Act.put, List.setIfInBounds_toArray, List.set_cons_zero, List.set_cons_succ]
      refine wpRel_cons (fun _ _ _ _ _ h => h) (fun W hC hd => relObl_intro fun K hK => ?_) (fun v56 => ?_)
      · have HK := Lib.hid hK
        have HC := Lib.hid hC
        have y0 : W.cell? ⟨wo.heap.size, 0, none⟩ = some (.int .i8 (s0 : Int)) := (HX8.out.below hC).at 0
        have y1 : W.cell? ⟨wo.heap.size, 1, none⟩ = some (.int .i16 (h0 : Int)) := (HX8.out.below hC).at 1
        clear hK hd hC
        go_simp
        exact HK.out _ _ ⟨_, rfl, HC.out, Below.refl _ _, rfl⟩
      simp only [Act.put, List.setIfInBounds_toArray, List.set_cons_zero, List.set_cons_succ]
      refine wpRel_cons (fun _ _ _ _ _ h => h) (fun W hC hd => relObl_intro fun K hK => ?_) (fun v57 => ?_)
      · have HK := Lib.hid hK
        have HC := Lib.hid hC
        obtain rfl : v56 = scv s0 h0 := hd 1 rfl _ rfl
        clear hK hd hC
        go_simp
        refine (itimesOf_any s0 h0 hs0' hh0' W).mono ?_
        rintro e V5 ⟨rfl, b5⟩
        exact HK.out _ _ ⟨_, rfl, blink HC.out b5, b5, rfl⟩
      simp only [Act.put, List.setIfInBounds_toArray, List.set_cons_zero, List.set_cons_succ]
      refine wpRel_cons (fun _ _ _ _ _ h => h) (fun W hC hd => relObl_intro fun K hK => ?_) (fun v58 => ?_)
      · have HK := Lib.hid hK
        have HC := Lib.hid hC
        obtain rfl : v55 = tv T := hd 0 rfl _ rfl
        obtain rfl : v57 = tv (tOf s0 h0) := hd 2 rfl _ rfl
        clear hK hd hC
        go_simp
        refine (itor_any T (tOf s0 h0) HTO.out (tOf_ok s0 h0 hh0') W).mono ?_
        rintro e V5 ⟨rfl, b5⟩
        exact HK.out _ _ ⟨_, rfl, blink HC.out b5, b5, rfl⟩
      simp only [Act.put, List.setIfInBounds_toArray, List.set_cons_zero, List.set_cons_succ]
      refine wpRel_nil fun W9 hC hd => ?_
      obtain rfl : v58 = tv (orT T (tOf s0 h0)) := hd 3 _ rfl
      have hT9 := BlkA.below HT8.out hC
      have HT9 := Lib.hid hT9
      have HOO := Lib.hid (orT_ok HTO.out (tOf_ok s0 h0 hh0'))
      have hTA : BlkT (W9.setRow Bt (tw (orT T (tOf s0 h0)))) Bt (orT T (tOf s0 h0)) := BlkT.setRow_same hT9
      have hc9 := blink HB8.out hC
      have hCA : Below w5.heap.size w5 (W9.setRow Bt (tw (orT T (tOf s0 h0)))) := hc9.grown (grown_setRow W9 Bt _) hc9.size (fun i hi => by cases hi; exact hBt)
      obtain ⟨WA, hWA⟩ : ∃ W, W9.setRow Bt (tw (orT T (tOf s0 h0))) = W := ⟨_, rfl⟩
      rw [hWA] at hTA hCA
      have HWA := Lib.hid hWA
      have HTA := Lib.hid hTA
      have HCA := Lib.hid hCA
      clear hd hC hT9 hTA hc9 hCA hWA p0 p1
      go_wp2_with (refine wpList_store_row (o := ⟨none, _, _, _, _, _⟩) rfl 87 (.tmp 13) (.tmp 58) rfl Bt (tw (orT T (tOf s0 h0))) rfl rfl 87 (tw T) HT9.out (tw_info HOO.out.len) (by rw [tw_size, tw_size, HOO.out.len, HTO.out.len]) (tw_ones _) ?_; rw [HWA.out])
      go_roundw
      case rel => exact ⟨k + 1, by omega, by go_num, by rw [HNEXT.out]; exact HTA.out, HCA.out⟩
      case measure => simp [intOf]; omega
    · have hk' : k = m := by omega
      subst hk'
      obtain ⟨T, hT⟩ : ∃ T, tlK A cs k = T := ⟨_, rfl⟩
      rw [hT] at hbt HTO0 HLATE
      obtain ⟨c0, c1, c2, c3, c4⟩ := BlkT.cells hbt sx (by rw [HTO0.out.len]; exact hsx8)
      obtain ⟨N, hN⟩ : ∃ N, T.getD sx 0 = N := ⟨_, rfl⟩
      rw [hN] at c0 c1 c2 c3 c4 HLATE
      have hsx0 : (0 : Int) ≤ (sx : Int) := by omega
      have hsx88 : (sx : Int) < 8 := by omega
      have HFST := Lib.hid (ifirst_any N wo)
      obtain ⟨e, he⟩ : ∃ e, (frst fun h => N.testBit h) = e := ⟨_, rfl⟩
      rw [he] at HLATE HFST
      clear hT hbt hnx hN he hlt
      go_wp2_with fail
      refine HFST.out.mono ?_
      rintro _ w9 ⟨rfl, b9⟩
      have HB9 : Hid (Below w.heap.size w w9) := Lib.hid (blink (blink HB5.out HB.out) b9)
      clear b9 HFST c0 c1 c2 c3 c4
      by_cases g1 : e < 0
      · have HF : Hid (ltB (yn : Int) ps cs sx px = true) := Lib.hid (by rw [← HLATE.out, decide_eq_true g1]; rfl)
        have t1 : decide (e < 0) = true := decide_eq_true g1
        clear g1
        go_wp2_with fail
        go_ret2
        exact ⟨ret_bc (by rw [HRR.out, HF.out]) HCC.out.symm, HB9.out⟩
      · have t1 : decide (e < 0) = false := decide_eq_false g1
        obtain ⟨bb, hbb⟩ : ∃ bb, decide (e > (px : Int)) = bb := ⟨_, rfl⟩
        have HF : Hid (ltB (yn : Int) ps cs sx px = bb) := Lib.hid (by rw [← HLATE.out, decide_eq_false g1, hbb]; rfl)
        have hbb' : decide ((px : Int) < e) = bb := hbb
        clear g1
        go_wp2_with fail
        go_ret2
        exact ⟨ret_bc (by rw [HRR.out, HF.out]) HCC.out.symm, HB9.out⟩
end Go.Proofs.Ytloelbaaolhlhaa
/-
  The walk of FnExactIsLate: program and model answer the same at every argument; neither writes into its arguments, and what is answered lies in new memory.
-/
namespace Go.Proofs.Ytloelbaaolhlhaa.fnExactIsLate
open Go Go.RowKit
set_option linter.unusedVariables false

set_option maxHeartbeats 16000000 in
set_option maxRecDepth 100000 in
theorem walk (st0 sy0 : Int) (a0 : Option Addr) (len0 cap0 : Nat) (ps0 : List Lan) (a1 : Option Addr) (len1 cap1 : Nat) (ps1 : List (Int × Int)) (a2 : Int) (a3 : Int) (w : World) (hh0 : (IsRowLa w a0 len0 cap0 ps0 ∧ FitsLa ps0) ∧ (-128 ≤ st0 ∧ st0 ≤ 127) ∧ (-32768 ≤ sy0 ∧ sy0 ≤ 32767)) (hh1 : IsRowSc w a1 len1 cap1 ps1 ∧ FitsSc ps1) (hw2 : (Lit.int .i64 a2).wf = true) (hw3 : (Lit.int .i64 a3).wf = true) :
    Calls Try.prog 5 #[.agg #[.int .i8 st0, .int .i16 sy0, .slice a0 len0 cap0], .slice a1 len1 cap1, .int .i64 a2, .int .i64 a3] w fun e w' => e = .returned (.bool true) ∧ Below w.heap.size w w' := by
  obtain ⟨⟨hr0, hf0⟩, hst0, hsy0⟩ := hh0
  have HFQ0 := Lib.hid hf0
  have HST0 := Lib.hid hst0
  have HSY0 := Lib.hid hsy0
  have HN0 := Lib.hid hr0.len_ok
  clear hf0 hst0 hsy0
  obtain ⟨hr1, hf1⟩ := hh1
  have HF1 := Lib.hid hf1
  have HN1 := Lib.hid hr1.len_ok
  clear hf1
  by_cases hm0 : 0 ≤ 1048576 - (len0 : Int)
  rotate_left
  · have t0 : decide (1048576 - (len0 : Int) < 0) = true := decide_eq_true (by omega)
    go_enter Try.func5, Try.ntmps5
    go_wp2_with fail
    have b1 : Below w.heap.size w (w.alloc (.cells #[.int .i8 st0, .int .i16 sy0, .slice a0 len0 cap0] 26)) := ((Below.refl _ _).alloc (Nat.le_refl _) _)
    have BX0 : BlkA (w.alloc (.cells #[.int .i8 st0, .int .i16 sy0, .slice a0 len0 cap0] 26)) (w.heap.size) 26 #[.int .i8 st0, .int .i16 sy0, .slice a0 len0 cap0] := (BlkA.new rfl _ _)
    generalize (w.alloc (.cells #[.int .i8 st0, .int .i16 sy0, .slice a0 len0 cap0] 26)) = w1 at b1 BX0 ⊢
    have c1 := b1
    have hs1 : w.heap.size ≤ w1.heap.size := b1.size
    have hb0 : w.heap.size < w1.heap.size := BX0.lt
    have va0_0_1 : w1.cell? ⟨w.heap.size, 0, none⟩ = some (.int .i8 st0) := (BX0).at 0
    have va0_1_1 : w1.cell? ⟨w.heap.size, 1, none⟩ = some (.int .i16 sy0) := (BX0).at 1
    have va0_2_1 : w1.cell? ⟨w.heap.size, 2, none⟩ = some (.slice a0 len0 cap0) := (BX0).at 2
    have la0_1 : w.heap.size < w1.heap.size := (BX0).lt
    go_wp2_with fail
    refine (szNet_big st0 sy0 a0 len0 cap0 1048576 (by omega) (by omega) (by omega) HN0.out _).mono ?_
    rintro e w2 ⟨rfl, b2⟩
    have c2 : Below w.heap.size w w2 := blink c1 b2
    have hs2 : w1.heap.size ≤ w2.heap.size := b2.size
    go_wp2_with fail
    go_ret
    exact ⟨rfl, c2⟩
  have t0 : decide (1048576 - (len0 : Int) < 0) = false := decide_eq_false (by omega)
  by_cases hm1 : 0 ≤ (1048576 - (len0 : Int)) - (len1 : Int)
  rotate_left
  · have t1 : decide ((1048576 - (len0 : Int)) - (len1 : Int) < 0) = true := decide_eq_true (by omega)
    go_enter Try.func5, Try.ntmps5
    go_wp2_with fail
    have b1 : Below w.heap.size w (w.alloc (.cells #[.int .i8 st0, .int .i16 sy0, .slice a0 len0 cap0] 26)) := ((Below.refl _ _).alloc (Nat.le_refl _) _)
    have BX0 : BlkA (w.alloc (.cells #[.int .i8 st0, .int .i16 sy0, .slice a0 len0 cap0] 26)) (w.heap.size) 26 #[.int .i8 st0, .int .i16 sy0, .slice a0 len0 cap0] := (BlkA.new rfl _ _)
    generalize (w.alloc (.cells #[.int .i8 st0, .int .i16 sy0, .slice a0 len0 cap0] 26)) = w1 at b1 BX0 ⊢
    have c1 := b1
    have hs1 : w.heap.size ≤ w1.heap.size := b1.size
    have hb0 : w.heap.size < w1.heap.size := BX0.lt
    have va0_0_1 : w1.cell? ⟨w.heap.size, 0, none⟩ = some (.int .i8 st0) := (BX0).at 0
    have va0_1_1 : w1.cell? ⟨w.heap.size, 1, none⟩ = some (.int .i16 sy0) := (BX0).at 1
    have va0_2_1 : w1.cell? ⟨w.heap.size, 2, none⟩ = some (.slice a0 len0 cap0) := (BX0).at 2
    have la0_1 : w.heap.size < w1.heap.size := (BX0).lt
    go_wp2_with fail
    refine (szNet_fit st0 sy0 a0 len0 cap0 1048576 (by omega) (by omega) _).mono ?_
    rintro e w2 ⟨rfl, b2⟩
    have c2 : Below w.heap.size w w2 := blink c1 b2
    have hs2 : w1.heap.size ≤ w2.heap.size := b2.size
    go_wp2_with fail
    refine (szScanS_big a1 len1 cap1 (1048576 - (len0 : Int)) (by omega) (by omega) (by omega) HN1.out _).mono ?_
    rintro e we ⟨rfl, rfl⟩
    go_wp2_with fail
    go_ret
    exact ⟨rfl, c2⟩
  have t1 : decide ((1048576 - (len0 : Int)) - (len1 : Int) < 0) = false := decide_eq_false (by omega)
  have hlq0 : ps0.length = len0 := hr0.len_eq
  have HX0 : Hid (ps0.length ≤ 1048576) := Lib.hid (by omega)
  have HL0 : Hid (len0 ≤ 1048576) := Lib.hid (by omega)
  have hxb0 : ps0.length ≤ 1048576 := HX0.out
  clear hlq0
  have HF0 : Hid (FitN st0 sy0 ps0) := Lib.hid ⟨HST0.out, HSY0.out, HFQ0.out, HX0.out⟩
  have hlq1 : ps1.length = len1 := hr1.len_eq
  have HX1 : Hid (ps1.length ≤ 1048576) := Lib.hid (by omega)
  have HL1 : Hid (len1 ≤ 1048576) := Lib.hid (by omega)
  have hxb1 : ps1.length ≤ 1048576 := HX1.out
  clear hlq1
  go_enter Try.func5, Try.ntmps5
  go_wp2_with fail
  have b1 : Below w.heap.size w (w.alloc (.cells #[.int .i8 st0, .int .i16 sy0, .slice a0 len0 cap0] 26)) := ((Below.refl _ _).alloc (Nat.le_refl _) _)
  have BX0 : BlkA (w.alloc (.cells #[.int .i8 st0, .int .i16 sy0, .slice a0 len0 cap0] 26)) (w.heap.size) 26 #[.int .i8 st0, .int .i16 sy0, .slice a0 len0 cap0] := (BlkA.new rfl _ _)
  generalize (w.alloc (.cells #[.int .i8 st0, .int .i16 sy0, .slice a0 len0 cap0] 26)) = w1 at b1 BX0 ⊢
  have c1 := b1
  have hs1 : w.heap.size ≤ w1.heap.size := b1.size
  have hb0 : w.heap.size < w1.heap.size := BX0.lt
  have va0_0_1 : w1.cell? ⟨w.heap.size, 0, none⟩ = some (.int .i8 st0) := (BX0).at 0
  have va0_1_1 : w1.cell? ⟨w.heap.size, 1, none⟩ = some (.int .i16 sy0) := (BX0).at 1
  have va0_2_1 : w1.cell? ⟨w.heap.size, 2, none⟩ = some (.slice a0 len0 cap0) := (BX0).at 2
  have la0_1 : w.heap.size < w1.heap.size := (BX0).lt
  go_wp2_with fail
  refine (szNet_fit st0 sy0 a0 len0 cap0 1048576 (by omega) (by omega) _).mono ?_
  rintro e w2 ⟨rfl, b2⟩
  have c2 : Below w.heap.size w w2 := blink c1 b2
  have hs2 : w1.heap.size ≤ w2.heap.size := b2.size
  go_wp2_with fail
  refine (szScanS_fit a1 len1 cap1 (1048576 - (len0 : Int)) (by omega) (by omega) _).mono ?_
  rintro e we ⟨rfl, rfl⟩
  have va0_0_2 : w2.cell? ⟨w.heap.size, 0, none⟩ = some (.int .i8 st0) := ((BX0).below b2).at 0
  have va0_1_2 : w2.cell? ⟨w.heap.size, 1, none⟩ = some (.int .i16 sy0) := ((BX0).below b2).at 1
  have va0_2_2 : w2.cell? ⟨w.heap.size, 2, none⟩ = some (.slice a0 len0 cap0) := ((BX0).below b2).at 2
  have la0_2 : w.heap.size < w2.heap.size := ((BX0).below b2).lt
  go_wp2_with fail
  refine (toNet_any st0 sy0 a0 len0 cap0 ps0 _ (hr0.below c2) HL0.out).mono ?_
  rintro e w3 ⟨g3, rfl, o3, b3⟩
  have c3 : Below w.heap.size w w3 := blink c2 b3
  have hs3 : w2.heap.size ≤ w3.heap.size := b3.size
  have lo3 : Hid (∀ k, Value.ownBlock (.slice (some ⟨g3, 0, none⟩) len0 len0) = some k → w2.heap.size ≤ k ∧ k < w3.heap.size) := Lib.hid o3.block
  go_wp2_with fail
  refine (toScanS_any a1 len1 cap1 ps1 _ (hr1.below c3) HL1.out).mono ?_
  rintro e w4 ⟨rfl, o4, b4⟩
  have c4 : Below w.heap.size w w4 := blink c3 b4
  have hs4 : w3.heap.size ≤ w4.heap.size := b4.size
  go_wp2_with fail
  refine (slt_any _ _ _ _ ps0 ps1 a2 a3 _ HF0.out HF1.out ((o3).below b4).reads (o4).reads HX1.out).mono ?_
  rintro e w5 ⟨rfl, b5⟩
  have c5 : Below w.heap.size w w5 := blink c4 b5
  have hs5 : w4.heap.size ≤ w5.heap.size := b5.size
  have va0_0_5 : w5.cell? ⟨w.heap.size, 0, none⟩ = some (.int .i8 st0) := (((((BX0).below b2).below b3).below b4).below b5).at 0
  have va0_1_5 : w5.cell? ⟨w.heap.size, 1, none⟩ = some (.int .i16 sy0) := (((((BX0).below b2).below b3).below b4).below b5).at 1
  have va0_2_5 : w5.cell? ⟨w.heap.size, 2, none⟩ = some (.slice a0 len0 cap0) := (((((BX0).below b2).below b3).below b4).below b5).at 2
  have la0_5 : w.heap.size < w5.heap.size := (((((BX0).below b2).below b3).below b4).below b5).lt
  go_wp2_with fail
  refine (toNet_any st0 sy0 a0 len0 cap0 ps0 _ (hr0.below c5) HL0.out).mono ?_
  rintro e w6 ⟨g6, rfl, o6, b6⟩
  have c6 : Below w.heap.size w w6 := blink c5 b6
  have hs6 : w5.heap.size ≤ w6.heap.size := b6.size
  have lo6 : Hid (∀ k, Value.ownBlock (.slice (some ⟨g6, 0, none⟩) len0 len0) = some k → w5.heap.size ≤ k ∧ k < w6.heap.size) := Lib.hid o6.block
  have va0_0_6 : w6.cell? ⟨w.heap.size, 0, none⟩ = some (.int .i8 st0) := ((((((BX0).below b2).below b3).below b4).below b5).below b6).at 0
  have va0_1_6 : w6.cell? ⟨w.heap.size, 1, none⟩ = some (.int .i16 sy0) := ((((((BX0).below b2).below b3).below b4).below b5).below b6).at 1
  have va0_2_6 : w6.cell? ⟨w.heap.size, 2, none⟩ = some (.slice a0 len0 cap0) := ((((((BX0).below b2).below b3).below b4).below b5).below b6).at 2
  have la0_6 : w.heap.size < w6.heap.size := ((((((BX0).below b2).below b3).below b4).below b5).below b6).lt
  go_wp2_with fail
  have b7 : Below w6.heap.size w6 (w6.alloc (.cells #[.int .i8 st0, .int .i16 sy0, .slice (some ⟨g6, 0, none⟩) len0 len0] 35)) := (Below.refl _ _).alloc (Nat.le_refl _) _
  have BY0 : BlkA (w6.alloc (.cells #[.int .i8 st0, .int .i16 sy0, .slice (some ⟨g6, 0, none⟩) len0 len0] 35)) w6.heap.size 35 #[.int .i8 st0, .int .i16 sy0, .slice (some ⟨g6, 0, none⟩) len0 len0] := BlkA.new rfl _ _
  generalize (w6.alloc (.cells #[.int .i8 st0, .int .i16 sy0, .slice (some ⟨g6, 0, none⟩) len0 len0] 35)) = w7 at b7 BY0 ⊢
  have c7 : Below w.heap.size w w7 := blink c6 b7
  have hs7 : w6.heap.size ≤ w7.heap.size := b7.size
  have hx0 : w6.heap.size < w7.heap.size := BY0.lt
  go_wp2_with fail
  refine (toScanS_any a1 len1 cap1 ps1 _ (hr1.below c7) HL1.out).mono ?_
  rintro e w8 ⟨rfl, o8, b8⟩
  have c8 : Below w.heap.size w w8 := blink c7 b8
  have hs8 : w7.heap.size ≤ w8.heap.size := b8.size
  have vx0_0_8 : w8.cell? ⟨w6.heap.size, 0, none⟩ = some (.int .i8 st0) := ((BY0).below b8).at 0
  have vx0_1_8 : w8.cell? ⟨w6.heap.size, 1, none⟩ = some (.int .i16 sy0) := ((BY0).below b8).at 1
  have vx0_2_8 : w8.cell? ⟨w6.heap.size, 2, none⟩ = some (.slice (some ⟨g6, 0, none⟩) len0 len0) := ((BY0).below b8).at 2
  have lx0_8 : w6.heap.size < w8.heap.size := ((BY0).below b8).lt
  go_wp2_with fail
  refine (ilt_any _ _ _ _ ps0 ps1 a2 a3 _ HF0.out HF1.out (((o6).below b7).below b8).reads (o8).reads HX1.out).mono ?_
  rintro e w9 ⟨rfl, b9⟩
  have c9 : Below w.heap.size w w9 := blink c8 b9
  have hs9 : w8.heap.size ≤ w9.heap.size := b9.size
  have CD9 : Below w.heap.size w w9.drew := Below.drew c9
  have BD9 : Below w9.heap.size w9 w9.drew := (Below.refl _ _).drew
  have SD9 : w9.drew.cell? ⟨w.heap.size, 0, none⟩ = some (.int .i8 st0) ∧ w9.drew.cell? ⟨w.heap.size, 1, none⟩ = some (.int .i16 sy0) ∧ w9.drew.cell? ⟨w.heap.size, 2, none⟩ = some (.slice a0 len0 cap0) ∧ w9.drew.cell? ⟨w6.heap.size, 0, none⟩ = some (.int .i8 st0) ∧ w9.drew.cell? ⟨w6.heap.size, 1, none⟩ = some (.int .i16 sy0) ∧ w9.drew.cell? ⟨w6.heap.size, 2, none⟩ = some (.slice (some ⟨g6, 0, none⟩) len0 len0) := ⟨cbl BD9 ((((((((((BX0).below b2).below b3).below b4).below b5).below b6).below b7).below b8).below b9).at 0), cbl BD9 ((((((((((BX0).below b2).below b3).below b4).below b5).below b6).below b7).below b8).below b9).at 1), cbl BD9 ((((((((((BX0).below b2).below b3).below b4).below b5).below b6).below b7).below b8).below b9).at 2), cbl BD9 ((((BY0).below b8).below b9).at 0), cbl BD9 ((((BY0).below b8).below b9).at 1), cbl BD9 ((((BY0).below b8).below b9).at 2)⟩
  go_wp2_with fail
  go_region_held3 (fun v => v.cell? ⟨w.heap.size, 0, none⟩ = some (.int .i8 st0) ∧ v.cell? ⟨w.heap.size, 1, none⟩ = some (.int .i16 sy0) ∧ v.cell? ⟨w.heap.size, 2, none⟩ = some (.slice a0 len0 cap0) ∧ v.cell? ⟨w6.heap.size, 0, none⟩ = some (.int .i8 st0) ∧ v.cell? ⟨w6.heap.size, 1, none⟩ = some (.int .i16 sy0) ∧ v.cell? ⟨w6.heap.size, 2, none⟩ = some (.slice (some ⟨g6, 0, none⟩) len0 len0)) (first | exact zS11 | exact zS10 | exact SD9) (first | (go_at_call 16; (with_reducible refine (toNet_any st0 sy0 a0 len0 cap0 ps0 _ (hr0.below CD9) HL0.out).mono ?_); rintro e w10 ⟨g10, rfl, o10, d10⟩; have b10 : Below w9.heap.size w9 w10 := BD9.trans (d10.mono (Nat.le_refl _)); have zS10 : w10.cell? ⟨w.heap.size, 0, none⟩ = some (.int .i8 st0) ∧ w10.cell? ⟨w.heap.size, 1, none⟩ = some (.int .i16 sy0) ∧ w10.cell? ⟨w.heap.size, 2, none⟩ = some (.slice a0 len0 cap0) ∧ w10.cell? ⟨w6.heap.size, 0, none⟩ = some (.int .i8 st0) ∧ w10.cell? ⟨w6.heap.size, 1, none⟩ = some (.int .i16 sy0) ∧ w10.cell? ⟨w6.heap.size, 2, none⟩ = some (.slice (some ⟨g6, 0, none⟩) len0 len0) := ⟨cbl d10 SD9.1, cbl d10 SD9.2.1, cbl d10 SD9.2.2.1, cbl d10 SD9.2.2.2.1, cbl d10 SD9.2.2.2.2.1, cbl d10 SD9.2.2.2.2.2⟩) | (go_at_call 20; (with_reducible refine (eqNet_eq st0 sy0 _ _ ps0 _ ((((((o6).below b7).below b8).below b9).below BD9).below d10).reads o10.reads HX0.out).mono ?_); rintro e w11 ⟨rfl, b11⟩; have zS11 : w11.cell? ⟨w.heap.size, 0, none⟩ = some (.int .i8 st0) ∧ w11.cell? ⟨w.heap.size, 1, none⟩ = some (.int .i16 sy0) ∧ w11.cell? ⟨w.heap.size, 2, none⟩ = some (.slice a0 len0 cap0) ∧ w11.cell? ⟨w6.heap.size, 0, none⟩ = some (.int .i8 st0) ∧ w11.cell? ⟨w6.heap.size, 1, none⟩ = some (.int .i16 sy0) ∧ w11.cell? ⟨w6.heap.size, 2, none⟩ = some (.slice (some ⟨g6, 0, none⟩) len0 len0) := ⟨cbl b11 zS10.1, cbl b11 zS10.2.1, cbl b11 zS10.2.2.1, cbl b11 zS10.2.2.2.1, cbl b11 zS10.2.2.2.2.1, cbl b11 zS10.2.2.2.2.2⟩))
  have c10 : Below w.heap.size w w10 := blink c9 b10
  have hs10 : w9.heap.size ≤ w10.heap.size := b10.size
  have c11 : Below w.heap.size w w11 := blink c10 b11
  have hs11 : w10.heap.size ≤ w11.heap.size := b11.size
  clear zS10 zS11 SD9 CD9 BD9
  go_wp2_with fail
  refine (toScanS_any a1 len1 cap1 ps1 _ (hr1.below c11) HL1.out).mono ?_
  rintro e w12 ⟨rfl, o12, b12⟩
  have c12 : Below w.heap.size w w12 := blink c11 b12
  have hs12 : w11.heap.size ≤ w12.heap.size := b12.size
  go_wp2_with fail
  refine (eqScanS_eq _ _ ps1 _ (((((o8).below b9).below b10).below b11).below b12).reads (o12).reads (HX1.out)).mono ?_
  rintro e w13 ⟨rfl, b13⟩
  have c13 : Below w.heap.size w w13 := blink c12 b13
  have hs13 : w12.heap.size ≤ w13.heap.size := b13.size
  go_wp2_with fail
  go_ret
  exact ⟨rfl, c13⟩
end Go.Proofs.Ytloelbaaolhlhaa.fnExactIsLate
namespace Go.Proofs.Ytloelbaaolhlhaa.fnExactIsLate
open Go.ChangeShapes Go.WideShapes Go.ChangeAt Go.RowKit
open Go.ChangeMaps (open_string shut_string)
set_option linter.unusedVariables false

theorem own : ownKnob Try.prog.godebug = none := by kernel_rfl
theorem laidOut : laidOutB Try.prog = true := by kernel_rfl

set_option maxHeartbeats 1000000 in
set_option maxRecDepth 100000 in
theorem lifted (os : Os) (started : os.Started) (H : Type) (enc : TypeId × Value → H) :
    ReturnsInHanded {} Try.checked os 5 .any (Rows.fnExactIsLateSpec.pre6 enc Try.prog Try.f5 Rows.fnExactIsLateRow.domain false) (Rows.fnExactIsLateSpec.post enc Try.prog Try.f5 false true false false) := by
  refine returnsInHanded_of_change (C := Try.checked) own started (by kernel_rfl) Try.func5
    (ChangeSpec.witness6 (enc := enc) (C := Try.checked) false ⟨#[], #[.agg #[.int .i8 0, .int .i16 0, .slice none 0 0], .slice none 0 0, .int .i64 0, .int .i64 0], []⟩ 8 (by kernel_rfl) (by kernel_rfl) (by kernel_rfl) (by kernel_rfl)) ?_
  intro W base args ds gs before hval0 hW hcnd _
  have hval : ∀ (j : Nat) t v, Try.f5.params[j]? = some t → args[j]? = some v → Value.okWide Try.prog W .any base t v := hval0
  have hW' := hW
  obtain ⟨p, q, hA0, hV, rfl, hfz, hnd⟩ := hW
  have hA : DataW.TrodAll enc Try.prog W 0 (fun _ => true) true Try.f5.params.toList args.toList ds p := hA0
  rw [Try.params5] at hA hval
  obtain ⟨v0, vs0, d0, ds0, p0, q0, hargs, rfl, rfl, h0, r0⟩ := trodAll_cons hA
  obtain ⟨v1, vs1, d1, ds1, p1, q1, rfl, rfl, rfl, h1, r1⟩ := trodAll_cons r0
  obtain ⟨v2, vs2, d2, ds2, p2, q2, rfl, rfl, rfl, h2, r2⟩ := trodAll_cons r1
  obtain ⟨v3, vs3, d3, ds3, p3, q3, rfl, rfl, rfl, h3, r3⟩ := trodAll_cons r2
  obtain ⟨rfl, rfl, rfl⟩ := trodAll_nil r3
  obtain rfl : args = #[v0, v1, v2, v3] := by cases args; simp_all
  obtain ⟨rfl, rfl⟩ := trodVars_none hV
  have k0 := h0
  have lt0 : ∀ x ∈ p0, x.block < W.heap.size := by obtain ⟨m, hm⟩ := k0; exact DataW.trod_lt m _ _ _ hm
  obtain ⟨u00, u01, u02, y00, y01, y02, n0, rfl, rfl, rfl, t00, t01, t02⟩ := Go.Joins.open_agg3 Try.underlying26 (by kernel_rfl) (by kernel_rfl) (hval 0 26 v0 rfl rfl) h0
  obtain ⟨x00, e00, _, wf00⟩ := DataW.trod_int Try.underlying22 t00
  simp only [List.cons.injEq, and_true] at e00
  subst e00
  obtain ⟨x01, e01, _, wf01⟩ := DataW.trod_int Try.underlying23 t01
  simp only [List.cons.injEq, and_true] at e01
  subst e01
  obtain ⟨a0, len0, cap0, z0, rfl, w0⟩ := openNetLanes t02
  have wn0 : (-128 ≤ x00 ∧ x00 ≤ 127) ∧ (-32768 ≤ x01 ∧ x01 ≤ 32767) := by
    simp [Lit.wf, IntKind.min, IntKind.max, IntKind.signed, IntKind.bits] at wf00 wf01
    omega
  obtain ⟨a1, len1, cap1, rfl⟩ := okWide_slice Try.underlying51 (hval 1 51 v1 rfl rfl)
  have k1 := h1
  have lt1 : ∀ x ∈ p1, x.block < W.heap.size := by obtain ⟨m, hm⟩ := k1; exact DataW.trod_lt m _ _ _ hm
  obtain ⟨fuel1, hf1⟩ := h1
  obtain ⟨z1, w1⟩ := openScan hf1
  obtain ⟨a2, rfl, rfl, rfl, w2⟩ := open_int Try.underlying2 (hval 2 2 v2 rfl rfl) h2
  obtain ⟨a3, rfl, rfl, rfl, w3⟩ := open_int Try.underlying2 (hval 3 2 v3 rfl rfl) h3
  clear hA0 hval0
  refine (walk (w := W) x00 x01 a0 len0 cap0 z0 a1 len1 cap1 z1 a2 a3 ⟨w0, wn0⟩ w1 w2 w3).mono fun e W' ⟨he, bel⟩ => ?_
  subst he
  exact ⟨_, rfl, _, _, _, [], _, [], hW', trodAll_mk1 (shut_bool Try.underlying4 _), (trodAll_cons_mk (Below.trod laidOut (by kernel_rfl) (of_decide_eq_true (by kernel_rfl)) k0 bel lt0) (trodAll_cons_mk (Below.trod laidOut (by kernel_rfl) (of_decide_eq_true (by kernel_rfl)) k1 bel lt1) (trodAll_cons_mk (shut_int Try.underlying2 w2) (trodAll_cons_mk (shut_int Try.underlying2 w3) trodAll_mk0)))), rfl, bel.frame _, fun h => by cases h⟩

theorem over : Rows.fnExactIsLateRow.holds Try.pinned (OpenSpec.ofChange Rows.fnExactIsLateSpec) :=
  OpenClaim.holds_of_wide 5 Try.f5 rfl rfl rfl rfl rfl rfl rfl ⟨rfl, rfl, rfl, rfl, rfl⟩ rfl rfl rfl rfl rfl (by kernel_rfl) Try.func5 (by kernel_rfl)
    (of_decide_eq_true (by kernel_rfl)) (by unfold Func.isWrapper; first | (rw [if_pos (by decide +kernel)]; kernel_rfl) | (rw [if_neg (by decide +kernel)]; exact ⟨rfl, rfl⟩))
    (fun os started H enc _ => lifted os started H enc)

theorem proved : Rows.FnExactIsLateSaid := over
#print axioms proved
end Go.Proofs.Ytloelbaaolhlhaa.fnExactIsLate
