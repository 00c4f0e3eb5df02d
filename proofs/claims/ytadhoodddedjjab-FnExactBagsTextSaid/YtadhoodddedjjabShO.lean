/-
  Contracts of the copies: spec.l00Own, spec.l04Own, slices.Clone, impl.copied.
-/
import Derived.Test.YtadhoodddedjjabShP
import Derived.Laws.AppendOwnNone
import Derived.Maps.AppendAt
import Derived.Lib.SliceRun
namespace Go.Proofs.Ytadhoodddedjjab
open Go Go.RowKit
set_option linter.unusedVariables false

/-- A result that is one slice, the call's own. -/
def RetOwn (w : World) (xs : List Int) (e : Ending) (w' : World) : Prop := ∃ v, e = .returned v ∧ OwnI w.heap.size w' v xs ∧ Below w.heap.size w w'

set_option maxHeartbeats 2000000 in
set_option maxRecDepth 100000 in
theorem sown_any (v : Value) (xs : List Int) (w : World) (hv : RowAt w v xs) (hx : xs.length ≤ 1048576) :
    Calls Try.prog 60 #[v] w (RetOwn w xs) := by
  obtain ⟨i0, hi, hz0, hz1, hz2⟩ := info_parts info_i64
  have HO : Hid ((w.alloc (.cells #[] 2)).ownsRow w.heap.size 2 1 (.slice (some ⟨w.heap.size, 0, none⟩) 0 0) 0 []) := Lib.hid (World.ownsRow_made w #[] 0 (Nat.le_refl _) (Nat.zero_le _) rfl)
  have HB : Hid (Below w.heap.size w (w.alloc (.cells #[] 2))) := Lib.hid ((Below.refl _ _).alloc (Nat.le_refl _) _)
  rcases hv with ⟨rfl, rfl⟩ | ⟨b, cap, rfl, h1, h2, h3, hc⟩
  · go_enter Try.func60, Try.ntmps60
    go_wp2_with (at_builtin; refine wpList_append_own_none rfl _ _ 52 rfl w.heap.size 2 i0 1 Try.underlying52 hi _ 0 [] rfl HO.out rfl ?_)
    go_ret
    exact ⟨_, rfl, HO.out, HB.out⟩
  · have hnews : ∀ j u, (xs.map (Value.int .i64))[j]? = some u → (w.alloc (.cells #[] 2)).cell? ((⟨b, 0, none⟩ : Addr).add j) = some u := by
      intro j u hj
      have hjl : j < xs.length := by
        have := (List.getElem?_eq_some_iff.1 hj).1
        simpa using this
      rw [addr_add, Nat.zero_add]
      rw [(hc.below HB.out) j hjl]
      simp [hjl] at hj
      simp [List.getD, hjl, hj]
    have HN := Lib.hid hnews
    clear hnews hc
    go_enter Try.func60, Try.ntmps60
    go_wp2_with (at_builtin; refine wpList_append_own _ rfl _ _ 52 rfl w.heap.size 2 i0 (.int .i64 0) 1 8 Try.underlying52 hi hz0 hz1 hz2 rfl (by decide) _ _ _ rfl HO.out ⟨b, 0, none⟩ xs.length cap (xs.map (Value.int .i64)) rfl (by simp) HN.out (ints_oneCell .i64 xs) (by unfold maxLen; omega) (by omega) (by simp) ?_)
    intro v' w3 hown' hgrow _
    have HO' : Hid (OwnI w.heap.size w3 v' xs) := Lib.hid (by simpa [OwnI] using hown')
    have HB' : Hid (Below w.heap.size w w3) := Lib.hid (HB.out.grown hgrow (by simp) (fun j hj => by simp [Value.ownBlock] at hj; omega))
    clear hown' hgrow
    go_wp2
    go_ret
    exact ⟨_, rfl, HO'.out, HB'.out⟩

set_option maxHeartbeats 2000000 in
set_option maxRecDepth 100000 in
theorem clone_any (v : Value) (xs : List Int) (w : World) (hv : RowAt w v xs) (hx : xs.length ≤ 1048576) :
    Calls Try.prog 62 #[v] w (RetOwn w xs) := by
  obtain ⟨i0, hi, hz0, hz1, hz2⟩ := info_parts info_i64
  have HO : Hid ((w.alloc (.cells #[] 2)).ownsRow w.heap.size 2 1 (.slice (some ⟨w.heap.size, 0, none⟩) 0 0) 0 []) := Lib.hid (World.ownsRow_made w #[] 0 (Nat.le_refl _) (Nat.zero_le _) rfl)
  have HB : Hid (Below w.heap.size w (w.alloc (.cells #[] 2))) := Lib.hid ((Below.refl _ _).alloc (Nat.le_refl _) _)
  rcases hv with ⟨rfl, rfl⟩ | ⟨b, cap, rfl, h1, h2, h3, hc⟩
  · have hq := fun (wx : World) => Lib.run_eql_slice_nil (P := Try.prog) wx 52 2 none 0 0 0 0 Try.underlying52
    go_enter Try.func62, Try.ntmps62
    go_wp2
    go_ret
    exact ⟨_, rfl, World.ownsRow_nil _ _ _ _, Below.refl _ _⟩
  · have hnews : ∀ j u, (xs.map (Value.int .i64))[j]? = some u → (w.alloc (.cells #[] 2)).cell? ((⟨b, 0, none⟩ : Addr).add j) = some u := by
      intro j u hj
      have hjl : j < xs.length := by
        have := (List.getElem?_eq_some_iff.1 hj).1
        simpa using this
      rw [addr_add, Nat.zero_add]
      rw [(hc.below HB.out) j hjl]
      simp [hjl] at hj
      simp [List.getD, hjl, hj]
    have HN := Lib.hid hnews
    have hq := fun (wx : World) => Lib.run_eql_slice_nil (P := Try.prog) wx 52 2 (some ⟨b, 0, none⟩) xs.length cap 0 0 Try.underlying52
    clear hnews hc
    go_enter Try.func62, Try.ntmps62
    go_wp2_with (at_builtin; refine wpList_append_own _ rfl _ _ 52 rfl w.heap.size 2 i0 (.int .i64 0) 1 8 Try.underlying52 hi hz0 hz1 hz2 rfl (by decide) _ _ _ rfl HO.out ⟨b, 0, none⟩ xs.length cap (xs.map (Value.int .i64)) rfl (by simp) HN.out (ints_oneCell .i64 xs) (by unfold maxLen; omega) (by omega) (by simp) ?_)
    intro v' w3 hown' hgrow _
    have HO' : Hid (OwnI w.heap.size w3 v' xs) := Lib.hid (by simpa [OwnI] using hown')
    have HB' : Hid (Below w.heap.size w w3) := Lib.hid (HB.out.grown hgrow (by simp) (fun j hj => by simp [Value.ownBlock] at hj; omega))
    clear hown' hgrow
    go_wp2
    go_ret
    exact ⟨_, rfl, HO'.out, HB'.out⟩

/-- A result that is a slice of slices, the call's own. -/
def RetMX (w : World) (R : List (List Int)) (e : Ending) (w' : World) : Prop := ∃ v, e = .returned v ∧ OwnMX w.heap.size w'.heap.size w' v R ∧ Below w.heap.size w w'
def RetMD (w : World) (R : List (List Int)) (e : Ending) (w' : World) : Prop := ∃ v, e = .returned v ∧ OwnMD w.heap.size w'.heap.size w' v R ∧ Below w.heap.size w w'
theorem row_kept' {lo : Nat} {w w' : World} {v : Value} {xs : List Int} {o : Value} {n : Nat} {us : List Value} (h : OwnI lo w v xs) (ho : w.ownsRow lo 52 1 o n us) (g : w.grownBy w' o.ownBlock) : OwnI lo w' v xs :=
  h.kept g (by
    cases e : v.ownBlock with
    | none => exact .inl rfl
    | some p => exact .inr (fun e2 => row_ne_outer ho h p e2.symm e))
/-- No two of the first k rows share a block. -/
def DistTo (us : List Value) (k : Nat) : Prop := ∀ i j, i < j → j < k → ∀ p q, (us.getD i nilS).ownBlock = some p → (us.getD j nilS).ownBlock = some q → p ≠ q
theorem getD_app (us : List Value) (u : Value) (j : Nat) (h : j < us.length) : (us ++ [u]).getD j nilS = us.getD j nilS := by simp [List.getD, List.getElem?_append_left h]
theorem getD_last (us : List Value) (u : Value) : (us ++ [u]).getD us.length nilS = u := by simp [List.getD]

set_option maxHeartbeats 4000000 in
set_option maxRecDepth 100000 in
theorem sownM_any (v : Value) (R : List (List Int)) (w : World) (hv : ReadsS w v R) (h4 : R.length ≤ 4) (h6 : ∀ j, j < R.length → (R.getD j []).length ≤ 6) :
    Calls Try.prog 45 #[v] w (RetMD w R) := by
  obtain ⟨i0, hi, hz0, hz1, hz2⟩ := info_parts info_rows
  obtain ⟨b, cap, rfl, g1, g2, g3, hc⟩ := hv
  have HC := Lib.hid hc
  have H6 := Lib.hid h6
  have HOA : Hid ((w.alloc (.cells #[] 52)).ownsRow w.heap.size 52 1 (.slice (some ⟨w.heap.size, 0, none⟩) 0 0) 0 []) := Lib.hid (World.ownsRow_made w #[] 0 (Nat.le_refl _) (Nat.zero_le _) rfl)
  have HB0 : Hid (Below w.heap.size w (w.alloc (.cells #[] 52))) := Lib.hid ((Below.refl _ _).alloc (Nat.le_refl _) _)
  obtain ⟨n, hn⟩ : ∃ n, R.length = n := ⟨_, rfl⟩
  have HN := Lib.hid hn
  rw [hn] at h4 g1 ⊢
  clear hc h6 hn
  go_enter Try.func45, Try.ntmps45
  go_wp2_with fail
  go_loopw [3, 4] (fun g i wr => ∃ (k : Nat) (us : List Value), k ≤ n ∧ i = .int .i64 k ∧ wr.ownsRow w.heap.size 52 1 g k us ∧ (∀ j, j < k → OwnI w.heap.size wr (us.getD j nilS) (R.getD j [])) ∧ DistTo us k ∧ Below w.heap.size w wr) (fun _ i _ => n - (intOf i).toNat)
  case atStart => exact ⟨0, [], Nat.zero_le _, rfl, HOA.out, fun j hj => absurd hj (by omega), fun i j _ hj => absurd hj (by omega), HB0.out⟩
  case round =>
    obtain ⟨k, us, hk, rfl, hown0, hrow0, hdist0, hnx0⟩ := hrel
    have HDI := Lib.hid hdist0
    have HOWN := Lib.hid hown0
    have HROW := Lib.hid hrow0
    have HNX := Lib.hid hnx0
    have hwr0 : w.heap.size ≤ wr.heap.size := hnx0.size
    by_cases hlt : k < n
    · have hkR : k < R.length := by have := HN.out; omega
      obtain ⟨u, c0, r0⟩ := HC.out k hkR
      have d0 : wr.cell? ⟨b, k, none⟩ = some u := by rw [hnx0.cell (p := ⟨b, k, none⟩) (World.block_lt_of_cell? w _ c0)]; exact c0
      have HR0 := Lib.hid (r0.below hnx0)
      have hkn : (k : Int) < (n : Int) := by omega
      have HL6 := Lib.hid (H6.out k hkR)
      have hlen : us.length = k := by simpa using hown0.1
      have HLEN := Lib.hid hlen
      clear hown0 hrow0 hdist0 hnx0 c0 r0 hlen
      go_wp2_with fail
      refine (sown_any u (R.getD k []) wr HR0.out (by have := HL6.out; omega)).mono ?_
      rintro e w1 ⟨v1, rfl, o1, b1⟩
      obtain ⟨va, vl, vc, rfl⟩ : ∃ a l c, v1 = .slice a l c := by
        rcases o1.cases with ⟨rfl, _⟩ | ⟨g, cap, rfl, _⟩
        · exact ⟨_, _, _, rfl⟩
        · exact ⟨_, _, _, rfl⟩
      have hown := row_below HOWN.out b1
      have HNB : Hid (∀ p, (Value.slice va vl vc).ownBlock = some p → wr.heap.size ≤ p) := Lib.hid (fun p hp => (o1.block p hp).1)
      have HO1 := Lib.hid (o1.mono hwr0)
      have HRW := Lib.hid (fun j (hj : j < k) => (HROW.out j hj).below b1)
      have HN1 := Lib.hid (HNX.out.trans (b1.mono hwr0))
      have hwr : w.heap.size ≤ w1.heap.size := HN1.out.size
      clear o1 b1 d0
      go_wp2_with (at_builtin; refine wpList_append_own_at _ rfl _ _ 22 rfl w.heap.size 52 i0 (.slice none 0 0) 1 24 Try.underlying22 hi hz0 hz1 hz2 rfl (by decide) _ _ _ rfl (hown.alloc _) ⟨w1.heap.size, 0, none⟩ 1 1 [.slice va vl vc] rfl rfl (cell_one_new _ _ _) (fun u hu => by simp at hu; subst hu; rfl) (by unfold maxLen; omega) (by omega) (by simp; omega) ?_)
      intro v' w3 hown' hgrow _ _
      have HROW' : Hid (∀ j, j < k + 1 → OwnI w.heap.size w3 ((us ++ [Value.slice va vl vc]).getD j nilS) (R.getD j [])) := Lib.hid (fun j hj => by
        by_cases e : j = k
        · subst e
          rw [← HLEN.out, getD_last, HLEN.out]
          exact row_kept' (HO1.out.below (Below.refl _ _ |>.alloc (Nat.le_refl _) _)) (hown.alloc _) hgrow
        · rw [getD_app _ _ _ (by rw [HLEN.out]; omega)]
          exact row_kept' ((HRW.out j (by omega)).below (Below.refl _ _ |>.alloc (Nat.le_refl _) _)) (hown.alloc _) hgrow)
      have HDI' : Hid (DistTo (us ++ [Value.slice va vl vc]) (k + 1)) := Lib.hid (fun i j hij hj p q hp hq => by
        rw [getD_app _ _ _ (by rw [HLEN.out]; omega)] at hp
        by_cases e : j = k
        · have e2 : (us ++ [Value.slice va vl vc]).getD j nilS = Value.slice va vl vc := by rw [e, ← HLEN.out, getD_last]
          rw [e2] at hq
          have h1 := HNB.out q hq
          have h2 := ((HROW.out i (by omega)).block p hp).2
          omega
        · rw [getD_app _ _ _ (by rw [HLEN.out]; omega)] at hq
          exact HDI.out i j hij (by omega) p q hp hq)
      have HO' := Lib.hid hown'
      have HB' : Hid (Below w.heap.size w w3) := Lib.hid ((HN1.out.alloc hwr _).grown hgrow (by simp; omega) (fun j hj => (hown.lt j hj).1))
      clear hown' hgrow hown
      go_wp2
      go_roundw
      case rel => exact ⟨k + 1, us ++ [Value.slice va vl vc], by omega, by go_num, HO'.out, HROW'.out, HDI'.out, HB'.out⟩
      case measure => simp [intOf]; omega
    · have hk' : k = R.length := by have := HN.out; omega
      have HM : Hid (OwnMD w.heap.size wr.heap.size wr u3 R) := Lib.hid (by
        rw [hk'] at hown0 hrow0 hdist0
        exact ⟨us, hown0, hrow0, fun p hp => (hown0.lt p hp).2, fun j hj p hp => ((hrow0 j hj).block p hp).2, hdist0⟩)
      clear hk' hown0 hrow0 hdist0 hnx0
      go_wp2
      go_ret
      exact ⟨_, rfl, HM.out, HNX.out⟩
end Go.Proofs.Ytadhoodddedjjab
