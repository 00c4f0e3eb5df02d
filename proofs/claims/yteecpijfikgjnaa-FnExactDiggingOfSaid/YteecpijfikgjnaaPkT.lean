/-
  Contracts of both StopsOf, and of what they call.
-/
import Derived.Test.YteecpijfikgjnaaPkW
import Derived.Test.YteecpijfikgjnaaPkS
import Derived.Test.YteecpijfikgjnaaToJ
namespace Go.Proofs.Yteecpijfikgjnaa
open Go Go.RowKit
set_option linter.unusedVariables false

/-- A result: a slice that is the call's own. -/
def RetI (B : Nat) (w : World) (xs : List Int) (e : Ending) (w' : World) : Prop := ∃ v, e = .returned v ∧ OwnI B w' v xs ∧ Below w.heap.size w w'
/-- .. and a code. -/
def RetI1 (B : Nat) (w : World) (xs : List Int) (c : Int) (e : Ending) (w' : World) : Prop := ∃ v, e = .returned (.tuple #[v, .int .i64 c]) ∧ OwnI B w' v xs ∧ Below w.heap.size w w'
/-- .. a number and a code. -/
def RetI2 (B : Nat) (w : World) (xs : List Int) (n c : Int) (e : Ending) (w' : World) : Prop := ∃ v, e = .returned (.tuple #[v, .int .i64 n, .int .i64 c]) ∧ OwnI B w' v xs ∧ Below w.heap.size w w'
theorem own_mono {B B' n k : Nat} {T : TypeId} {w : World} {v : Value} {xs : List Value} (h : w.ownsRow B T n v k xs) (hB : B' ≤ B) : w.ownsRow B' T n v k xs := by
  refine ⟨h.1, ?_⟩
  rcases h.2 with hn | ⟨g, cap, cur, rfl, hb, rest⟩
  · exact .inl hn
  · exact .inr ⟨g, cap, cur, rfl, Nat.le_trans hB hb, rest⟩
theorem own_below {B n k : Nat} {T : TypeId} {w w' : World} {v : Value} {xs : List Value} (h : w.ownsRow B T n v k xs) (hb : Below w.heap.size w w') : w'.ownsRow B T n v k xs := by
  refine ⟨h.1, ?_⟩
  rcases h.2 with hn | ⟨g, cap, cur, rfl, hB, hg, rest⟩
  · exact .inl hn
  · exact .inr ⟨g, cap, cur, rfl, hB, by rw [hb.block g (Array.getElem?_eq_some_iff.1 hg).1]; exact hg, rest⟩

set_option maxHeartbeats 4000000 in
set_option maxRecDepth 100000 in
theorem sstopsL_any (v : Value) (ps : List (Int × Int)) (w0 : World) (hv : ReadsQ w0 v ps) (hvl : vldQ ps = true) :
    Calls Try.prog 16 #[v] w0 (RetI w0.heap.size w0 (stopsL ps)) := by
  obtain ⟨i0, hi, hz0, hz1, hz2⟩ := info_parts info_i64
  have HV := Lib.hid hv
  have HVL := Lib.hid hvl
  have HOA : Hid ((w0.alloc (.cells #[] 2)).ownsRow w0.heap.size 2 1 (.slice (some ⟨w0.heap.size, 0, none⟩) 0 0) 0 []) := Lib.hid (World.ownsRow_made w0 #[] 0 (Nat.le_refl _) (Nat.zero_le _) rfl)
  have HB0 : Hid (Below w0.heap.size w0 (w0.alloc (.cells #[] 2))) := Lib.hid ((Below.refl _ _).alloc (Nat.le_refl _) _)
  clear hv hvl
  go_enter Try.func16, Try.ntmps16
  go_wp2_with fail
  go_loopw [3, 4] (fun g i wr => ∃ k : Nat, k ≤ 9 ∧ i = .int .i64 k ∧ wr.ownsRow w0.heap.size 2 1 g (stopsTo ps k).length ((stopsTo ps k).map (Value.int .i64)) ∧ Below w0.heap.size w0 wr) (fun _ i _ => 9 - (intOf i).toNat)
  case atStart => exact ⟨0, by omega, rfl, HOA.out, HB0.out⟩
  case round =>
    obtain ⟨k, hk, rfl, hown0, hnx0⟩ := hrel
    by_cases hlt : k < 9
    · have HR := Lib.hid (HV.out.below hnx0)
      have HOWN := Lib.hid hown0
      have HNX := Lib.hid hnx0
      have hwr0 : w0.heap.size ≤ wr.heap.size := hnx0.size
      clear hown0 hnx0
      go_wp2_with fail
      refine (sat_any _ ps _ _ HR.out HVL.out).mono ?_
      rintro e w1 ⟨rfl, b1⟩
      have hown := own_below HOWN.out b1
      have HN := Lib.hid (HNX.out.trans (b1.mono hwr0))
      have hwr : w0.heap.size ≤ w1.heap.size := HN.out.size
      have hkl := stopsTo_len ps k
      obtain ⟨q, hq⟩ : ∃ q, wt ps (k : Int) = q := ⟨_, rfl⟩
      rw [hq]
      have HQ := Lib.hid hq
      clear hq b1
      by_cases hz : 0 < q
      · have HG := Lib.hid (stopsTo_yes (ps := ps) (m := k) (by rw [HQ.out]; exact hz))
        go_wp2_with (at_builtin; refine wpList_append_own _ rfl _ _ 23 rfl w0.heap.size 2 i0 (.int .i64 0) 1 8 Try.underlying23 hi hz0 hz1 hz2 rfl (by decide) _ _ _ rfl (hown.alloc _) ⟨w1.heap.size, 0, none⟩ 1 1 [.int .i64 k] rfl rfl ?c1 ?c2 ?c3 ?c4 ?c5 ?_)
        case c1 =>
          intro j u hj
          match j, hj with
          | 0, hj => simp at hj; subst hj; simp [Addr.add]
        case c2 => intro u hu; simp at hu; subst hu; rfl
        case c3 => unfold maxLen; omega
        case c4 => omega
        case c5 => simp; omega
        intro v' w3 hown' hgrow _
        have HO' : Hid (w3.ownsRow w0.heap.size 2 1 v' (stopsTo ps (k + 1)).length ((stopsTo ps (k + 1)).map (Value.int .i64))) := Lib.hid (by
          rw [HG.out, List.map_append, List.length_append]; exact hown')
        have HB' : Hid (Below w0.heap.size w0 w3) := Lib.hid ((HN.out.alloc hwr _).grown hgrow (by simp; omega) (fun j hj => (hown.lt j hj).1))
        clear hown' hgrow hown
        go_wp2
        go_roundw
        case rel => exact ⟨k + 1, by omega, by go_num, HO'.out, HB'.out⟩
        case measure => simp [intOf]; omega
      · have HG := Lib.hid (stopsTo_no (ps := ps) (m := k) (by rw [HQ.out]; exact hz))
        have HO2 := Lib.hid hown
        have hzb : decide (0 < q) = false := decide_eq_false hz
        clear hz hown
        go_wp2
        go_roundw
        case rel => exact ⟨k + 1, by omega, by go_num, by rw [HG.out]; exact HO2.out, HN.out⟩
        case measure => simp [intOf]; omega
    · have hk' : k = 9 := by omega
      subst hk'
      have HO2 : Hid (OwnI w0.heap.size wr u3 (stopsL ps)) := Lib.hid hown0
      have HN := Lib.hid hnx0
      clear hown0 hnx0
      go_wp2
      go_ret
      exact ⟨_, rfl, HO2.out, HN.out⟩

set_option maxHeartbeats 4000000 in
set_option maxRecDepth 100000 in
theorem istopsL_any (v : Value) (ps : List (Int × Int)) (w0 : World) (hv : ReadsQ w0 v ps) (hvl : vldQ ps = true) :
    Calls Try.prog 35 #[v] w0 (RetI w0.heap.size w0 (stopsL ps)) := by
  obtain ⟨i0, hi, hz0, hz1, hz2⟩ := info_parts info_i64
  have HVL := Lib.hid hvl
  go_enter Try.func35, Try.ntmps35
  go_wp2_with fail
  refine (iwts_any _ ps _ hv hvl).mono ?_
  rintro e w2 ⟨rfl, b2⟩
  have HB2 := Lib.hid b2
  have hsz : w0.heap.size ≤ w2.heap.size := b2.size
  clear hv hvl b2
  unfold wtsV
  obtain ⟨cs, hcs⟩ : ∃ cs, ((wts ps).map (Value.int .i64)).toArray = cs := ⟨_, rfl⟩
  have HCS : Hid (∀ m : Nat, m < 9 → cs[m]? = some (.int .i64 (wt ps (m : Int)))) := Lib.hid (fun m hm => by rw [← hcs]; exact wtsV_at ps m hm)
  rw [hcs]
  clear hcs
  go_wp2_with fail
  go_loopw [3, 8] (fun g i wr => ∃ k : Nat, k ≤ 9 ∧ i = .int .i64 k ∧ wr.ownsRow w0.heap.size 2 1 g (stopsTo ps k).length ((stopsTo ps k).map (Value.int .i64)) ∧ Below w0.heap.size w0 wr) (fun _ i _ => 9 - (intOf i).toNat)
  case atStart => exact ⟨0, by omega, rfl, World.ownsRow_nil _ _ _ _, HB2.out⟩
  case round =>
    obtain ⟨k, hk, rfl, hown, hnx0⟩ := hrel
    have HN := Lib.hid hnx0
    have hwr : w0.heap.size ≤ wr.heap.size := hnx0.size
    by_cases hlt : k < 9
    · have hkl := stopsTo_len ps k
      obtain ⟨q, hq⟩ : ∃ q, wt ps (k : Int) = q := ⟨_, rfl⟩
      have HQ := Lib.hid hq
      have HC : Hid (cs[k]? = some (.int .i64 q)) := Lib.hid (by rw [← hq]; exact HCS.out k hlt)
      clear hq hnx0
      by_cases hz : 0 < q
      · have HG := Lib.hid (stopsTo_yes (ps := ps) (m := k) (by rw [HQ.out]; exact hz))
        go_wp2_with (first
          | (refine wpList_index_arr (o := ⟨some 11, _, _, _, _, _⟩) rfl 66 2 (.tmp 7) (.tmp 8) rfl 9 cs .i64 k (.int .i64 q) rfl rfl Try.underlying66 hlt HC.out _ Try.underlying2 rfl (by kernel_rfl) ?_)
          | (at_builtin; refine wpList_append_own _ rfl _ _ 23 rfl w0.heap.size 2 i0 (.int .i64 0) 1 8 Try.underlying23 hi hz0 hz1 hz2 rfl (by decide) _ _ _ rfl (hown.alloc _) ⟨wr.heap.size, 0, none⟩ 1 1 [.int .i64 k] rfl rfl ?c1 ?c2 ?c3 ?c4 ?c5 ?_))
        case c1 =>
          intro j u hj
          match j, hj with
          | 0, hj => simp at hj; subst hj; simp [Addr.add]
        case c2 => intro u hu; simp at hu; subst hu; rfl
        case c3 => unfold maxLen; omega
        case c4 => omega
        case c5 => simp; omega
        intro v' w3 hown' hgrow _
        have HO' : Hid (w3.ownsRow w0.heap.size 2 1 v' (stopsTo ps (k + 1)).length ((stopsTo ps (k + 1)).map (Value.int .i64))) := Lib.hid (by
          rw [HG.out, List.map_append, List.length_append]; exact hown')
        have HB' : Hid (Below w0.heap.size w0 w3) := Lib.hid ((HN.out.alloc hwr _).grown hgrow (by simp; omega) (fun j hj => (hown.lt j hj).1))
        clear hown' hgrow hown
        go_wp2
        go_roundw
        case rel => exact ⟨k + 1, by omega, by go_num, HO'.out, HB'.out⟩
        case measure => simp [intOf]; omega
      · have HG := Lib.hid (stopsTo_no (ps := ps) (m := k) (by rw [HQ.out]; exact hz))
        have HO2 := Lib.hid hown
        have hzb : decide (0 < q) = false := decide_eq_false hz
        clear hz hown
        go_wp2_with (refine wpList_index_arr (o := ⟨some 11, _, _, _, _, _⟩) rfl 66 2 (.tmp 7) (.tmp 8) rfl 9 cs .i64 k (.int .i64 q) rfl rfl Try.underlying66 hlt HC.out _ Try.underlying2 rfl (by kernel_rfl) ?_)
        go_wp2
        go_roundw
        case rel => exact ⟨k + 1, by omega, by go_num, by rw [HG.out]; exact HO2.out, HN.out⟩
        case measure => simp [intOf]; omega
    · have hk' : k = 9 := by omega
      subst hk'
      have HO2 : Hid (OwnI w0.heap.size wr u3 (stopsL ps)) := Lib.hid hown
      clear hown hnx0
      go_wp2
      go_ret
      exact ⟨_, rfl, HO2.out, HN.out⟩

end Go.Proofs.Yteecpijfikgjnaa
