/-
  LanesFrom on both sides.
-/
import Derived.Test.YtkcbhipgdajdkaaNtC
import Derived.Test.YtkcbhipgdajdkaaToJ
namespace Go.Proofs.Ytkcbhipgdajdkaa
open Go Go.RowKit
set_option linter.unusedVariables false

/-- The indices of the first k lanes that leave a station. -/
def lfTo (ps : List Lan) (x : Int) : Nat → List Int
  | 0 => []
  | k + 1 => if (ps.getD k (0, 0, 0, 0)).1 = x then lfTo ps x k ++ [(k : Int)] else lfTo ps x k
theorem lfTo_len (ps : List Lan) (x : Int) (k : Nat) : (lfTo ps x k).length ≤ k := by
  induction k with
  | zero => exact Nat.le_refl _
  | succ k ih =>
    rw [lfTo]; split
    · simp; omega
    · omega
theorem lfTo_yes {ps : List Lan} {x : Int} {k : Nat} (h : (ps.getD k (0, 0, 0, 0)).1 = x) : lfTo ps x (k + 1) = lfTo ps x k ++ [(k : Int)] := if_pos h
theorem lfTo_no {ps : List Lan} {x : Int} {k : Nat} (h : ¬ (ps.getD k (0, 0, 0, 0)).1 = x) : lfTo ps x (k + 1) = lfTo ps x k := if_neg h
def lfC (st sy : Int) (ps : List Lan) (x : Int) : Int := askC st sy ps (inB x 0 (st - 1))
def lfR (st sy : Int) (ps : List Lan) (x : Int) : List Int := if lfC st sy ps x = 0 then lfTo ps x ps.length else []
theorem askC_ok {st sy : Int} {ps : List Lan} {fine : Bool} (h : askC st sy ps fine = 0) : vldN st sy ps = true ∧ fine = true := by
  unfold askC at h
  split at h
  · split at h
    · exact ⟨by assumption, by assumption⟩
    · omega
  · omega
theorem askC_in (st sy : Int) (ps : List Lan) (fine : Bool) : askC st sy ps fine = 0 ∨ askC st sy ps fine = 1 ∨ askC st sy ps fine = 2 := by unfold askC; split <;> (try split) <;> simp
theorem lfR_len (st sy : Int) (ps : List Lan) (x : Int) : (lfR st sy ps x).length ≤ 20 := by
  unfold lfR
  split
  · rename_i h
    have h1 := (vldN_spec (askC_ok h).1).2.2.1
    have := lfTo_len ps x ps.length
    omega
  · simp
theorem lf_chk (st sy : Int) (ps : List Lan) (x : Int) : chkC st sy ps [] [x] [] = lfC st sy ps x := by
  unfold chkC lfC askC
  have h1 : betwB [x] 0 (st - 1) = inB x 0 (st - 1) := betw1 x 0 (st - 1)
  have h2 : betwB [] 0 300 = true := betwB_true (betw.zero _ _ _)
  have h3 : scsB st [] = true := scsB_true (OkScTo.zero _ _)
  rw [h1, h2, h3]
  simp

theorem cell_one_at {W : World} {p : Addr} {x : Value} (h : W.cell? (p.add 0) = some x) : ∀ (j : Nat) (u : Value), [x][j]? = some u → W.cell? (p.add j) = some u := by
  intro j u hj
  match j, hj with
  | 0, hj => simp at hj; subst hj; exact h
theorem ret_pair {u : Value} {a b : Int} (h : a = b) : Ending.returned (.tuple #[u, .int .i64 a]) = .returned (.tuple #[u, .int .i64 b]) := by rw [h]
theorem own_alloc {B n k : Nat} {T : TypeId} {w : World} {v : Value} {xs : List Value} (h : w.ownsRow B T n v k xs) (o : Obj) : (w.alloc o).ownsRow B T n v k xs := h.alloc o
theorem ownRow_below {B n k : Nat} {T : TypeId} {w w' : World} {v : Value} {xs : List Value} (h : w.ownsRow B T n v k xs) (hb : Below w.heap.size w w') : w'.ownsRow B T n v k xs := by
  refine ⟨h.1, ?_⟩
  rcases h.2 with hn | ⟨g, cap, cur, rfl, hB, hg, rest⟩
  · exact .inl hn
  · exact .inr ⟨g, cap, cur, rfl, hB, by rw [hb.block g (Array.getElem?_eq_some_iff.1 hg).1]; exact hg, rest⟩
def RetL1 (B : Nat) (w : World) (xs : List Int) (c : Int) (e : Ending) (w' : World) : Prop := ∃ v, e = .returned (.tuple #[v, .int .i64 c]) ∧ OwnI B w' v xs ∧ Below w.heap.size w w'

set_option maxHeartbeats 8000000 in
set_option maxRecDepth 100000 in
theorem slf_any (st sy : Int) (v : Value) (ps : List Lan) (x : Int) (w : World) (hn : FitN st sy ps) (hv : ReadsLa w v ps) :
    Calls Try.prog 22 #[netV st sy v, .int .i64 x] w (RetL1 w.heap.size w (lfR st sy ps x) (lfC st sy ps x)) := by
  obtain ⟨i0, hi, hz0, hz1, hz2⟩ := info_parts info_i64
  have HV := Lib.hid hv
  have HST := Lib.hid hn.s
  have HN := Lib.hid hn
  have HF := Lib.hid hn.l
  have HNL := Lib.hid hn.n
  obtain ⟨a, cap, rfl, ha⟩ := hv
  have HA := Lib.hid ha
  obtain ⟨len, hlen⟩ : ∃ m, ps.length = m := ⟨_, rfl⟩
  have HM := Lib.hid hlen
  have hb1 : Below w.heap.size w (w.alloc (.cells #[.int .i8 st, .int .i16 sy, .slice a len cap] 31)) := ((Below.refl _ _).alloc (Nat.le_refl _) _)
  have BX : BlkA (w.alloc (.cells #[.int .i8 st, .int .i16 sy, .slice a len cap] 31)) w.heap.size 31 #[.int .i8 st, .int .i16 sy, .slice a len cap] := (BlkA.new rfl _ _)
  rw [hlen]
  clear ha hlen hn
  go_enter Try.func22, Try.ntmps22
  go_wp2_with fail
  obtain ⟨W1, hW⟩ : ∃ W, w.alloc (.cells #[.int .i8 st, .int .i16 sy, .slice a len cap] 31) = W := ⟨_, rfl⟩
  have hs1 : Hid (w.heap.size < W1.heap.size) := Lib.hid (by rw [← hW]; simp)
  have hsz : w.heap.size + 1 = W1.heap.size := by rw [← hW]; simp
  rw [hW] at BX hb1 ⊢
  rw [hsz]
  clear hW hsz
  have HBX := Lib.hid BX
  have HB1 := Lib.hid hb1
  have HOA0 : Hid ((W1.alloc (.cells #[] 2)).ownsRow W1.heap.size 2 1 (.slice (some ⟨W1.heap.size, 0, none⟩) 0 0) 0 []) := Lib.hid (World.ownsRow_made W1 #[] 0 (Nat.le_refl _) (Nat.zero_le _) rfl)
  have HBA : Hid (Below W1.heap.size W1 (W1.alloc (.cells #[] 2))) := Lib.hid ((Below.refl _ _).alloc (Nat.le_refl _) _)
  have HV1 : Hid (ReadsLa (W1.alloc (.cells #[] 2)) (.slice a len cap) ps) := Lib.hid (by have := (HV.out.below HB1.out).below HBA.out; rw [HM.out] at this; exact this)
  clear BX hb1
  obtain ⟨W2, hW⟩ : ∃ W, W1.alloc (.cells #[] 2) = W := ⟨_, rfl⟩
  rw [hW] at HOA0 HBA HV1 ⊢
  clear hW
  refine (sstat_any w.heap.size 31 st sy (.slice a len cap) x _ HST.out (HBX.out.below HBA.out)).mono ?_
  rintro e w3 ⟨rfl, rfl⟩
  go_wp2_with fail
  refine (sasked_any w.heap.size st sy (.slice a len cap) ps (inB x 0 (st - 1)) _ HN.out HV1.out (HBX.out.below HBA.out)).mono ?_
  rintro e w3 ⟨rfl, b3⟩
  have HOA := Lib.hid (ownRow_below HOA0.out b3)
  have HS0 := Lib.hid (blink HBA.out b3)
  obtain ⟨c, hc⟩ : ∃ c, askC st sy ps (inB x 0 (st - 1)) = c := ⟨_, rfl⟩
  have HCD : Hid (lfC st sy ps x = c) := Lib.hid hc
  rw [hc]
  clear hc b3 HOA0 HBA HV1
  by_cases h0 : c = 0
  rotate_left
  · have t0 : (c == 0) = false := by simp [h0]
    have t1 : (c != 0) = true := by simp [h0]
    have HR : Hid (lfR st sy ps x = []) := Lib.hid (if_neg (by rw [HCD.out]; exact h0))
    clear h0
    go_wp2_with fail
    go_ret2
    exact ⟨_, ret_pair HCD.out.symm, by rw [HR.out]; exact (show OwnI _ _ _ [] from HOA.out).mono (Nat.le_of_lt hs1.out), blink HB1.out HS0.out⟩
  subst h0
  have HRES : Hid (lfR st sy ps x = lfTo ps x ps.length) := Lib.hid (if_pos HCD.out)
  go_wp2_with fail
  go_loopw [6, 8] (fun g i wr => ∃ k : Nat, k ≤ len ∧ i = .int .i64 k ∧ wr.ownsRow W1.heap.size 2 1 g (lfTo ps x k).length ((lfTo ps x k).map (Value.int .i64)) ∧ Below W1.heap.size W1 wr) (fun _ i _ => len - (intOf i).toNat)
  case atStart => exact ⟨0, by omega, rfl, HOA.out, HS0.out⟩
  case round =>
    obtain ⟨k, hk, rfl, hown, hnx⟩ := hrel
    have HN0 := Lib.hid hnx
    have HB := Lib.hid (blink HB1.out hnx)
    have bx := HBX.out.below hnx
    have v2 : wr.cell? ⟨w.heap.size, 2, none⟩ = some (.slice a len cap) := bx.at 2
    have hsw : w.heap.size < wr.heap.size := bx.lt
    have hwr : W1.heap.size ≤ wr.heap.size := hnx.size
    have hkl := lfTo_len ps x k
    have hlm : len ≤ 1048576 := by rw [← HM.out]; exact HNL.out
    by_cases hlt : k < len
    · obtain ⟨b, rfl, hc⟩ := HA.out (by intro e; have := HM.out; rw [e] at this; simp at this; omega)
      obtain ⟨e0, e1, e2, e3⟩ := (hc.below HB.out) k (by rw [HM.out]; exact hlt)
      have hf := HF.out.get k (by rw [HM.out]; exact hlt)
      have HYES : Hid ((ps.getD k (0, 0, 0, 0)).1 = x → lfTo ps x (k + 1) = lfTo ps x k ++ [(k : Int)]) := Lib.hid lfTo_yes
      have HNO : Hid (¬ (ps.getD k (0, 0, 0, 0)).1 = x → lfTo ps x (k + 1) = lfTo ps x k) := Lib.hid lfTo_no
      obtain ⟨q, hq'⟩ : ∃ q, ps.getD k (0, 0, 0, 0) = q := ⟨_, rfl⟩
      rw [hq'] at e0 e1 e2 e3 hf HYES HNO
      obtain ⟨x0, x1, x2, x3⟩ := q
      unfold FitLa at hf
      simp only at hf HYES HNO
      obtain ⟨⟨l0, u0⟩, ⟨l1, u1⟩, ⟨l2, u2⟩, l3, u3⟩ := hf
      have hkl : (k : Int) < (len : Int) := by omega
      clear hq' hnx bx hc
      by_cases hz : x0 = x
      · have HG := Lib.hid (HYES.out hz)
        have tz : (x0 == x) = true := by simp [hz]
        have HZ := Lib.hid hz
        clear hz HYES HNO
        go_wp2_with (at_builtin; refine wpList_append_own _ rfl _ _ 36 rfl W1.heap.size 2 i0 (.int .i64 0) 1 8 Try.underlying36 hi hz0 hz1 hz2 rfl (by decide) _ _ _ rfl (hown.alloc _) ⟨wr.heap.size, 0, none⟩ 1 1 [.int .i64 k] rfl rfl (cell_one_new _ _ _) (ints_oneCell .i64 [(k : Int)]) ?c3 ?c4 ?c5 ?_)
        case c3 => unfold maxLen; omega
        case c4 => omega
        case c5 => first | omega | (simp; omega)
        intro v' w3 hown' hgrow _
        have HO' : Hid (w3.ownsRow W1.heap.size 2 1 v' (lfTo ps x (k + 1)).length ((lfTo ps x (k + 1)).map (Value.int .i64))) := Lib.hid (by
          rw [HG.out, List.map_append, List.length_append]; exact hown')
        have HB' : Hid (Below W1.heap.size W1 w3) := Lib.hid (((HN0.out.alloc hwr _)).grown hgrow (by simp; omega) (fun j hj => (hown.lt j hj).1))
        clear hown' hgrow hown
        go_wp2
        go_roundw
        case rel => exact ⟨k + 1, by omega, by go_num, HO'.out, HB'.out⟩
        case measure => simp [intOf]; omega
      · have HG := Lib.hid (HNO.out hz)
        have tz : (x0 == x) = false := by simp [hz]
        have HO2 := Lib.hid hown
        clear hz HYES HNO hown
        go_wp2_with fail
        go_roundw
        case rel => exact ⟨k + 1, by omega, by go_num, by rw [HG.out]; exact HO2.out, HN0.out⟩
        case measure => simp [intOf]; omega
    · have hk' : k = len := by omega
      have HO2 : Hid (OwnI W1.heap.size wr _ (lfR st sy ps x)) := Lib.hid (by rw [HRES.out, HM.out, ← hk']; exact hown)
      clear hk' hown hnx bx
      go_wp2_with fail
      go_ret2
      exact ⟨_, ret_pair HCD.out.symm, HO2.out.mono (Nat.le_of_lt hs1.out), HB.out⟩

set_option maxHeartbeats 8000000 in
set_option maxRecDepth 100000 in
theorem ilf_any (st sy : Int) (v : Value) (ps : List Lan) (x : Int) (w : World) (hn : FitN st sy ps) (hv : ReadsLa w v ps) :
    Calls Try.prog 23 #[netV st sy v, .int .i64 x] w (RetL1 w.heap.size w (lfR st sy ps x) (lfC st sy ps x)) := by
  obtain ⟨i0, hi, hz0, hz1, hz2⟩ := info_parts info_i64
  have HV := Lib.hid hv
  have HST := Lib.hid hn.s
  have HN := Lib.hid hn
  have HF := Lib.hid hn.l
  have HNL := Lib.hid hn.n
  obtain ⟨a, cap, rfl, ha⟩ := hv
  have HA := Lib.hid ha
  obtain ⟨len, hlen⟩ : ∃ m, ps.length = m := ⟨_, rfl⟩
  have HM := Lib.hid hlen
  have hb1 : Below w.heap.size w (w.alloc (.cells #[.int .i8 st, .int .i16 sy, .slice a len cap] 31)) := ((Below.refl _ _).alloc (Nat.le_refl _) _)
  have BX : BlkA (w.alloc (.cells #[.int .i8 st, .int .i16 sy, .slice a len cap] 31)) w.heap.size 31 #[.int .i8 st, .int .i16 sy, .slice a len cap] := (BlkA.new rfl _ _)
  rw [hlen]
  clear ha hlen hn
  go_enter Try.func23, Try.ntmps23
  go_wp2_with fail
  obtain ⟨W1, hW⟩ : ∃ W, w.alloc (.cells #[.int .i8 st, .int .i16 sy, .slice a len cap] 31) = W := ⟨_, rfl⟩
  have hs1 : Hid (w.heap.size < W1.heap.size) := Lib.hid (by rw [← hW]; simp)
  have hsz : w.heap.size + 1 = W1.heap.size := by rw [← hW]; simp
  rw [hW] at BX hb1 ⊢
  rw [hsz]
  clear hW hsz
  have HBX := Lib.hid BX
  have HB1 := Lib.hid hb1
  have HBA : Hid (Below W1.heap.size W1 (W1.alloc (.cells #[.int .i64 x] 2))) := Lib.hid ((Below.refl _ _).alloc (Nat.le_refl _) _)
  have HV1 : Hid (ReadsLa (W1.alloc (.cells #[.int .i64 x] 2)) (.slice a len cap) ps) := Lib.hid (by have := (HV.out.below HB1.out).below HBA.out; rw [HM.out] at this; exact this)
  clear BX hb1
  refine (ichk_any st sy (.slice a len cap) ps _ _ _ [] [x] [] _ HN.out HV1.out (readsSc_nil _) (fun p hp => by cases hp) (reads_one (by simp)) (reads_nil _) (by simp) (by simp) (by simp)).mono ?_
  rintro e w3 ⟨rfl, b3⟩
  have HS0 := Lib.hid (blink HBA.out b3)
  have HOA : Hid (w3.ownsRow W1.heap.size 2 1 (.slice none 0 0) 0 []) := Lib.hid (World.ownsRow_nil _ _ _ _)
  have hcc := lf_chk st sy ps x
  obtain ⟨c, hc⟩ : ∃ c, chkC st sy ps [] [x] [] = c := ⟨_, rfl⟩
  have HCD : Hid (lfC st sy ps x = c) := Lib.hid (by rw [← hc, hcc])
  have bx3 := HBX.out.below HS0.out
  have n2 : w3.cell? ⟨w.heap.size, 2, none⟩ = some (.slice a len cap) := bx3.at 2
  rw [hc]
  clear hc hcc b3 HBA HV1 bx3
  by_cases h0 : c = 0
  rotate_left
  · have t0 : (c == 0) = false := by simp [h0]
    have t1 : (c != 0) = true := by simp [h0]
    have HR : Hid (lfR st sy ps x = []) := Lib.hid (if_neg (by rw [HCD.out]; exact h0))
    clear h0
    go_wp2_with fail
    go_ret2
    exact ⟨_, ret_pair HCD.out.symm, by rw [HR.out]; exact (show OwnI _ _ _ [] from HOA.out).mono (Nat.le_of_lt hs1.out), blink HB1.out HS0.out⟩
  subst h0
  have HRES : Hid (lfR st sy ps x = lfTo ps x ps.length) := Lib.hid (if_pos HCD.out)
  go_wp2_with fail
  go_loopw [7, 21] (fun g i wr => ∃ k : Nat, k ≤ len ∧ i = .int .i64 k ∧ wr.ownsRow W1.heap.size 2 1 g (lfTo ps x k).length ((lfTo ps x k).map (Value.int .i64)) ∧ Below W1.heap.size W1 wr) (fun _ i _ => len - (intOf i).toNat)
  case atStart => exact ⟨0, by omega, rfl, HOA.out, HS0.out⟩
  case round =>
    obtain ⟨k, hk, rfl, hown, hnx⟩ := hrel
    have HN0 := Lib.hid hnx
    have HB := Lib.hid (blink HB1.out hnx)
    have bx := HBX.out.below hnx
    have v2 : wr.cell? ⟨w.heap.size, 2, none⟩ = some (.slice a len cap) := bx.at 2
    have hsw : w.heap.size < wr.heap.size := bx.lt
    have hwr : W1.heap.size ≤ wr.heap.size := hnx.size
    have hkl := lfTo_len ps x k
    have hlm : len ≤ 1048576 := by rw [← HM.out]; exact HNL.out
    by_cases hlt : k < len
    · obtain ⟨b, rfl, hc⟩ := HA.out (by intro e; have := HM.out; rw [e] at this; simp at this; omega)
      obtain ⟨e0, e1, e2, e3⟩ := (hc.below HB.out) k (by rw [HM.out]; exact hlt)
      have hf := HF.out.get k (by rw [HM.out]; exact hlt)
      have HYES : Hid ((ps.getD k (0, 0, 0, 0)).1 = x → lfTo ps x (k + 1) = lfTo ps x k ++ [(k : Int)]) := Lib.hid lfTo_yes
      have HNO : Hid (¬ (ps.getD k (0, 0, 0, 0)).1 = x → lfTo ps x (k + 1) = lfTo ps x k) := Lib.hid lfTo_no
      obtain ⟨q, hq'⟩ : ∃ q, ps.getD k (0, 0, 0, 0) = q := ⟨_, rfl⟩
      rw [hq'] at e0 e1 e2 e3 hf HYES HNO
      obtain ⟨x0, x1, x2, x3⟩ := q
      unfold FitLa at hf
      simp only at hf HYES HNO
      obtain ⟨⟨l0, u0⟩, ⟨l1, u1⟩, ⟨l2, u2⟩, l3, u3⟩ := hf
      have hkl : (k : Int) < (len : Int) := by omega
      clear hq' hnx bx hc
      by_cases hz : x0 = x
      · have HG := Lib.hid (HYES.out hz)
        have tz : (x0 == x) = true := by simp [hz]
        have HZ := Lib.hid hz
        clear hz HYES HNO
        go_wp2_with (at_builtin; refine wpList_append_own _ rfl _ _ 36 rfl W1.heap.size 2 i0 (.int .i64 0) 1 8 Try.underlying36 hi hz0 hz1 hz2 rfl (by decide) _ _ _ rfl ((hown.alloc _).alloc _) ⟨wr.heap.size + 1, 0, none⟩ 1 1 [.int .i64 k] rfl rfl ?c1 (ints_oneCell .i64 [(k : Int)]) ?c3 ?c4 ?c5 ?_)
        case c3 => unfold maxLen; omega
        case c4 => omega
        case c5 => first | omega | (simp; omega)
        intro v' w3 hown' hgrow _
        have HO' : Hid (w3.ownsRow W1.heap.size 2 1 v' (lfTo ps x (k + 1)).length ((lfTo ps x (k + 1)).map (Value.int .i64))) := Lib.hid (by
          rw [HG.out, List.map_append, List.length_append]; exact hown')
        have HB' : Hid (Below W1.heap.size W1 w3) := Lib.hid (((HN0.out.alloc hwr _).alloc (by simp; omega) _).grown hgrow (by simp; omega) (fun j hj => (hown.lt j hj).1))
        clear hown' hgrow hown
        go_wp2
        go_roundw
        case rel => exact ⟨k + 1, by omega, by go_num, HO'.out, HB'.out⟩
        case measure => simp [intOf]; omega
      · have HG := Lib.hid (HNO.out hz)
        have tz : (x0 == x) = false := by simp [hz]
        have HO2 := Lib.hid hown
        clear hz HYES HNO hown
        go_wp2_with fail
        go_roundw
        case rel => exact ⟨k + 1, by omega, by go_num, by rw [HG.out]; exact own_alloc HO2.out _, HN0.out.alloc hwr _⟩
        case measure => simp [intOf]; omega
    · have hk' : k = len := by omega
      have HO2 : Hid (OwnI W1.heap.size wr _ (lfR st sy ps x)) := Lib.hid (by rw [HRES.out, HM.out, ← hk']; exact hown)
      clear hk' hown hnx bx
      go_wp2_with fail
      go_ret2
      exact ⟨_, ret_pair HCD.out.symm, HO2.out.mono (Nat.le_of_lt hs1.out), HB.out⟩

end Go.Proofs.Ytkcbhipgdajdkaa
