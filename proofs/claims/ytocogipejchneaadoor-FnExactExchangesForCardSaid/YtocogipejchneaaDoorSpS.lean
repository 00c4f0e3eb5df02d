/-
  Rings of those whose parcels are swapped: the model.
-/
import Derived.Test.YtocogipejchneaaDoorSpB
import Derived.Test.YtocogipejchneaaDoorHas
import Derived.Test.YtocogipejchneaaDoorIn
import Derived.BigQuiet
import Derived.OwnWalk
namespace Go.Proofs.YtocogipejchneaaDoor
open Go Go.RowKit
set_option linter.unusedVariables false

theorem plc_first {W : List Int} {x : Int} (h : x ∈ W) {k : Nat} (hk : k < W.length) (he : W.getD k 0 = x) (hb : ∀ i, i < k → W.getD i 0 ≠ x) : plc W x = k := by
  have h1 := plc_at h
  rcases Nat.lt_trichotomy (plc W x) k with g | g | g
  · exact absurd h1.2 (hb _ g)
  · exact g
  · have := List.not_of_lt_findIdx (p := (· == x)) (xs := W) (i := k) (by exact g)
    have e : W[k] = x := by simpa [List.getD, hk] using he
    rw [e] at this
    simp at this
set_option maxHeartbeats 1600000 in
set_option maxRecDepth 100000 in
theorem swhere_any (v : Value) (W : List Int) (x : Int) (w : World) (hv : ReadsI w v W) (hx : W.length ≤ 1048576) (hm : x ∈ W) :
    Calls Tryd.prog 23 #[v, .int .i64 x] w fun e w' => e = .returned (.int .i64 ((plc W x : Nat) : Int)) ∧ Below w.heap.size w w' := by
  obtain ⟨a, cap, rfl, ha⟩ := hv
  obtain ⟨b, rfl, hc⟩ := ha (fun e => by rw [e] at hm; cases hm)
  obtain ⟨len, hl⟩ : ∃ n, W.length = n := ⟨_, rfl⟩
  have HL := Lib.hid hl
  have HM := Lib.hid hm
  have HC := Lib.hid hc
  have HP := Lib.hid (plc_at hm)
  rw [hl] at hx ⊢
  clear hl hm hc ha
  go_enter Tryd.func23, Tryd.ntmps23
  go_wp2_with fail
  go_loopw [5] (fun iv wr => ∃ k : Nat, k ≤ len ∧ iv = .int .i64 k ∧ (∀ i, i < k → W.getD i 0 ≠ x) ∧ Below w.heap.size w wr) (fun i _ => len - (intOf i).toNat)
  case atStart => exact ⟨0, Nat.zero_le _, rfl, (fun i hi => absurd hi (by omega)), Below.refl _ _⟩
  case round =>
    obtain ⟨k, hk, rfl, hno, hb⟩ := hrel
    have HNO := Lib.hid hno
    have HB := Lib.hid hb
    have hlt : k < len := by
      rcases Nat.lt_or_ge k len with h | h
      · exact h
      · have := HP.out
        rw [HL.out] at this
        exact absurd this.2 (hno _ (by omega))
    have cx : wr.cell? ⟨b, k, none⟩ = some (.int .i64 (W.getD k 0)) := (HC.out.below hb) k (by rw [HL.out]; exact hlt)
    obtain ⟨y, hy⟩ : ∃ y, W.getD k 0 = y := ⟨_, rfl⟩
    rw [hy] at cx
    have HY := Lib.hid hy
    have hkl : (k : Int) < (len : Int) := by omega
    have hk0 : (0 : Int) ≤ (k : Int) := by omega
    clear hno hb hy
    by_cases hxy : y = x
    · subst hxy
      have HE : Hid (plc W y = k) := Lib.hid (plc_first HM.out (by rw [HL.out]; exact hlt) HY.out HNO.out)
      go_wp2_with fail
      go_ret
      exact ⟨by rw [HE.out]; rfl, HB.out⟩
    · have te : ((y : Int) == x) = false := by rw [beq_eq_false_iff_ne]; exact hxy
      have HN2 : Hid (∀ i, i < k + 1 → W.getD i 0 ≠ x) := Lib.hid (fun i hi => by
        by_cases e : i = k
        · rw [e, HY.out]; exact hxy
        · exact HNO.out i (by omega))
      go_wp2_with fail
      go_roundw
      case rel => exact ⟨k + 1, by omega, by go_num, HN2.out, HB.out⟩
      case measure => simp [intOf]; omega

theorem swIn_iff {W G : List Int} {i : Nat} : swIn W G i ↔ (inB (W.getD i 0) 0 100 = true ∧ hasB (W.take i) (W.getD i 0) = false ∧ hasB (G.take i) (G.getD i 0) = false ∧ hasB W (G.getD i 0) = true) := by
  have e1 : inB (W.getD i 0) 0 100 = true ↔ (0 ≤ W.getD i 0 ∧ W.getD i 0 ≤ 100) := by unfold inB; exact decide_eq_true_iff
  have e2 : ∀ (L : List Int) (x : Int), hasB L x = false ↔ x ∉ L := fun L x => by unfold hasB; exact decide_eq_false_iff_not
  unfold swIn
  rw [e1, e2, e2, hasB_iff]
theorem take_readsS {w : World} {b k cap : Nat} {xs : List Int} (hk : k ≤ xs.length) (hc : Cells w b xs) : ReadsI w (.slice (some ⟨b, 0, none⟩) k cap) (xs.take k) := by
  refine ⟨some ⟨b, 0, none⟩, cap, by rw [List.length_take, Nat.min_eq_left hk], fun _ => ⟨b, rfl, fun i hi => ?_⟩⟩
  rw [List.length_take] at hi
  have := hc i (by omega)
  rw [this]
  simp [List.getD, show i < k by omega]
set_option maxHeartbeats 1600000 in
set_option maxRecDepth 100000 in
theorem sswd_any (a b : Option Addr) (n m : Nat) (W G : List Int) (w : World) (hv : ReadsI w (.slice a n n) W) (hu : ReadsI w (.slice b m m) G) (hx : W.length ≤ 1048576) (hy : G.length ≤ 1048576) :
    Calls Tryd.prog 15 #[.slice a n n, .slice b m m] w fun e w' => e = .returned (.bool (swB W G)) ∧ Below w.heap.size w w' := by
  obtain ⟨a', c1, e1, ha⟩ := hv
  injection e1 with e1 e2 e3
  subst e1
  obtain ⟨b', c2, e4, hb⟩ := hu
  injection e4 with e4 e5 e6
  subst e4
  have HA := Lib.hid ha
  have HB := Lib.hid hb
  have HN : Hid (W.length = n) := Lib.hid e2.symm
  have HM : Hid (G.length = m) := Lib.hid e5.symm
  rw [HN.out] at hx
  rw [HM.out] at hy
  clear ha hb e2 e3 e5 e6
  by_cases hnm : n = m
  rotate_left
  · have HR : Hid (swB W G = false) := Lib.hid (swB_len (by rw [HN.out, HM.out]; exact fun h => hnm h.1))
    have te : ((n : Int) != (m : Int)) = true := by simp; omega
    clear hnm
    go_enter Tryd.func15, Tryd.ntmps15
    go_wp2_with fail
    go_ret
    exact ⟨ret_bool HR.out.symm, Below.refl _ _⟩
  subst hnm
  by_cases h9 : n ≤ 9
  rotate_left
  · have HR : Hid (swB W G = false) := Lib.hid (swB_len (by rw [HN.out]; exact fun h => h9 h.2))
    have te : ((n : Int) != (n : Int)) = false := by simp
    have t9 : decide ((9 : Int) < (n : Int)) = true := decide_eq_true (by omega)
    have t9' : decide ((n : Int) > 9) = true := decide_eq_true (by omega)
    clear h9
    go_enter Tryd.func15, Tryd.ntmps15
    go_wp2_with fail
    go_ret
    exact ⟨ret_bool HR.out.symm, Below.refl _ _⟩
  have te : ((n : Int) != (n : Int)) = false := by simp
  have t9 : decide ((9 : Int) < (n : Int)) = false := decide_eq_false (by omega)
  have t9' : decide ((n : Int) > 9) = false := decide_eq_false (by omega)
  go_enter Tryd.func15, Tryd.ntmps15
  go_wp2_with fail
  go_loopw [5] (fun iv wr => ∃ k : Nat, k ≤ n ∧ iv = .int .i64 k ∧ (∀ i, i < k → swIn W G i) ∧ Below w.heap.size w wr) (fun i _ => n - (intOf i).toNat)
  case atStart => exact ⟨0, Nat.zero_le _, rfl, (fun i hi => absurd hi (by omega)), Below.refl _ _⟩
  case round =>
    obtain ⟨k, hk, rfl, hok, hnx⟩ := hrel
    have HBW := Lib.hid hnx
    have HOK := Lib.hid hok
    by_cases hlt : k < n
    · have hkl : (k : Int) < (n : Int) := by omega
      have hk0 : (0 : Int) ≤ (k : Int) := by omega
      have hkc : (k : Int) ≤ (n : Int) := by omega
      have hkc' : k ≤ n := by omega
      obtain ⟨bw, rfl, hcw⟩ := HA.out (by intro e; have := HN.out; rw [e] at this; simp at this; omega)
      obtain ⟨bg, rfl, hcg⟩ := HB.out (by intro e; have := HM.out; rw [e] at this; simp at this; omega)
      have cx : wr.cell? ⟨bw, k, none⟩ = some (.int .i64 (W.getD k 0)) := (hcw.below hnx) k (by rw [HN.out]; exact hlt)
      have cy : wr.cell? ⟨bg, k, none⟩ = some (.int .i64 (G.getD k 0)) := (hcg.below hnx) k (by rw [HM.out]; exact hlt)
      have HH1 : Hid (∀ q, Calls Tryd.prog 21 #[.int .i64 (W.getD k 0), .int .i64 0, .int .i64 100] (wr.drewN q) fun e w' => e = .returned (.bool (inB (W.getD k 0) 0 100)) ∧ w' = wr.drewN q) := Lib.hid (fun q => in_any _ _ _ _)
      have HH2 : Hid (∀ q, Calls Tryd.prog 22 #[.slice (some ⟨bw, 0, none⟩) k n, .int .i64 (W.getD k 0)] (wr.drewN q) fun e w' => e = .returned (.bool (hasB (W.take k) (W.getD k 0))) ∧ w' = wr.drewN q) := Lib.hid (fun q => shas_any _ (W.take k) _ _ (take_readsS (by rw [HN.out]; omega) ((hcw.below hnx).below (bdrewN q))) (by rw [List.length_take, HN.out]; omega))
      have HH3 : Hid (∀ q, Calls Tryd.prog 22 #[.slice (some ⟨bg, 0, none⟩) k n, .int .i64 (G.getD k 0)] (wr.drewN q) fun e w' => e = .returned (.bool (hasB (G.take k) (G.getD k 0))) ∧ w' = wr.drewN q) := Lib.hid (fun q => shas_any _ (G.take k) _ _ (take_readsS (by rw [HM.out]; omega) ((hcg.below hnx).below (bdrewN q))) (by rw [List.length_take, HM.out]; omega))
      have HH4 : Hid (∀ q, Calls Tryd.prog 22 #[.slice (some ⟨bw, 0, none⟩) n n, .int .i64 (G.getD k 0)] (wr.drewN q) fun e w' => e = .returned (.bool (hasB W (G.getD k 0))) ∧ w' = wr.drewN q) := Lib.hid (fun q => shas_any _ W _ _ ⟨_, n, by rw [HN.out], fun _ => ⟨bw, rfl, (hcw.below hnx).below (bdrewN q)⟩⟩ (by rw [HN.out]; omega))
      have HBAD : Hid (¬ (inB (W.getD k 0) 0 100 = true ∧ hasB (W.take k) (W.getD k 0) = false ∧ hasB (G.take k) (G.getD k 0) = false ∧ hasB W (G.getD k 0) = true) → swB W G = false) := Lib.hid (fun h => swB_bad (i := k) (by rw [HN.out]; exact hlt) (fun q => h (swIn_iff.1 q)))
      have HYES : Hid ((inB (W.getD k 0) 0 100 = true ∧ hasB (W.take k) (W.getD k 0) = false ∧ hasB (G.take k) (G.getD k 0) = false ∧ hasB W (G.getD k 0) = true) → ∀ i, i < k + 1 → swIn W G i) := Lib.hid (fun h i hi => by
        by_cases e : i = k
        · rw [e]; exact swIn_iff.2 h
        · exact HOK.out i (by omega))
      obtain ⟨x, hxx⟩ : ∃ x, W.getD k 0 = x := ⟨_, rfl⟩
      obtain ⟨y, hyy⟩ : ∃ x, G.getD k 0 = x := ⟨_, rfl⟩
      rw [hxx] at cx HH1 HH2
      rw [hyy] at cy HH3 HH4
      rw [hxx, hyy] at HBAD HYES
      obtain ⟨r1, h1⟩ : ∃ r, inB x 0 100 = r := ⟨_, rfl⟩
      obtain ⟨r2, h2⟩ : ∃ r, hasB (W.take k) x = r := ⟨_, rfl⟩
      obtain ⟨r3, h3⟩ : ∃ r, hasB (G.take k) y = r := ⟨_, rfl⟩
      obtain ⟨r4, h4⟩ : ∃ r, hasB W y = r := ⟨_, rfl⟩
      rw [h1] at HH1
      rw [h2] at HH2
      rw [h3] at HH3
      rw [h4] at HH4
      rw [h1, h2, h3, h4] at HBAD HYES
      clear hxx hyy h1 h2 h3 h4 hnx hok hcw hcg
      cases r1
      · have HR := Lib.hid (HBAD.out (by simp))
        clear HBAD HYES
        go_wp2_with fail
        go_big_quiet ((first | (go_at_call 21; (with_reducible exact Calls.quiet_of_same (HH1.out _))) | (go_at_call 22; (first | (with_reducible exact Calls.quiet_of_same (HH2.out _)) | (with_reducible exact Calls.quiet_of_same (HH3.out _)) | (with_reducible exact Calls.quiet_of_same (HH4.out _))))))
        go_wp2_with fail
        go_ret
        exact ⟨ret_bool HR.out.symm, below_drewN HBW.out _⟩
      cases r2
      rotate_left
      · have HR := Lib.hid (HBAD.out (by simp))
        clear HBAD HYES
        go_wp2_with fail
        go_big_quiet ((first | (go_at_call 21; (with_reducible exact Calls.quiet_of_same (HH1.out _))) | (go_at_call 22; (first | (with_reducible exact Calls.quiet_of_same (HH2.out _)) | (with_reducible exact Calls.quiet_of_same (HH3.out _)) | (with_reducible exact Calls.quiet_of_same (HH4.out _))))))
        go_wp2_with fail
        go_ret
        exact ⟨ret_bool HR.out.symm, below_drewN HBW.out _⟩
      cases r3
      rotate_left
      · have HR := Lib.hid (HBAD.out (by simp))
        clear HBAD HYES
        go_wp2_with fail
        go_big_quiet ((first | (go_at_call 21; (with_reducible exact Calls.quiet_of_same (HH1.out _))) | (go_at_call 22; (first | (with_reducible exact Calls.quiet_of_same (HH2.out _)) | (with_reducible exact Calls.quiet_of_same (HH3.out _)) | (with_reducible exact Calls.quiet_of_same (HH4.out _))))))
        go_wp2_with fail
        go_ret
        exact ⟨ret_bool HR.out.symm, below_drewN HBW.out _⟩
      cases r4
      · have HR := Lib.hid (HBAD.out (by simp))
        clear HBAD HYES
        go_wp2_with fail
        go_big_quiet ((first | (go_at_call 21; (with_reducible exact Calls.quiet_of_same (HH1.out _))) | (go_at_call 22; (first | (with_reducible exact Calls.quiet_of_same (HH2.out _)) | (with_reducible exact Calls.quiet_of_same (HH3.out _)) | (with_reducible exact Calls.quiet_of_same (HH4.out _))))))
        go_wp2_with fail
        go_ret
        exact ⟨ret_bool HR.out.symm, below_drewN HBW.out _⟩
      have HR := Lib.hid (HYES.out (by simp))
      clear HBAD HYES
      go_wp2_with fail
      go_big_quiet ((first | (go_at_call 21; (with_reducible exact Calls.quiet_of_same (HH1.out _))) | (go_at_call 22; (first | (with_reducible exact Calls.quiet_of_same (HH2.out _)) | (with_reducible exact Calls.quiet_of_same (HH3.out _)) | (with_reducible exact Calls.quiet_of_same (HH4.out _))))))
      go_wp2_with fail
      go_roundw
      case rel => exact ⟨k + 1, by omega, by go_num, HR.out, below_drewN HBW.out _⟩
      case measure => simp [intOf]; omega
    · have hk' : k = n := by omega
      have HR : Hid (swB W G = true) := Lib.hid (swB_true (by rw [HN.out, HM.out]) (by rw [HN.out]; exact h9) (fun i hi => hok i (by rw [HN.out] at hi; omega)))
      clear hk' hok hnx
      go_wp2_with fail
      go_ret
      exact ⟨ret_bool HR.out.symm, HBW.out⟩
end Go.Proofs.YtocogipejchneaaDoor
