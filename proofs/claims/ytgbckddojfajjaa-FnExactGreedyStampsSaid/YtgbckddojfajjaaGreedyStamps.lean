/-
  Contracts of both GreedyStamps.
-/
import Derived.Test.YtgbckddojfajjaaGreedy
import Derived.Test.YtgbckddojfajjaaClone
import Derived.Test.YtgbckddojfajjaaGaps
import Derived.Deep.RegionWith
namespace Go.Proofs.Ytgbckddojfajjaa
open Go Go.RowKit Go.Shelf
set_option linter.unusedVariables false

/-- The cells of the payment behind k rounds. -/
def gRun (m : Int) (xs : List Int) : Nat → List Int
  | 0 => [0, 0, 0, 0, 0, 0, 0, 0, 0, 0]
  | k + 1 => gStep m xs (gRun m xs k) k
theorem gPre_came (m : Int) (xs : List Int) (hpos : 0 < xs.length) (k : Nat) (hk : k ≤ xs.length) : gPre m xs (came (rnd hpos) k) = gRun m xs k := by
  induction k with
  | zero => rfl
  | succ k ih => rw [came_succ, gPre_snoc, ih (by omega), rnd_val hpos (by omega)]; rfl
theorem gRun_bounds (m : Int) (hm : 0 ≤ m) (hm2 : m ≤ 1000) (xs : List Int) (hr : Rise xs xs.length) (k : Nat) (hk : k ≤ xs.length) : GBd m k (gRun m xs k) := by
  induction k with
  | zero => exact ⟨rfl, by simp [gRun], by simpa [gRun] using hm, by simp [gRun], by simp [gRun]⟩
  | succ k ih => exact (ih (by omega)).step hm2 hr k (by omega)

def gAll (xs : List Int) (n : Int) : List Int := gRun n xs xs.length
def grCode (xs : List Int) (n : Int) : Int := if codeOf xs (inB n 0 1000) = 0 then (if (gAll xs n).getD 9 0 < n then 6 else 0) else codeOf xs (inB n 0 1000)
def grList (xs : List Int) (n : Int) : List Int := if grCode xs n = 0 then (gAll xs n).take xs.length else []
def grSum (xs : List Int) (n : Int) : Int := if grCode xs n = 0 then (gAll xs n).getD 8 0 else 0
/-- A result: a slice that is the call's own, a number and a code. -/
def RetRow2 (B : Nat) (w : World) (xs : List Int) (s c : Int) (e : Ending) (w' : World) : Prop := ∃ v, e = .returned (.tuple #[v, .int .i64 s, .int .i64 c]) ∧ OwnI B w' v xs ∧ Below w.heap.size w w'
theorem ret_row2 {v : Value} {s c s' c' : Int} (h : s = s') (g : c = c') : Ending.returned (.tuple #[v, .int .i64 s, .int .i64 c]) = .returned (.tuple #[v, .int .i64 s', .int .i64 c']) := by rw [h, g]
theorem grList_len (xs : List Int) (n : Int) : (grList xs n).length ≤ 1048576 := by
  unfold grList gAll
  split
  · have h : ∀ k, (gRun n xs k).length = 10 := by
      intro k
      induction k with
      | zero => rfl
      | succ k ih => rw [gRun, gStep_length, ih]
    rw [List.length_take, h]; omega
  · simp

set_option maxHeartbeats 4000000 in
set_option maxRecDepth 100000 in
theorem igr_any (v : Value) (xs : List Int) (n : Int) (w : World) (hv : ReadsI w v xs) (hx : xs.length ≤ 1048576) :
    Calls Try.prog 31 #[v, .int .i64 n] w (RetRow2 w.heap.size w (grList xs n) (grSum xs n) (grCode xs n)) := by
  by_cases h0 : codeOf xs (inB n 0 1000) = 0
  · obtain ⟨f1, f8, fr, g0, g1⟩ := code_facts h0
    obtain ⟨b, cap, rfl, hc⟩ := reads_row hv f1
    have hpos : 0 < xs.length := by omega
    have HG : Hid (gPre n xs (came (rnd hpos) xs.length) = gAll xs n) := Lib.hid (gPre_came n xs hpos xs.length (Nat.le_refl _))
    have hgc := callsIn_wide.1 (greedy_in Fence.wide 3 (fun _ => trivial) rfl (by omega) b cap xs n g0 g1 fr hpos f8 w hc)
    have HGC := Lib.hid hgc
    clear hgc
    have HE : Hid (grCode xs n = if (gAll xs n).getD 9 0 < n then 6 else 0) := Lib.hid (by unfold grCode; rw [if_pos h0])
    have H8 : Hid (xs.length ≤ 8) := Lib.hid f8
    go_enter Try.func31, Try.ntmps31
    go_wp2_with fail
    refine (check_any _ xs _ _ hv hx).mono ?_
    rintro e w2 ⟨rfl, rfl⟩
    go_wp2_with fail
    refine HGC.out.mono ?_
    rintro e w2 ⟨a0, a1, a2, a3, a4, a5, a6, a7, a8, a9, hL, rfl, b2⟩
    rw [HG.out] at hL
    have HLL := Lib.hid hL
    have hsz : w.heap.size ≤ w2.heap.size := b2.size
    have HB2 := Lib.hid b2
    clear hL b2
    by_cases hlt : a9 < n
    · have HN : Hid (grCode xs n = 6) := Lib.hid (by rw [HE.out, HLL.out]; simp; exact hlt)
      have HR : Hid (grList xs n = [] ∧ grSum xs n = 0) := Lib.hid ⟨by unfold grList; rw [HN.out]; rfl, by unfold grSum; rw [HN.out]; rfl⟩
      have t1 : decide (a9 < n) = true := decide_eq_true hlt
      go_wp2_with fail
      go_ret3
      refine ⟨_, ret_row2 HR.out.2.symm HN.out.symm, by rw [HR.out.1]; exact World.ownsRow_nil _ _ _ _, HB2.out.alloc hsz _⟩
    · have t1 : decide (a9 < n) = false := decide_eq_false hlt
      have HN : Hid (grCode xs n = 0) := Lib.hid (by rw [HE.out, HLL.out]; simp; omega)
      have HR : Hid (grList xs n = (gAll xs n).take xs.length ∧ grSum xs n = a8) := Lib.hid ⟨by unfold grList; rw [HN.out, if_pos rfl], by unfold grSum; rw [HN.out, if_pos rfl, HLL.out]; rfl⟩
      go_wp2_with fail
      obtain ⟨w3, ew⟩ : ∃ w3, w2.alloc (.cells #[.int .i64 a0, .int .i64 a1, .int .i64 a2, .int .i64 a3, .int .i64 a4, .int .i64 a5, .int .i64 a6, .int .i64 a7, .int .i64 a8, .int .i64 a9] 60) = w3 := ⟨_, rfl⟩
      have bi : BlockI w3 w2.heap.size 60 [a0, a1, a2, a3, a4, a5, a6, a7, a8, a9] := by rw [← ew]; exact BlockI.new w2 _ [a0, a1, a2, a3, a4, a5, a6, a7, a8, a9]
      have b3 : Below w.heap.size w w3 := by rw [← ew]; exact HB2.out.alloc hsz _
      have hlt3 : w2.heap.size < w3.heap.size := bi.lt
      have cl : Cells w3 w2.heap.size ((gAll xs n).take xs.length) := by
        intro i hi
        have hi8 : i < xs.length := by rw [List.length_take] at hi; omega
        have h1 := bi.cell i (by simp; omega)
        rw [h1, HLL.out]
        simp [List.getD, hi8]
      have c8 : w3.cell? ⟨w2.heap.size, 8, none⟩ = some (.int .i64 a8) := bi.cell 8 (by simp)
      have hln : ((gAll xs n).take xs.length).length = xs.length := by rw [HLL.out]; simp; omega
      have HCL : Hid (Cells w3.drew w2.heap.size ((gAll xs n).take xs.length)) := Lib.hid cl
      have HB3 := Lib.hid b3
      have HLN := Lib.hid hln
      have hx8 : (xs.length : Int) ≤ 8 := by omega
      have hx0 : 0 ≤ (xs.length : Int) := by omega
      have hx8n : xs.length ≤ 8 := f8
      have hxm : xs.length ≤ 1048576 := by omega
      rw [ew]
      clear ew bi cl b3 hln
      go_region_with (go_at_call 65; refine (clone_row w2.heap.size xs.length 8 ((gAll xs n).take xs.length) HLN.out hxm w3.drew HCL.out).mono ?_; rintro e w4 ⟨v4, rfl, o4, b4⟩; have c84 : w4.cell? ⟨w2.heap.size, 8, none⟩ = some (.int .i64 a8) := (b4.cell (p := ⟨w2.heap.size, 8, none⟩) hlt3).trans c8)
      all_goals
        have HO4 : Hid (OwnI w.heap.size w4 v4 (grList xs n)) := Lib.hid (by rw [HR.out.1]; exact OwnI.mono o4 HB3.out.size)
        have HB4 : Hid (Below w.heap.size w w4) := Lib.hid (HB3.out.drew.trans (b4.mono HB3.out.size))
        clear o4 b4 c84
        go_wp2_with fail
        go_ret3
        exact ⟨_, ret_row2 HR.out.2.symm HN.out.symm, HO4.out, HB4.out⟩
  · have HN : Hid (grCode xs n = codeOf xs (inB n 0 1000)) := Lib.hid (by unfold grCode; rw [if_neg h0])
    have HR : Hid (grList xs n = [] ∧ grSum xs n = 0) := Lib.hid ⟨by unfold grList; rw [HN.out, if_neg h0], by unfold grSum; rw [HN.out, if_neg h0]⟩
    obtain ⟨c, hc⟩ : ∃ c, codeOf xs (inB n 0 1000) = c := ⟨_, rfl⟩
    have hne : (c != 0) = true := by rw [← hc]; simpa using h0
    have HC := Lib.hid hc
    clear h0
    go_enter Try.func31, Try.ntmps31
    go_wp2_with fail
    refine (check_any _ xs _ _ hv hx).mono ?_
    rintro e w2 ⟨rfl, rfl⟩
    go_wp2_with fail
    go_ret3
    exact ⟨_, ret_row2 HR.out.2.symm (by rw [HN.out, HC.out]), by rw [HR.out.1]; exact World.ownsRow_nil _ _ _ _, Below.refl _ _⟩

/-- What the counts of the model hold behind k rounds. -/
def grCounts (m : Int) (xs : List Int) (k : Nat) : List Int := (gRun m xs k).take xs.length
theorem grCounts_zero (m : Int) (xs : List Int) (h8 : xs.length ≤ 8) : grCounts m xs 0 = List.replicate xs.length 0 := by
  unfold grCounts gRun
  have h : xs.length = 0 ∨ xs.length = 1 ∨ xs.length = 2 ∨ xs.length = 3 ∨ xs.length = 4 ∨ xs.length = 5 ∨ xs.length = 6 ∨ xs.length = 7 ∨ xs.length = 8 := by omega
  rcases h with h | h | h | h | h | h | h | h | h <;> rw [h] <;> rfl
theorem grCounts_succ (m : Int) (xs : List Int) (k : Nat) (h8 : xs.length ≤ 8) :
    grCounts m xs (k + 1) = (grCounts m xs k).set (xs.length - 1 - k) ((m - (gRun m xs k).getD 9 0) / xs.getD (xs.length - 1 - k) 0) := by
  unfold grCounts
  rw [gRun, gStep, List.take_set, List.take_set, List.take_set]
  rw [List.set_eq_of_length_le (by simp; omega), List.set_eq_of_length_le (by simp; omega)]

set_option maxHeartbeats 4000000 in
set_option maxRecDepth 100000 in
theorem sgr_row (b len cap : Nat) (xs : List Int) (m : Int) (hl : xs.length = len) (h1 : 1 ≤ len) (h8 : len ≤ 8) (hr : Rise xs xs.length) (g0 : 0 ≤ m) (g1 : m ≤ 1000) (w : World) (hc : Cells w b xs) :
    Calls Try.prog 66 #[.slice (some ⟨b, 0, none⟩) len cap, .int .i64 m] w fun e w' => ∃ v, e = .returned (.tuple #[v, .int .i64 ((gAll xs m).getD 8 0), .int .i64 (m - (gAll xs m).getD 9 0)]) ∧ OwnI w.heap.size w' v ((gAll xs m).take len) ∧ Below w.heap.size w w' := by
  obtain ⟨i0, hi, hz0, hz1, hz2⟩ := info_parts info_i64
  have HL := Lib.hid hl
  have HRI := Lib.hid hr
  have HA : Hid (gAll xs m = gRun m xs len) := Lib.hid (by unfold gAll; rw [hl])
  have HZ : Hid (grCounts m xs 0 = List.replicate len 0) := Lib.hid (by rw [grCounts_zero m xs (by omega), hl])
  clear hl hr
  rw [HA.out]
  go_enter Try.func66, Try.ntmps66
  go_wp2_with (refine wpList_make_full _ rfl _ _ 24 rfl w.heap.size 2 i0 (.int .i64 0) 1 Try.underlying24 hi hz0 hz1 .i64 .i64 _ _ len rfl rfl rfl rfl (by rw [hz2]; omega) (by unfold maxLen; omega) (Nat.le_refl _) ?_; intro w1 hown1 hg1; have HO := Lib.hid (made_own hown1); have HG := Lib.hid hg1; clear hown1 hg1)
  go_loopw [1, 8, 9] (fun p s i wr => ∃ k : Nat, k ≤ len ∧ i = .int .i64 ((len : Int) - 1 - k) ∧ p = .int .i64 (m - (gRun m xs k).getD 9 0) ∧ s = .int .i64 ((gRun m xs k).getD 8 0) ∧ wr.ownsRow w.heap.size 2 1 (.slice (some ⟨w.heap.size, 0, none⟩) len len) len ((grCounts m xs k).map (Value.int .i64)) ∧ Below w.heap.size w wr) (fun _ _ i _ => (intOf i + 1).toNat)
  case atStart => exact ⟨0, Nat.zero_le _, by simp, by simp [gRun], by simp [gRun], by rw [HZ.out]; exact HO.out, (Below.refl _ _).grown HG.out (Nat.le_refl _) (fun k hk => by simp at hk)⟩
  case round =>
    obtain ⟨k, hk, rfl, rfl, rfl, hown, hnx⟩ := hrel
    by_cases hlt : k < len
    · obtain ⟨j, hj⟩ : ∃ j : Nat, len - 1 - k = j := ⟨_, rfl⟩
      have hjl : j < len := by omega
      have hbd := gRun_bounds m g0 g1 xs HRI.out k (by have := HL.out; omega)
      obtain ⟨hl10, b1, b2, b3, b4⟩ := hbd
      have e9 := gStep_9 m xs (gRun m xs k) k hl10
      have e8 := gStep_8 m xs (gRun m xs k) k hl10
      have ec := grCounts_succ m xs k (by have := HL.out; omega)
      rw [HL.out, hj] at e9 e8 ec
      have hv := rise_bounds HRI.out (show j < xs.length by have := HL.out; omega)
      have cx := hc.below hnx j (by have := HL.out; omega)
      obtain ⟨v, hv'⟩ : ∃ v, xs.getD j 0 = v := ⟨_, rfl⟩
      rw [hv'] at hv cx e9 e8 ec
      obtain ⟨am, ham⟩ : ∃ am, (gRun m xs k).getD 9 0 = am := ⟨_, rfl⟩
      obtain ⟨st, hst⟩ : ∃ st, (gRun m xs k).getD 8 0 = st := ⟨_, rfl⟩
      rw [ham] at b1 b2 e9 e8 ec ⊢
      rw [hst] at b3 b4 e8 ⊢
      have hd := div_step (show 0 ≤ m - am by omega) hv.1
      have co := own_cell hown j hjl
      have fo := hown.frozenAt j
      obtain ⟨oc, hoc⟩ : ∃ oc, (grCounts m xs k).getD j 0 = oc := ⟨_, rfl⟩
      rw [hoc] at co
      have HO2 := Lib.hid (own_store hown j ((m - am) / v))
      have HB := Lib.hid hnx
      have hji : (len : Int) - 1 - k = (j : Int) := by omega
      rw [hji]
      have HJI := Lib.hid hji
      have hv1 := hv.1
      have hv2 := hv.2
      have hd1 := hd.1
      have hd2 := hd.2.1
      have hd3 := hd.2.2.1
      have hd4 := hd.2.2.2
      have hst2 : st ≤ 8000 := by omega
      have hjl2 : (j : Int) < (len : Int) := by omega
      have E9 := Lib.hid e9
      have E8 := Lib.hid e8
      have EC := Lib.hid ec
      have HC := Lib.hid hc
      have hbw : b < w.heap.size := by have h := World.block_lt_of_cell? w _ (hc j (by have := HL.out; omega)); exact h
      have nb : b ≠ w.heap.size := by omega
      clear e9 e8 ec hv' ham hst hoc hown hnx hji hj hl10 hc hv hd
      go_wp2_with fail
      go_quiet (fail)
      go_wp2_with fail
      go_roundw
      case rel =>
        refine ⟨k + 1, by omega, by have := HJI.out; go_num, ?_, ?_, ?_, ?_⟩
        · rw [gRun, E9.out]; go_num
        · rw [gRun, E8.out]
        · rw [EC.out]; exact HO2.out
        · exact below_drewN (HB.out.setCell (Nat.le_refl _) _) _
      case measure => simp [intOf]; try omega
    · obtain rfl : k = len := by omega
      have e1 : (k : Int) - 1 - (k : Nat) = -1 := by omega
      rw [e1]
      clear e1
      have HO2 : Hid (OwnI w.heap.size wr (.slice (some ⟨w.heap.size, 0, none⟩) k k) ((gRun m xs k).take k)) := Lib.hid (by
        have h : grCounts m xs k = (gRun m xs k).take k := by unfold grCounts; rw [HL.out]
        rw [← h]
        exact OwnI.of_row hown)
      have HB := Lib.hid hnx
      clear hown hnx hc
      go_wp2_with fail
      go_ret3
      exact ⟨_, rfl, HO2.out, HB.out⟩

set_option maxHeartbeats 4000000 in
set_option maxRecDepth 100000 in
theorem sgrs_any (v : Value) (xs : List Int) (n : Int) (w0 : World) (hv : ReadsI w0 v xs) (hx : xs.length ≤ 1048576) :
    Calls Try.prog 30 #[v, .int .i64 n] w0 (RetRow2 w0.heap.size w0 (grList xs n) (grSum xs n) (grCode xs n)) := by
  by_cases h0 : codeOf xs (inB n 0 1000) = 0
  · obtain ⟨f1, f8, fr, g0, g1⟩ := code_facts h0
    obtain ⟨b, cap, rfl, hc⟩ := reads_row hv f1
    have hpos : 0 < xs.length := by omega
    have HE : Hid (grCode xs n = if (gAll xs n).getD 9 0 < n then 6 else 0) := Lib.hid (by unfold grCode; rw [if_pos h0])
    have H8 : Hid (xs.length ≤ 8) := Lib.hid f8
    have hbd := gRun_bounds n g0 g1 xs fr xs.length (Nat.le_refl _)
    have HBD : Hid (GBd n xs.length (gAll xs n)) := Lib.hid hbd
    clear hbd
    go_enter Try.func30, Try.ntmps30
    go_wp2_with fail
    refine (postage_any _ _).mono ?_
    rintro e w2 ⟨rfl, rfl⟩
    go_wp2_with fail
    refine (asked_any _ xs _ _ hv hx).mono ?_
    rintro e w ⟨rfl, b1⟩
    go_wp2_with fail
    refine (sgr_row b xs.length cap xs n rfl f1 f8 fr g0 g1 _ (hc.below b1)).mono ?_
    rintro e w2 ⟨v2, rfl, o2, b2⟩
    obtain ⟨a9, h9⟩ : ∃ a9, (gAll xs n).getD 9 0 = a9 := ⟨_, rfl⟩
    obtain ⟨a8, h8⟩ : ∃ a8, (gAll xs n).getD 8 0 = a8 := ⟨_, rfl⟩
    rw [h9, h8]
    have H9 := Lib.hid h9
    have H8' := Lib.hid h8
    have HO2 := Lib.hid o2
    have HB2 := Lib.hid (blink b1 b2)
    have hs1 : w0.heap.size ≤ w.heap.size := b1.size
    have hs2 : w.heap.size ≤ w2.heap.size := b2.size
    clear h9 h8 o2 b2 b1 hc hv
    by_cases hlt : a9 < n
    · have HN : Hid (grCode xs n = 6) := Lib.hid (by rw [HE.out, H9.out, if_pos hlt])
      have HR : Hid (grList xs n = [] ∧ grSum xs n = 0) := Lib.hid ⟨by unfold grList; rw [HN.out]; rfl, by unfold grSum; rw [HN.out]; rfl⟩
      have HOA : Hid (OwnI w0.heap.size (w2.alloc (.cells #[] 2)) (.slice (some ⟨w2.heap.size, 0, none⟩) 0 0) []) := Lib.hid (OwnI.mono (World.ownsRow_made w2 #[] 0 (Nat.le_refl _) (Nat.zero_le _) rfl) (by omega))
      have t1 : decide (0 < n - a9) = true := decide_eq_true (by omega)
      have hna : 0 < n - a9 := by omega
      go_wp2_with fail
      go_ret3
      exact ⟨_, ret_row2 HR.out.2.symm HN.out.symm, by rw [HR.out.1]; exact HOA.out, HB2.out.alloc (by omega) _⟩
    · have HN : Hid (grCode xs n = 0) := Lib.hid (by rw [HE.out, H9.out, if_neg hlt])
      have HR : Hid (grList xs n = (gAll xs n).take xs.length ∧ grSum xs n = a8) := Lib.hid ⟨by unfold grList; rw [HN.out, if_pos rfl], by unfold grSum; rw [HN.out, if_pos rfl, H8'.out]⟩
      have t1 : decide (0 < n - a9) = false := decide_eq_false (by omega)
      have hna : n - a9 ≤ 0 := by omega
      go_wp2_with fail
      go_ret3
      exact ⟨_, ret_row2 HR.out.2.symm HN.out.symm, by rw [HR.out.1]; exact OwnI.mono HO2.out hs1, HB2.out⟩
  · have HN : Hid (grCode xs n = codeOf xs (inB n 0 1000)) := Lib.hid (by unfold grCode; rw [if_neg h0])
    have HR : Hid (grList xs n = [] ∧ grSum xs n = 0) := Lib.hid ⟨by unfold grList; rw [HN.out, if_neg h0], by unfold grSum; rw [HN.out, if_neg h0]⟩
    obtain ⟨c, hc⟩ : ∃ c, codeOf xs (inB n 0 1000) = c := ⟨_, rfl⟩
    have hne : (c != 0) = true := by rw [← hc]; simpa using h0
    have HC := Lib.hid hc
    clear h0
    go_enter Try.func30, Try.ntmps30
    go_wp2_with fail
    refine (postage_any _ _).mono ?_
    rintro e w2 ⟨rfl, rfl⟩
    go_wp2_with fail
    refine (asked_any _ xs _ _ hv hx).mono ?_
    rintro e w2 ⟨rfl, b2⟩
    have hs2 : w0.heap.size ≤ w2.heap.size := b2.size
    have HB2 := Lib.hid b2
    have HOA : Hid (OwnI w0.heap.size (w2.alloc (.cells #[] 2)) (.slice (some ⟨w2.heap.size, 0, none⟩) 0 0) []) := Lib.hid (OwnI.mono (World.ownsRow_made w2 #[] 0 (Nat.le_refl _) (Nat.zero_le _) rfl) (by omega))
    clear b2
    go_wp2_with fail
    go_ret3
    exact ⟨_, ret_row2 HR.out.2.symm (by rw [HN.out, HC.out]), by rw [HR.out.1]; exact HOA.out, HB2.out.alloc (by omega) _⟩
end Go.Proofs.Ytgbckddojfajjaa
