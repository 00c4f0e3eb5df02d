/-
  The program's stack of a load, what is lifted along a visit, and DiggingOf.
-/
import Derived.Test.YteecpijfikgjnaaDgI
import Derived.Test.YteecpijfikgjnaaWkI
namespace Go.Proofs.Yteecpijfikgjnaa
open Go Go.RowKit
set_option linter.unusedVariables false

theorem upK_idx (n : Nat) : upK n = idxI n := rfl

set_option maxHeartbeats 600000 in
theorem ildB_any (v u : Value) (ps : List (Int × Int)) (xs : List Int) (w : World) (hv : ReadsQ w v ps) (h10 : ps.length ≤ 10) (hu : ReadsI w u xs) (hx : xs.length ≤ 1048576) :
    Calls Try.prog 25 #[v, u] w fun e w' => e = .returned (.bool (visB (idxI ps.length) xs)) ∧ Below w.heap.size w w' := by
  obtain ⟨a, cap, rfl, _⟩ := hv
  have HU := Lib.hid hu
  have HS := Lib.hid (iidx_any a ps.length cap h10 w)
  clear hu
  go_enter Try.func25, Try.ntmps25
  go_wp2_with fail
  refine HS.out.mono ?_
  rintro e w2 ⟨rfl, o2, b2⟩
  have HI := Lib.hid (iheo_any u _ xs (idxI ps.length) w2 (HU.out.below b2) o2.reads hx (by rw [idxI_len]; omega))
  have HB := Lib.hid b2
  clear o2 b2 HS
  go_wp2_with fail
  refine HI.out.mono ?_
  rintro e w3 ⟨rfl, b3⟩
  have HB3 := Lib.hid b3
  clear b3
  go_wp2_with fail
  go_ret
  exact ⟨rfl, blink HB.out HB3.out⟩

set_option maxHeartbeats 1000000 in
set_option maxRecDepth 100000 in
theorem istack_any (v u : Value) (ps : List (Int × Int)) (L : List Int) (hL : L.length ≤ 10) (hin : ∀ k, k < L.length → 0 ≤ L.getD k 0 ∧ L.getD k 0 < (ps.length : Int)) (hfit : FitsQ ps) (w : World) (hv : ReadsQ w v ps) (hu : ReadsI w u L) :
    Calls Try.prog 27 #[v, u] w fun e w' => ∃ s, e = .returned s ∧ ReadsI w' s (stk ps L) ∧ Below w.heap.size w w' := by
  obtain ⟨i0, hi, hz0, hz1, hz2⟩ := info_parts info_i64
  obtain ⟨va, vc, rfl, hva⟩ := hv
  obtain ⟨a, cap, rfl, ha⟩ := hu
  have HV := Lib.hid hva
  have HA := Lib.hid ha
  have HIN := Lib.hid hin
  have HFT := Lib.hid hfit
  have HG : Hid (∀ k, k < L.length → (stk ps L).getD k 0 = stopAt ps (L.getD k 0)) := Lib.hid (fun k hk => stk_get ps L k hk)
  obtain ⟨len, hlen⟩ : ∃ n, L.length = n := ⟨_, rfl⟩
  have HL := Lib.hid hlen
  obtain ⟨xs, hxs⟩ : ∃ xs, stk ps L = xs := ⟨_, rfl⟩
  have hxl : xs.length = len := by rw [← hxs, stk_len, hlen]
  rw [hxs] at HG ⊢
  rw [hlen] at hL ⊢
  clear hva ha hin hfit hlen hxs
  subst hxl
  go_enter Try.func27, Try.ntmps27
  go_wp2_with (refine wpList_make_full _ rfl _ _ 51 rfl w.heap.size 2 i0 (.int .i64 0) 1 (show Try.prog.underlying 51 = some (.slice 2) by kernel_rfl) hi hz0 hz1 .i64 .i64 _ _ xs.length rfl rfl rfl rfl (by rw [hz2]; omega) (by unfold maxLen; omega) (Nat.le_refl _) ?_; intro w1 hown1 hg1)
  have hs1 : w.heap.size < w1.heap.size := (hown1.lt w.heap.size rfl).2
  go_loopw [13] (fun i wr => ∃ k : Nat, k ≤ xs.length ∧ i = .int .i64 k ∧ wr.ownsRow w.heap.size 2 1 (.slice (some ⟨w.heap.size, 0, none⟩) xs.length xs.length) xs.length ((copied xs k).map (Value.int .i64)) ∧ Below w.heap.size w wr) (fun i _ => xs.length - (intOf i).toNat)
  case atStart =>
    refine ⟨0, Nat.zero_le _, rfl, ?_, (Below.refl _ _).grown hg1 (Nat.le_refl _) (fun k hk => by simp at hk)⟩
    rw [copied_zero, List.map_replicate]
    have e : (madeCells (Value.int .i64 0).cells (xs.length * 1)).toList = List.replicate xs.length (.int .i64 0) := by rw [Nat.mul_one]; exact toList_madeCells_one _ _
    rw [← e]
    exact hown1
  case round =>
    obtain ⟨k, hk, rfl, hown, hnx⟩ := hrel
    by_cases hlt : k < xs.length
    · have hlt' : k < L.length := by rw [HL.out]; exact hlt
      obtain ⟨hx0, hx1⟩ := HIN.out k hlt'
      obtain ⟨j, hj⟩ : ∃ j : Nat, L.getD k 0 = (j : Int) := ⟨(L.getD k 0).toNat, by omega⟩
      rw [hj] at hx1
      obtain ⟨lb, rfl, hlc⟩ := HA.out (fun h => by rw [h] at hlt'; simp at hlt')
      obtain ⟨vb, rfl, hvc⟩ := HV.out (fun h => by rw [h] at hx1; simp at hx1; omega)
      have cl : wr.cell? ⟨lb, k, none⟩ = some (.int .i64 (j : Int)) := by rw [← hj]; exact (hlc.below hnx) k hlt'
      obtain ⟨cv, _⟩ := (hvc.below hnx) j (by omega)
      have hgk := HG.out k hlt'
      rw [hj, stopAt, Int.toNat_natCast] at hgk
      have hf := HFT.out.get j (by omega)
      obtain ⟨q, hq⟩ : ∃ q, ps.getD j (0, 0) = q := ⟨_, rfl⟩
      rw [hq] at cv hgk hf
      obtain ⟨x, y⟩ := q
      unfold FitQ at hf
      simp only at hf hgk cv
      have hf1 := hf.1.1
      have hf2 := hf.1.2
      have hco : wr.cell? ⟨w.heap.size, k, none⟩ = some (.int .i64 ((copied xs k).getD k 0)) := by
        rw [hown.cellAt k (by omega)]
        have := copied_length xs k hk
        simp [List.getD, this, hlt]
      have hfo : wr.frozen? ⟨w.heap.size, k, none⟩ = false := hown.frozenAt k
      have S := hown.stored k (.int .i64 (xs.getD k 0))
      rw [copied_map_set xs k hlt, hgk] at S
      have HS := Lib.hid S
      have HB := Lib.hid hnx
      have hki : (k : Int) < (xs.length : Int) := by omega
      have hk0 : (0 : Int) ≤ (k : Int) := by omega
      have hj0 : (0 : Int) ≤ (j : Int) := by omega
      clear S hown hown1 hnx hgk hlc hvc HA HV HFT HG hq hj hx0
      go_wp2
      go_roundw
      case rel => exact ⟨k + 1, by omega, by go_num, HS.out.1, HB.out.setCell (Nat.le_refl _) _⟩
      case measure => simp [intOf]; omega
    · have HB := Lib.hid hnx
      have hk' : k = xs.length := by omega
      have HO : Hid (wr.ownsRow w.heap.size 2 1 (.slice (some ⟨w.heap.size, 0, none⟩) xs.length xs.length) xs.length (xs.map (Value.int .i64))) := Lib.hid (by rw [hk', copied_all] at hown; exact hown)
      clear hown hnx hown1 hk'
      go_wp2
      go_ret
      exact ⟨_, rfl, OwnI.reads (show OwnI w.heap.size wr _ xs from HO.out), HB.out⟩

theorem visit_stops {ps : List (Int × Int)} {V : List Int} (hV : visB (stopsL ps) V = true) : StopsIn V := fun k hk => by
  obtain ⟨h1, h2⟩ := (okW hV).2 k hk
  exact ⟨(V.getD k 0).toNat, by omega, by omega⟩
theorem stk_stops {ps : List (Int × Int)} {L : List Int} (hok : OkTo ps ps.length) (hL : visB (idxI ps.length) L = true) : StopsIn (stk ps L) := fun k hk => by
  rw [stk_len] at hk
  rw [stk_get ps L k hk]
  obtain ⟨h0, h1⟩ := (load_mem hL).2 k hk
  have h := hok (L.getD k 0).toNat (by omega)
  unfold okQ at h
  unfold stopAt
  exact ⟨((ps.getD (L.getD k 0).toNat (0, 0)).1).toNat, by omega, by omega⟩

set_option maxHeartbeats 1000000 in
set_option maxRecDepth 100000 in
theorem ialong_any (u sv : Value) (ps : List (Int × Int)) (L V : List Int) (hvl : vldQ ps = true) (hL : visB (idxI ps.length) L = true) (hV : visB (stopsL ps) V = true) (w : World) (hu : ReadsI w u V) (hsv : ReadsI w sv (stk ps L)) :
    Calls Try.prog 26 #[u, .func (.func 28) #[sv] #[]] w fun e w' => e = .returned (.int .i64 (digSum ps V L V.length)) ∧ Below w.heap.size w w' := by
  obtain ⟨h10, hok⟩ := vldQ_spec hvl
  have hV9 := (okW hV).1
  have hLl := (load_mem hL).1
  have HST := Lib.hid (visit_stops hV)
  have HSK := Lib.hid (stk_stops hok hL)
  have HSV := Lib.hid hsv
  have HSET := Lib.hid (isetOf_any u V (visit_stops hV) (by omega) w hu)
  have HLD : Hid (∀ k, k < V.length → ∀ p : Int → Bool, p (V.getD k 0) = true → (∀ x, x ∈ stk ps L → p x = leftP V k x) → (ligTo (V.getD k 0) p (stk ps L) L.length).2 = digAt ps V L k) := Lib.hid (fun k hk p h1 h2 => lig_dig h1 h2)
  have HIN : Hid (∀ x, x ∈ stk ps L → hasB V x = true) := Lib.hid (fun x hx => hasB_iff.2 (visit_stk hok hV hL hx))
  have HLF : Hid (∀ k, k < V.length → leftP V k (V.getD k 0) = true) := Lib.hid (fun k hk => visit_left hV hk)
  have HBD : Hid (∀ k, (0 ≤ digSum ps V L k ∧ digSum ps V L k ≤ 10 * (k : Int)) ∧ 0 ≤ digAt ps V L k ∧ digAt ps V L k ≤ 10) := Lib.hid (fun k => by
    have h1 := digSum_bd ps V L (by omega) k
    have h2 := digAt_bd ps V L k
    exact ⟨h1, h2.1, by omega⟩)
  obtain ⟨a, cap, rfl, ha⟩ := hu
  have HA := Lib.hid ha
  obtain ⟨len, hlen⟩ : ∃ n, V.length = n := ⟨_, rfl⟩
  have HL := Lib.hid hlen
  have hsl : (stk ps L).length ≤ 1048576 := by rw [stk_len]; omega
  rw [hlen] at hV9 HSET ⊢
  clear ha hlen hvl hL hV hsv hok
  go_enter Try.func26, Try.ntmps26
  go_wp2_with fail
  refine HSET.out.mono ?_
  rintro e w2 ⟨m0, rfl, hm0, b2⟩
  have HB2 := Lib.hid b2
  have HM0 := Lib.hid hm0
  clear b2 hm0 HSET
  go_wp2_with fail
  go_loopw [5, 6, 13] (fun s mm i wr => ∃ k m : Nat, k ≤ len ∧ i = .int .i64 k ∧ s = .int .i64 (digSum ps V L k) ∧ mm = .int .u16 m ∧ IsSet m (fun n => hasB V n && leftP V k n) ∧ Below w.heap.size w wr) (fun _ _ i _ => len - (intOf i).toNat)
  case atStart => exact ⟨0, m0, Nat.zero_le _, rfl, rfl, rfl, HM0.out.congr (fun n hn => by rw [leftP_zero, Bool.and_true]), HB2.out⟩
  case round =>
    obtain ⟨k, m, hk, rfl, rfl, rfl, hset, hnx⟩ := hrel
    have HB := Lib.hid hnx
    by_cases hlt : k < len
    · have hlt' : k < V.length := by rw [HL.out]; exact hlt
      have hk0 : (0 : Int) ≤ (k : Int) := by omega
      obtain ⟨b, rfl, hc⟩ := HA.out (fun h => by rw [h] at hlt'; simp at hlt')
      have cx : wr.cell? ⟨b, k, none⟩ = some (.int .i64 (V.getD k 0)) := (hc.below hnx) k hlt'
      obtain ⟨n, hn9, hn⟩ := HST.out k hlt'
      have hD := HLD.out k hlt' (fun x => hasB V x && leftP V k x) (by rw [HLF.out k hlt', Bool.and_true]; exact hasB_iff.2 (getD_mem hlt')) (fun x hx => by rw [HIN.out x hx, Bool.true_and])
      obtain ⟨⟨hd0, hd1⟩, he0, he1⟩ := HBD.out k
      have HN : Hid (digSum ps V L (k + 1) = digSum ps V L k + digAt ps V L k) := Lib.hid rfl
      have HSET2 : Hid (∀ r, IsSet r (fun x => (hasB V x && leftP V k x) && !decide (x = (n : Int))) → IsSet r (fun x => hasB V x && leftP V (k + 1) x)) := Lib.hid (fun r h => h.congr fun j hj => by rw [leftP_succ V hlt', hn, Bool.and_assoc])
      rw [hn] at cx hD
      have HLI := Lib.hid (ilift_any sv (stk ps L) n m _ hn9 hset HSK.out hsl wr (HSV.out.below hnx))
      rw [stk_len, hD] at HLI
      have HWO : Hid (∀ W, Calls Try.prog 39 #[.int .u16 (m : Int), .int .i64 (n : Int)] W fun e w' => ∃ r : Nat, e = .returned (.int .u16 (r : Int)) ∧ IsSet r (fun x => (hasB V x && leftP V k x) && !decide (x = (n : Int))) ∧ w' = W) := Lib.hid (fun W => iswo_any m n _ hset hn9 W)
      obtain ⟨d, hd⟩ : ∃ d, digAt ps V L k = d := ⟨_, rfl⟩
      obtain ⟨s, hs⟩ : ∃ s, digSum ps V L k = s := ⟨_, rfl⟩
      rw [hd] at HLI HN he0 he1
      rw [hs] at HN hd0 hd1 ⊢
      clear hd hs hD hn hc hnx hset HA hlt'
      go_wp2_with fail
      refine HLI.out.mono ?_
      rintro e w4 ⟨rfl, b4⟩
      have HB4 := Lib.hid (blink HB.out b4)
      clear b4 HLI
      go_wp2_with fail
      refine (HWO.out _).mono ?_
      rintro e w5 ⟨r, rfl, hr, rfl⟩
      have HR := Lib.hid (HSET2.out r hr)
      clear hr HWO
      go_wp2_with fail
      go_roundw
      case rel => exact ⟨k + 1, r, by omega, by go_num, by rw [HN.out], rfl, HR.out, HB4.out⟩
      case measure => simp [intOf]; omega
    · have hk' : k = len := by omega
      clear hnx hset
      go_wp2_with fail
      go_ret
      exact ⟨by rw [hk']; rfl, HB.out⟩

set_option maxHeartbeats 1000000 in
set_option maxRecDepth 100000 in
theorem idg_any (v u1 u2 : Value) (ps : List (Int × Int)) (L V : List Int) (w : World) (hv : ReadsQ w v ps) (hu1 : ReadsI w u1 L) (hu2 : ReadsI w u2 V) (hfit : FitsQ ps) (hxq : ps.length ≤ 1048576) (hx1 : L.length ≤ 1048576) (hx2 : V.length ≤ 1048576) :
    Calls Try.prog 13 #[v, u1, u2] w fun e w' => e = .returned (.tuple #[.int .i64 (dgR ps L V), .int .i64 (dgC ps L V)]) ∧ Below w.heap.size w w' := by
  have HV := Lib.hid hv
  have HU1 := Lib.hid hu1
  have HU2 := Lib.hid hu2
  have HF := Lib.hid hfit
  have HOK := Lib.hid (ivldQ_any v ps w hv hfit hxq)
  clear hu1 hu2 hv hfit
  go_enter Try.func13, Try.ntmps13
  go_wp2_with fail
  refine HOK.out.mono ?_
  rintro e w2 ⟨rfl, b2⟩
  have HB2 := Lib.hid b2
  clear HOK b2
  cases hvl : vldQ ps
  · have HR : Hid (dgR ps L V = 0 ∧ dgC ps L V = 1) := Lib.hid ⟨by simp [dgR, hvl], by simp [dgC, hvl]⟩
    clear hvl
    go_wp2_with fail
    go_ret2
    rw [HR.out.1, HR.out.2]
    exact ⟨rfl, HB2.out⟩
  · have HVL := Lib.hid hvl
    have h10 := (vldQ_spec hvl).1
    have HI := Lib.hid (ildB_any v u1 ps L w2 (HV.out.below HB2.out) h10 (HU1.out.below HB2.out) hx1)
    clear hvl
    go_wp2_with fail
    refine HI.out.mono ?_
    rintro e w3 ⟨rfl, b3⟩
    have HB3 := Lib.hid (blink HB2.out b3)
    clear b3 HI
    cases hvb : visB (idxI ps.length) L
    · have HR : Hid (dgR ps L V = 0 ∧ dgC ps L V = 4) := Lib.hid ⟨by simp [dgR, dgOk, hvb], by simp [dgC, dgOk, hvb, HVL.out]⟩
      clear hvb
      go_wp2_with fail
      go_ret2
      rw [HR.out.1, HR.out.2]
      exact ⟨rfl, HB3.out⟩
    · have HLD := Lib.hid hvb
      have HI2 := Lib.hid (ivis_any v u2 ps V w3 (HV.out.below HB3.out) HVL.out (HU2.out.below HB3.out) hx2)
      clear hvb
      go_wp2_with fail
      refine HI2.out.mono ?_
      rintro e w4 ⟨rfl, b4⟩
      have HB4 := Lib.hid (blink HB3.out b4)
      clear b4 HI2
      cases hvs : visB (stopsL ps) V
      · have HR : Hid (dgR ps L V = 0 ∧ dgC ps L V = 4) := Lib.hid ⟨by simp [dgR, dgOk, hvs], by simp [dgC, dgOk, hvs, HVL.out]⟩
        clear hvs
        go_wp2_with fail
        go_ret2
        rw [HR.out.1, HR.out.2]
        exact ⟨rfl, HB4.out⟩
      · have HR : Hid (dgR ps L V = digSum ps V L V.length ∧ dgC ps L V = 0) := Lib.hid ⟨by simp [dgR, dgOk, hvs, HLD.out, HVL.out], by simp [dgC, dgOk, hvs, HLD.out, HVL.out]⟩
        have HVS := Lib.hid hvs
        have HSK := Lib.hid (istack_any v u1 ps L (by rw [(load_mem HLD.out).1]; exact h10) (load_mem HLD.out).2 HF.out w4 (HV.out.below HB4.out) (HU1.out.below HB4.out))
        clear hvs
        go_wp2_with fail
        refine HSK.out.mono ?_
        rintro e w5 ⟨sv, rfl, r5, b5⟩
        have HB5 := Lib.hid (blink HB4.out b5)
        have HAL := Lib.hid (ialong_any u2 sv ps L V HVL.out HLD.out HVS.out w5 (HU2.out.below HB5.out) r5)
        clear b5 HSK r5
        go_wp2_with fail
        refine HAL.out.mono ?_
        rintro e w6 ⟨rfl, b6⟩
        have HB6 := Lib.hid (blink HB5.out b6)
        clear b6 HAL
        go_wp2_with fail
        go_ret2
        rw [HR.out.1, HR.out.2]
        exact ⟨rfl, HB6.out⟩
end Go.Proofs.Yteecpijfikgjnaa
