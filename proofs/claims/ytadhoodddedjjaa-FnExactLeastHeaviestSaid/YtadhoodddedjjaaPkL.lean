/-
  Contracts of both LeastHeaviest.
-/
import Derived.Test.YtadhoodddedjjaaPkL0
import Derived.IntWalk
namespace Go.Proofs.Ytadhoodddedjjaa
open Go Go.RowKit
set_option linter.unusedVariables false

/-- What a search for the least weight knows: all below lo are not enough, hi is. -/
def Between (ps : List (Int × Int)) (bags lo hi : Int) : Prop := 1 ≤ lo ∧ lo ≤ hi ∧ okB ps bags hi = true ∧ ∀ y, 1 ≤ y → y < lo → okB ps bags y = false
theorem Between.low {ps : List (Int × Int)} {bags lo hi h : Int} (b : Between ps bags lo hi) (hl : lo ≤ h) (hok : okB ps bags h = true) : Between ps bags lo h := ⟨b.1, hl, hok, b.2.2.2⟩
theorem Between.high {ps : List (Int × Int)} {bags lo hi h : Int} (hq : OkTo ps ps.length) (h10 : ps.length ≤ 10) (b : Between ps bags lo hi) (hh : lo ≤ h) (hh2 : h < hi) (hno : okB ps bags h = false) : Between ps bags (h + 1) hi := by
  refine ⟨by have := b.1; omega, by omega, b.2.2.1, fun y y1 y2 => ?_⟩
  by_cases e : okB ps bags y = true
  · have := okB_mono hq h10 (bags := bags) (a := y) (b := h) (by omega) (by omega) e
    rw [hno] at this; simp at this
  · simpa using e
theorem Between.done {ps : List (Int × Int)} {bags lo : Int} (b : Between ps bags lo lo) : leastB ps bags = lo := leastB_eq ⟨b.1, b.2.2.1, b.2.2.2⟩

set_option maxHeartbeats 8000000 in
set_option maxRecDepth 100000 in
theorem search_any (v : Value) (ps : List (Int × Int)) (bags : Int) (p r : Nat) (w : World) (hp : w.cell? ⟨p, 0, none⟩ = some v) (hr : w.cell? ⟨r, 0, none⟩ = some (.int .i64 bags)) (hv : ReadsQ w v ps) (hvl : vldQ ps = true) (hb1 : 1 ≤ bags) :
    Calls Try.prog 75 #[.int .i64 50000, .func (.func 76) #[] #[.pointer (some ⟨p, 0, none⟩), .pointer (some ⟨r, 0, none⟩)]] w fun e w' => ∃ x : Nat, e = .returned (.int .i64 x) ∧ x ≤ 50000 ∧ leastB ps bags = (x : Int) + 1 ∧ Below w.heap.size w w' := by
  have HP := Lib.hid hp
  have HR := Lib.hid hr
  have HV := Lib.hid hv
  have hpl : p < w.heap.size := World.block_lt_of_cell? w _ hp
  have hrl : r < w.heap.size := World.block_lt_of_cell? w _ hr
  obtain ⟨h10, hok⟩ := vldQ_spec hvl
  have HVL := Lib.hid hvl
  have H10 := Lib.hid h10
  have HOK := Lib.hid hok
  have HIN : Hid (Between ps bags 1 50001) := Lib.hid ⟨Int.le_refl _, by omega, okB_all hok h10 hb1 (by have := (allK_bd hok).2; omega), fun y h1 h2 => by omega⟩
  clear hp hr hv hvl h10 hok
  go_enter Try.func75, Try.ntmps75
  go_wp2_with fail
  go_loopw [5, 6] (fun i j wr => ∃ a b : Nat, a ≤ b ∧ b ≤ 50000 ∧ i = .int .i64 a ∧ j = .int .i64 b ∧ Between ps bags ((a : Int) + 1) ((b : Int) + 1) ∧ Below w.heap.size w wr) (fun i j _ => (intOf j).toNat - (intOf i).toNat)
  case atStart => exact ⟨0, 50000, by omega, by omega, rfl, rfl, HIN.out, Below.refl _ _⟩
  case round =>
    obtain ⟨a, b, hab, hb5, rfl, rfl, hbt, hnx⟩ := hrel
    have HBT := Lib.hid hbt
    have HN := Lib.hid hnx
    have HP2 := Lib.hid (show wr.cell? ⟨p, 0, none⟩ = some v by rw [hnx.cell (p := ⟨p, 0, none⟩) hpl]; exact HP.out)
    have HR2 := Lib.hid (show wr.cell? ⟨r, 0, none⟩ = some (.int .i64 bags) by rw [hnx.cell (p := ⟨r, 0, none⟩) hrl]; exact HR.out)
    have hwr : w.heap.size ≤ wr.heap.size := hnx.size
    clear hbt hnx
    by_cases hlt : a < b
    · have hlti : (a : Int) < (b : Int) := by omega
      go_wp2_with fail
      obtain ⟨m, hm⟩ : ∃ m : Nat, ((a : Int) + (b : Int)) / 2 = (m : Int) := ⟨(a + b) / 2, by omega⟩
      have hm1 : a ≤ m := by omega
      have hm2 : m < b := by omega
      rw [hm]
      clear hm
      refine (leastF_any v ps bags m p r _ HP2.out HR2.out (HV.out.below HN.out) HVL.out (by omega) (by omega)).mono ?_
      rintro e w5 ⟨rfl, b5⟩
      have HN5 := Lib.hid (HN.out.trans (b5.mono hwr))
      clear b5
      cases hk : okB ps bags ((m : Int) + 1)
      · have HB2 := Lib.hid (HBT.out.high HOK.out H10.out (h := (m : Int) + 1) (by omega) (by omega) hk)
        clear hk
        go_wp2_with fail
        go_roundw
        case rel => exact ⟨m + 1, b, by omega, by omega, by go_num, rfl, by have h := HB2.out; simpa using h, HN5.out⟩
        case measure => simp [intOf]; omega
      · have HB2 := Lib.hid (HBT.out.low (h := (m : Int) + 1) (by omega) hk)
        clear hk
        go_wp2_with fail
        go_roundw
        case rel => exact ⟨a, m, by omega, by omega, rfl, rfl, HB2.out, HN5.out⟩
        case measure => simp [intOf]; omega
    · have hE : a = b := by omega
      have HE : Hid (leastB ps bags = (a : Int) + 1) := Lib.hid (Between.done (by have h := HBT.out; rw [← hE] at h; exact h))
      go_wp2_with fail
      go_ret
      exact ⟨a, rfl, by omega, HE.out, HN.out⟩

set_option maxHeartbeats 4000000 in
set_option maxRecDepth 100000 in
theorem ileast_any (v : Value) (ps : List (Int × Int)) (bags : Int) (w : World) (hv : ReadsQ w v ps) (hfit : FitsQ ps) (hx : ps.length ≤ 1048576) :
    Calls Try.prog 38 #[v, .int .i64 bags] w fun e w' => e = .returned (.tuple #[.int .i64 (leastR ps bags), .int .i64 (leastC ps bags)]) ∧ Below w.heap.size w w' := by
  obtain ⟨va, vc, hve, _⟩ := id hv
  subst hve
  obtain ⟨W, hW⟩ : ∃ W, (w.alloc (.cells #[.slice va ps.length vc] 25)).alloc (.cells #[.int .i64 bags] 2) = W := ⟨_, rfl⟩
  have hz : W.heap.size = w.heap.size + 1 + 1 := by rw [← hW]; simp
  have HZ := Lib.hid hz
  have hb : Below w.heap.size w W := by rw [← hW]; exact ((Below.refl _ _).alloc (Nat.le_refl _) _).alloc (by simp) _
  have HB := Lib.hid hb
  have hp : W.cell? ⟨w.heap.size, 0, none⟩ = some (.slice va ps.length vc) := by rw [← hW]; simp
  have hr : W.cell? ⟨w.heap.size + 1, 0, none⟩ = some (.int .i64 bags) := by rw [← hW]; simp
  have HV := Lib.hid (hv.below hb)
  have HW := Lib.hid hW
  clear hz hb hW hv
  cases hvl : vldQ ps
  · have HR := Lib.hid (leastC_1 (bags := bags) hvl)
    go_enter Try.func38, Try.ntmps38
    go_wp2_with fail
    rw [HW.out]
    refine (ivldQ_any _ ps _ HV.out hfit hx).mono ?_
    rintro e w2 ⟨rfl, b2⟩
    rw [hvl]
    go_wp2_with fail
    go_ret2
    exact ⟨ret_pair HR.out.2.symm HR.out.1.symm, blink HB.out b2⟩
  · have HVL := Lib.hid hvl
    have hpl : w.heap.size < W.heap.size := by have := HZ.out; omega
    have hrl : w.heap.size + 1 < W.heap.size := by have := HZ.out; omega
    have HP := Lib.hid hp
    have HRR := Lib.hid hr
    clear hp hr
    by_cases hbg : 1 ≤ bags ∧ bags ≤ 10
    · have HR := Lib.hid (leastC_0 hvl hbg)
      have t1 : decide (bags < 1) = false := decide_eq_false (by omega)
      have t2 : decide ((10 : Int) < bags) = false := decide_eq_false (by omega)
      have hb1 := hbg.1
      clear hbg
      go_enter Try.func38, Try.ntmps38
      go_wp2_with fail
      rw [HW.out]
      refine (ivldQ_any _ ps _ HV.out hfit hx).mono ?_
      rintro e w2 ⟨rfl, b2⟩
      rw [hvl]
      have hp2 : w2.cell? ⟨w.heap.size, 0, none⟩ = some (.slice va ps.length vc) := by rw [b2.cell (p := ⟨w.heap.size, 0, none⟩) hpl]; exact HP.out
      have hr2 : w2.cell? ⟨w.heap.size + 1, 0, none⟩ = some (.int .i64 bags) := by rw [b2.cell (p := ⟨w.heap.size + 1, 0, none⟩) hrl]; exact HRR.out
      have HP2 := Lib.hid hp2
      have HR2 := Lib.hid hr2
      have HB2 := Lib.hid b2
      clear hvl b2
      go_wp2_with fail
      refine (search_any _ ps bags _ _ _ HP2.out HR2.out (HV.out.below HB2.out) HVL.out hb1).mono ?_
      rintro e w3 ⟨x, rfl, hx5, hlb, b3⟩
      have HLB := Lib.hid hlb
      clear hlb
      go_wp2_with fail
      go_ret2
      exact ⟨ret_pair (by rw [HR.out.2, HLB.out]) HR.out.1.symm, blink (blink HB.out HB2.out) b3⟩
    · have HR := Lib.hid (leastC_2 hvl hbg)
      by_cases h1 : bags < 1
      · have t1 : decide (bags < 1) = true := decide_eq_true h1
        clear hbg
        go_enter Try.func38, Try.ntmps38
        go_wp2_with fail
        rw [HW.out]
        refine (ivldQ_any _ ps _ HV.out hfit hx).mono ?_
        rintro e w2 ⟨rfl, b2⟩
        rw [hvl]
        have hr2 : w2.cell? ⟨w.heap.size + 1, 0, none⟩ = some (.int .i64 bags) := by rw [b2.cell (p := ⟨w.heap.size + 1, 0, none⟩) hrl]; exact HRR.out
        clear hvl
        go_wp2_with fail
        go_ret2
        exact ⟨ret_pair HR.out.2.symm HR.out.1.symm, blink HB.out b2⟩
      · have t1 : decide (bags < 1) = false := decide_eq_false h1
        have t2 : decide ((10 : Int) < bags) = true := decide_eq_true (by omega)
        clear hbg
        go_enter Try.func38, Try.ntmps38
        go_wp2_with fail
        rw [HW.out]
        refine (ivldQ_any _ ps _ HV.out hfit hx).mono ?_
        rintro e w2 ⟨rfl, b2⟩
        rw [hvl]
        have hr2 : w2.cell? ⟨w.heap.size + 1, 0, none⟩ = some (.int .i64 bags) := by rw [b2.cell (p := ⟨w.heap.size + 1, 0, none⟩) hrl]; exact HRR.out
        clear hvl
        go_wp2_with fail
        go_ret2
        exact ⟨ret_pair HR.out.2.symm HR.out.1.symm, blink HB.out b2⟩

set_option maxHeartbeats 8000000 in
set_option maxRecDepth 100000 in
theorem sleast_any (v : Value) (ps : List (Int × Int)) (bags : Int) (w : World) (hv : ReadsQ w v ps) (hfit : FitsQ ps) (hx : ps.length ≤ 1048576) :
    Calls Try.prog 37 #[v, .int .i64 bags] w fun e w' => e = .returned (.tuple #[.int .i64 (leastR ps bags), .int .i64 (leastC ps bags)]) ∧ Below w.heap.size w w' := by
  have HV := Lib.hid hv
  cases hvl : vldQ ps
  · have HR := Lib.hid (leastC_1 (bags := bags) hvl)
    go_enter Try.func37, Try.ntmps37
    go_wp2_with fail
    refine (sokQ_any _ ps _ hv hfit hx).mono ?_
    rintro e w2 ⟨rfl, b2⟩
    rw [hvl]
    go_wp2_with fail
    go_ret2
    exact ⟨ret_pair HR.out.2.symm HR.out.1.symm, b2⟩
  · have HVL := Lib.hid hvl
    by_cases hbg : 1 ≤ bags ∧ bags ≤ 10
    · have HR := Lib.hid (leastC_0 hvl hbg)
      obtain ⟨h10, hok⟩ := vldQ_spec hvl
      have H10 := Lib.hid h10
      have HOK := Lib.hid hok
      have g1 := inB_true hbg
      have hb1 := hbg.1
      have HIN : Hid (Between ps bags 1 (1 + allK ps ps.length)) := Lib.hid ⟨Int.le_refl _, by have := (allK_bd hok).1; omega, okB_all hok h10 hb1 (by omega), fun y h1 h2 => by omega⟩
      have HALL : Hid (0 ≤ allK ps ps.length ∧ allK ps ps.length ≤ 50000) := Lib.hid (by have := allK_bd hok; omega)
      obtain ⟨a, cap, rfl, hrd⟩ := hv
      have HRD : Hid (∀ k, k < ps.length → ∃ b, a = some ⟨b, 0, none⟩ ∧ CellsQ w b ps) := Lib.hid (fun k hk => hrd (fun e => by rw [e] at hk; simp at hk))
      obtain ⟨n, hn⟩ : ∃ n, ps.length = n := ⟨_, rfl⟩
      have HN := Lib.hid hn
      have HX := Lib.hid hx
      rw [hn] at HV h10 HIN HALL ⊢
      clear hrd hn hok hbg hx
      go_enter Try.func37, Try.ntmps37
      go_wp2_with fail
      refine (sokQ_any _ ps _ HV.out hfit HX.out).mono ?_
      rintro e w2 ⟨rfl, b2⟩
      rw [hvl]
      have HB2 := Lib.hid b2
      have hs2 : w.heap.size ≤ w2.heap.size := b2.size
      clear hvl b2
      go_wp2_with (go_at_call 50; refine (in_any _ _ _ _).mono ?_; rintro e w3 ⟨rfl, hw3⟩; subst hw3)
      go_loopw [7, 8] (fun t i wr => ∃ k : Nat, k ≤ n ∧ i = .int .i64 k ∧ t = .int .i64 (1 + allK ps k) ∧ Below w3.heap.size w3 wr) (fun _ i _ => n - (intOf i).toNat)
      case atStart => exact ⟨0, Nat.zero_le _, rfl, by simp [allK], Below.refl _ _⟩
      case round =>
        obtain ⟨k, hk, rfl, rfl, hnx⟩ := hrel
        have HNX := Lib.hid hnx
        by_cases hlt : k < n
        · have hkp : k < ps.length := by have := HN.out; omega
          obtain ⟨b, hab, hc⟩ := HRD.out k hkp
          subst hab
          have c1 := ((hc.below HB2.out).below hnx k hkp).2
          have hq1 := HOK.out k hkp
          have hb := allK_bd (fun i hi => HOK.out i (by omega) : OkTo ps k)
          unfold okQ at hq1
          have HS : Hid (allK ps (k + 1) = allK ps k + (ps.getD k (0, 0)).2) := Lib.hid rfl
          obtain ⟨y, hy⟩ : ∃ y, (ps.getD k (0, 0)).2 = y := ⟨_, rfl⟩
          rw [hy] at c1 hq1 HS
          obtain ⟨t, ht⟩ : ∃ t, allK ps k = t := ⟨_, rfl⟩
          rw [ht] at hb HS ⊢
          have hy1 := hq1.2.2.1
          have hy2 := hq1.2.2.2
          have ht1 := hb.1
          have ht2 : t ≤ 50000 := by have := hb.2; omega
          have hkn : (k : Int) < (n : Int) := by omega
          clear hy ht hnx hb hq1 hc
          go_wp2_with fail
          go_roundw
          case rel => exact ⟨k + 1, by omega, by go_num, by rw [HS.out, ← Int.add_assoc], HNX.out⟩
          case measure => simp [intOf]; omega
        · have hkn : k = n := by omega
          subst hkn
          have HB3 := Lib.hid (blink HB2.out hnx)
          have hs3 : w.heap.size ≤ wr.heap.size := HB3.out.size
          clear hnx
          obtain ⟨t, ht⟩ : ∃ t, allK ps k = t := ⟨_, rfl⟩
          rw [ht] at HIN HALL ⊢
          have ht1 := HALL.out.1
          have ht2 := HALL.out.2
          clear ht
          go_wp2_with fail
          go_loopw [6, 7] (fun lo hi wi => ∃ x y : Nat, 1 ≤ x ∧ x ≤ y ∧ y ≤ 50001 ∧ lo = .int .i64 x ∧ hi = .int .i64 y ∧ Between ps bags (x : Int) (y : Int) ∧ Below w.heap.size w wi) (fun lo hi _ => (intOf hi).toNat - (intOf lo).toNat)
          case atStart => exact ⟨1, (1 + t).toNat, by omega, by omega, by omega, rfl, by congr 1; omega, by have h := HIN.out; rw [show (((1 + t).toNat : Nat) : Int) = 1 + t by omega]; exact h, HB3.out⟩
          case round =>
            obtain ⟨x, y, hx1, hxy, hy5, rfl, rfl, hbt, hnx⟩ := hrel
            have HBT := Lib.hid hbt
            have HNN := Lib.hid hnx
            have hwi : w.heap.size ≤ wr.heap.size := hnx.size
            clear hbt hnx
            by_cases hlo : x < y
            · have hloi : (x : Int) < (y : Int) := by omega
              go_wp2_with fail
              obtain ⟨m, hm⟩ : ∃ m : Nat, ((x : Int) + (y : Int)) / 2 = (m : Int) := ⟨(x + y) / 2, by omega⟩
              have hm1 : x ≤ m := by omega
              have hm2 : m < y := by omega
              rw [hm]
              clear hm
              refine (ssplitL_any _ ps _ _ (HV.out.below HNN.out) HVL.out (by omega) (by omega)).mono ?_
              intro e w5 hret
              rcases hret with ⟨hft, u, rfl, o5, b5⟩ | ⟨hno, u, rfl, o5, b5⟩
              · have HN5 := Lib.hid (HNN.out.trans (b5.mono hwi))
                have hfb := fill_bd HOK.out H10.out (m : Int) (by omega) 9 hft
                by_cases hcb : (fill ps (m : Int) 9).1 ≤ bags
                · have HB5 := Lib.hid (HBT.out.low (h := (m : Int)) (by omega) (okB_yes hft hcb))
                  obtain ⟨c, hce⟩ : ∃ c, (fill ps (m : Int) 9).1 = c := ⟨_, rfl⟩
                  rw [hce] at hcb hfb ⊢
                  have hc1 := hfb.1
                  have t1 : decide (c ≤ bags) = true := decide_eq_true hcb
                  clear hce hft hfb o5 b5
                  go_wp2_with fail
                  go_roundw
                  case rel => exact ⟨x, m, hx1, hm1, by omega, rfl, rfl, HB5.out, HN5.out⟩
                  case measure => simp [intOf]; omega
                · have HB5 := Lib.hid (HBT.out.high HOK.out H10.out (h := (m : Int)) (by omega) (by omega) (okB_many hcb))
                  obtain ⟨c, hce⟩ : ∃ c, (fill ps (m : Int) 9).1 = c := ⟨_, rfl⟩
                  rw [hce] at hcb hfb ⊢
                  have hc1 := hfb.1
                  have t1 : decide (c ≤ bags) = false := decide_eq_false hcb
                  clear hce hft hfb o5 b5
                  go_wp2_with fail
                  go_roundw
                  case rel => exact ⟨m + 1, y, by omega, by omega, by omega, by go_num, rfl, by have h := HB5.out; simpa using h, HN5.out⟩
                  case measure => simp [intOf]; omega
              · have HN5 := Lib.hid (HNN.out.trans (b5.mono hwi))
                have HB5 := Lib.hid (HBT.out.high HOK.out H10.out (h := (m : Int)) (by omega) (by omega) (okB_over hno))
                clear hno o5 b5
                go_wp2_with fail
                go_roundw
                case rel => exact ⟨m + 1, y, by omega, by omega, by omega, by go_num, rfl, by have h := HB5.out; simpa using h, HN5.out⟩
                case measure => simp [intOf]; omega
            · have hE : x = y := by omega
              have HE : Hid (leastB ps bags = (x : Int)) := Lib.hid (Between.done (by have h := HBT.out; rw [← hE] at h; exact h))
              go_wp2_with fail
              go_ret2
              exact ⟨ret_pair (by rw [HR.out.2, HE.out]) HR.out.1.symm, HNN.out⟩
    · have HR := Lib.hid (leastC_2 hvl hbg)
      have g1 := inB_false hbg
      clear hbg
      go_enter Try.func37, Try.ntmps37
      go_wp2_with fail
      refine (sokQ_any _ ps _ hv hfit hx).mono ?_
      rintro e w2 ⟨rfl, b2⟩
      rw [hvl]
      go_wp2_with (go_at_call 50; refine (in_any _ _ _ _).mono ?_; rintro e w3 ⟨rfl, hw3⟩; subst hw3)
      go_ret2
      exact ⟨ret_pair HR.out.2.symm HR.out.1.symm, b2⟩
end Go.Proofs.Ytadhoodddedjjaa
