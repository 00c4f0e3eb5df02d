/-
  The contract of l02Cut, and of both FitsPaper.
-/
import Derived.Test.YtpefkdhmkamdaaaCut
import Derived.Test.YtpefkdhmkamdaaaPaper2
namespace Go.Proofs.Ytpefkdhmkamdaaa
open Go Go.RowKit
set_option linter.unusedVariables false

theorem int_eq {k : IntKind} {a b : Int} (h : a = b) : Value.int k a = Value.int k b := by rw [h]
theorem cutOf_okbd {wide : Int} {l : List Tri} (h : ∀ t ∈ l, OkT t) : CutBd (cutOf wide l) := by
  have e : (l.attach.map (fun t => (⟨t.1, h t.1 t.2⟩ : Turn))).map (fun t : Turn => t.1) = l := by
    rw [List.map_map]; exact List.attach_map_subtype_val l
  rw [← e]; exact cutOf_bd wide _

set_option maxHeartbeats 1600000 in
set_option maxRecDepth 100000 in
theorem scut_any (a b c wide : Int) (hok : okB a b c = true) (w : World) :
    Calls Try.prog 19 #[.agg #[.int .i8 a, .int .i8 b, .int .i8 c], .int .i64 wide] w fun e w' => e = .returned (.int .i64 (cutOf wide (turnsL (lo3 a b c) (mi3 a b c) (hi3 a b c)))) ∧ Below w.heap.size w w' := by
  obtain ⟨W1, e1⟩ : ∃ W, w.alloc (.cells #[.int .i8 a, .int .i8 b, .int .i8 c] 27) = W := ⟨_, rfl⟩
  have HE1 := Lib.hid e1
  have B1 : Hid (Below w.heap.size w W1) := Lib.hid (by rw [← e1]; exact (Below.refl _ _).alloc (Nat.le_refl _) _)
  clear e1
  have hbd := of_decide_eq_true hok
  have hord := ord3 a b c
  obtain ⟨ts, hts⟩ : ∃ ts, turnsL (lo3 a b c) (mi3 a b c) (hi3 a b c) = ts := ⟨_, rfl⟩
  have hokt : ∀ t ∈ ts, OkT t := by rw [← hts]; exact turnsL_ok (by omega) hord.1 hord.2 hbd.2
  have hlen : 1 ≤ ts.length ∧ ts.length ≤ 6 := by rw [← hts]; exact turnsL_len _ _ _
  rw [hts]
  have HTS := Lib.hid hts
  have HOK := Lib.hid hokt
  clear hok hbd hord hts hokt
  go_enter Try.func19, Try.ntmps19
  go_wp2_with fail
  rw [HE1.out]
  refine (sturns_any a b c _).mono ?_
  rintro e w3 ⟨v, rfl, o3, b3⟩
  rw [HTS.out] at o3
  obtain ⟨g, cap, hv, hgB, hgw, hlc, hcm, hcl, hfz⟩ : ∃ g cap, v = .slice (some ⟨g, 0, none⟩) ts.length cap ∧ W1.heap.size ≤ g ∧ g < w3.heap.size ∧ ts.length ≤ cap ∧ cap ≤ maxLen ∧ CellsB w3 g ts ∧ (∀ j, w3.frozen? ⟨g, j, none⟩ = false) := by
    rcases o3.cases with ⟨_, h⟩ | h
    · rw [h] at hlen; simp at hlen
    · exact h
  subst hv
  have B3 := Lib.hid (blink B1.out b3)
  have HCL := Lib.hid hcl
  obtain ⟨len, hl⟩ : ∃ len, ts.length = len := ⟨_, rfl⟩
  rw [hl] at hlen hlc
  rw [hl]
  have HL := Lib.hid hl
  obtain ⟨l1, l6⟩ := hlen
  clear o3 b3 hl hcl hfz hcm
  go_wp2_with fail
  go_loopw [5, 7] (fun bs i wr => ∃ k : Nat, k ≤ len ∧ i = .int .i64 k ∧ bs = .int .i64 (cutOf wide (ts.take k)) ∧ Below w3.heap.size w3 wr) (fun _ i _ => len - (intOf i).toNat)
  case atStart => exact ⟨0, by omega, rfl, rfl, Below.refl _ _⟩
  case round =>
    obtain ⟨k, hk, rfl, rfl, hnx⟩ := hrel
    by_cases hlt : k < len
    · have hkt : k < ts.length := by have := HL.out; omega
      obtain ⟨c0, c1, c2⟩ := HCL.out.below hnx k hkt
      have hokk : OkT (ts.getD k (0, 0, 0)) := HOK.out _ (by rw [List.getD, List.getElem?_eq_getElem hkt]; exact List.getElem_mem _)
      have hsn : cutOf wide (ts.take (k + 1)) = cutStep wide (cutOf wide (ts.take k)) (ts.getD k (0, 0, 0)) := by
        rw [List.take_succ_eq_append_getElem hkt, cutOf_snoc]
        simp [List.getD, hkt]
      have hpb : CutBd (cutOf wide (ts.take k)) := cutOf_okbd (fun t ht => HOK.out t (List.mem_of_mem_take ht))
      obtain ⟨t, ht⟩ : ∃ t, ts.getD k (0, 0, 0) = t := ⟨_, rfl⟩
      obtain ⟨s, hs⟩ : ∃ s, cutOf wide (ts.take k) = s := ⟨_, rfl⟩
      rw [ht] at c0 c1 c2 hokk hsn
      rw [hs] at hsn hpb
      rw [hs]
      have hbd := need_bd hokk
      have hnd := sneeds_any t hokk wr
      obtain ⟨nw, hnw⟩ : ∃ v, needW t = v := ⟨_, rfl⟩
      obtain ⟨nl, hnl⟩ : ∃ v, needL t = v := ⟨_, rfl⟩
      unfold cutStep at hsn
      dsimp only at hsn
      rw [hnw, hnl] at hbd hnd hsn
      obtain ⟨p1, p2⟩ := hpb
      obtain ⟨n1, n2, n3, n4⟩ := hbd
      have HND := Lib.hid hnd
      have HSN := Lib.hid hsn
      have HN := Lib.hid hnx
      have hwr : w3.heap.size ≤ wr.heap.size := hnx.size
      have hki : (k : Int) < (len : Int) := by omega
      clear hnd hsn hnx hs ht hnw hnl hokk hkt
      go_wp2_with fail
      refine HND.out.mono ?_
      rintro e w5 ⟨rfl, b5⟩
      have HB5 : Hid (Below w3.heap.size w3 w5) := Lib.hid (HN.out.trans (b5.mono hwr))
      clear b5 c0 c1 c2
      go_wp2_with fail
      all_goals
        go_roundw
        case rel => exact ⟨k + 1, by omega, by go_num, int_eq (by rw [HSN.out]; (repeat' split) <;> omega), HB5.out⟩
        case measure => simp [intOf]; omega
    · obtain rfl : k = len := by omega
      have HE : Hid (cutOf wide (ts.take k) = cutOf wide ts) := Lib.hid (by rw [← HL.out, List.take_length])
      have HBE : Hid (Below w.heap.size w wr) := Lib.hid (blink B3.out hnx)
      rw [HE.out]
      clear hnx
      go_wp2_with fail
      go_ret
      exact ⟨rfl, HBE.out⟩
end Go.Proofs.Ytpefkdhmkamdaaa
