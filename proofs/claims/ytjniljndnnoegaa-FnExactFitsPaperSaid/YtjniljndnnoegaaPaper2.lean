/-
  Contracts of both PaperFor.
-/
import Derived.Test.YtjniljndnnoegaaPaper
import Derived.Test.YtjniljndnnoegaaSTurns
namespace Go.Proofs.Ytjniljndnnoegaa
open Go Go.RowKit
set_option linter.unusedVariables false

theorem papOf_okbd {l : List Tri} (h : ∀ t ∈ l, OkT t) : PapBd (papOf l) := by
  have e : (l.attach.map (fun t => (⟨t.1, h t.1 t.2⟩ : Turn))).map (fun t : Turn => t.1) = l := by
    rw [List.map_map]; exact List.attach_map_subtype_val l
  rw [← e]; exact papOf_bd _
def papCode (a b c : Int) : Int := if okB a b c = true then 0 else 1
def papRes (a b c : Int) : Int × Int := if okB a b c = true then papOf (turnsL (lo3 a b c) (mi3 a b c) (hi3 a b c)) else (0, 0)
theorem pap_ok {a b c : Int} (h : okB a b c = true) : papRes a b c = papOf (turnsL (lo3 a b c) (mi3 a b c) (hi3 a b c)) ∧ papCode a b c = 0 := by unfold papRes papCode; rw [if_pos h, if_pos h]; exact ⟨rfl, rfl⟩
theorem pap_no {a b c : Int} (h : okB a b c = false) : papRes a b c = (0, 0) ∧ papCode a b c = 1 := by
  unfold papRes papCode; rw [if_neg (by rw [h]; simp), if_neg (by rw [h]; simp)]; exact ⟨rfl, rfl⟩
theorem ret_pap {a b c x y k : Int} {s : Int × Int} (h : papRes a b c = s ∧ papCode a b c = k) (h1 : s.1 = x) (h2 : s.2 = y) :
    Ending.returned (.tuple #[.int .i64 x, .int .i64 y, .int .i64 k]) = .returned (.tuple #[.int .i64 (papRes a b c).1, .int .i64 (papRes a b c).2, .int .i64 (papCode a b c)]) := by rw [h.1, h.2, h1, h2]

theorem ipaper_any (a b c : Int) (w : World) (ha : I8s a b c) :
    Calls Try.prog 33 #[.agg #[.int .i8 a, .int .i8 b, .int .i8 c]] w fun e w' => e = .returned (.tuple #[.int .i64 (papRes a b c).1, .int .i64 (papRes a b c).2, .int .i64 (papCode a b c)]) ∧ Below w.heap.size w w' := by
  obtain ⟨o, ho⟩ : ∃ o, okB a b c = o := ⟨_, rfl⟩
  cases o
  · have HR := Lib.hid (pap_no ho)
    have HO := Lib.hid ho
    have HA := Lib.hid ha
    clear ho ha
    obtain ⟨W1, e1⟩ : ∃ W, w.alloc (.cells #[.int .i8 a, .int .i8 b, .int .i8 c] 26) = W := ⟨_, rfl⟩
    have HE1 := Lib.hid e1
    have B1 : Hid (Below w.heap.size w W1) := Lib.hid (by rw [← e1]; exact (Below.refl _ _).alloc (Nat.le_refl _) _)
    clear e1
    go_enter Try.func33, Try.ntmps33
    go_wp2_with fail
    rw [HE1.out]
    refine (ivbox_any a b c _ HA.out).mono ?_
    rintro e w2 ⟨rfl, b2⟩
    rw [HO.out]
    have B2 := Lib.hid (blink B1.out b2)
    clear b2
    go_wp2_with fail
    go_ret3
    exact ⟨ret_pap HR.out rfl rfl, B2.out⟩
  · have h := pap_ok ho
    rw [h.1, h.2]
    exact callsIn_wide.1 (ipaper_in a b c ho w ha)

set_option maxHeartbeats 800000 in
set_option maxRecDepth 100000 in
theorem spaper_any (a b c : Int) (w : World) (ha : I8s a b c) :
    Calls Try.prog 32 #[.agg #[.int .i8 a, .int .i8 b, .int .i8 c]] w fun e w' => e = .returned (.tuple #[.int .i64 (papRes a b c).1, .int .i64 (papRes a b c).2, .int .i64 (papCode a b c)]) ∧ Below w.heap.size w w' := by
  have HA := Lib.hid ha
  clear ha
  obtain ⟨W1, e1⟩ : ∃ W, w.alloc (.cells #[.int .i8 a, .int .i8 b, .int .i8 c] 26) = W := ⟨_, rfl⟩
  have HE1 := Lib.hid e1
  have B1 : Hid (Below w.heap.size w W1) := Lib.hid (by rw [← e1]; exact (Below.refl _ _).alloc (Nat.le_refl _) _)
  have Q1 : Hid (At3 W1 w.heap.size a b c) := Lib.hid (by rw [← e1]; exact At3.new _ _ _ _ _)
  clear e1
  obtain ⟨o, ho⟩ : ∃ o, okB a b c = o := ⟨_, rfl⟩
  cases o
  · have HR := Lib.hid (pap_no ho)
    have HO := Lib.hid ho
    clear ho
    go_enter Try.func32, Try.ntmps32
    go_wp2_with fail
    rw [HE1.out]
    refine (sok_any a b c _ HA.out).mono ?_
    rintro e w2 ⟨rfl, b2⟩
    rw [HO.out]
    have B2 := Lib.hid (blink B1.out b2)
    clear b2
    go_wp2_with fail
    go_ret3
    exact ⟨ret_pap HR.out rfl rfl, B2.out⟩
  · have HR := Lib.hid (pap_ok ho)
    have HO := Lib.hid ho
    have hbd := of_decide_eq_true ho
    have hord := ord3 a b c
    obtain ⟨ts, hts⟩ : ∃ ts, turnsL (lo3 a b c) (mi3 a b c) (hi3 a b c) = ts := ⟨_, rfl⟩
    have hok : ∀ t ∈ ts, OkT t := by rw [← hts]; exact turnsL_ok (by omega) hord.1 hord.2 hbd.2
    have hlen : 1 ≤ ts.length ∧ ts.length ≤ 6 := by rw [← hts]; exact turnsL_len _ _ _
    have HTS := Lib.hid hts
    have HOK := Lib.hid hok
    clear ho hbd hord hts hok
    go_enter Try.func32, Try.ntmps32
    go_wp2_with fail
    rw [HE1.out]
    refine (sok_any a b c _ HA.out).mono ?_
    rintro e w2 ⟨rfl, b2⟩
    rw [HO.out]
    have q2 := Q1.out.below b2
    have g0 := q2.1
    have g1 := q2.2.1
    have g2 := q2.2.2
    have B2 := Lib.hid (blink B1.out b2)
    clear b2 q2
    go_wp2_with fail
    refine (sturns_any a b c _).mono ?_
    rintro e w3 ⟨v, rfl, o3, b3⟩
    rw [HTS.out] at o3
    obtain ⟨g, cap, hv, hgB, hgw, hlc, hcm, hcl, hfz⟩ : ∃ g cap, v = .slice (some ⟨g, 0, none⟩) ts.length cap ∧ w2.heap.size ≤ g ∧ g < w3.heap.size ∧ ts.length ≤ cap ∧ cap ≤ maxLen ∧ CellsB w3 g ts ∧ (∀ j, w3.frozen? ⟨g, j, none⟩ = false) := by
      rcases o3.cases with ⟨_, h⟩ | h
      · rw [h] at hlen; simp at hlen
      · exact h
    subst hv
    have B3 := Lib.hid (blink B2.out b3)
    have HCL := Lib.hid hcl
    obtain ⟨len, hl⟩ : ∃ len, ts.length = len := ⟨_, rfl⟩
    rw [hl] at hlen hlc
    rw [hl]
    have HL := Lib.hid hl
    obtain ⟨l1, l6⟩ := hlen
    obtain ⟨c0, c1, c2⟩ := hcl 0 (by omega)
    have hok0 : OkT (ts.getD 0 (0, 0, 0)) := HOK.out _ (by rw [List.getD, List.getElem?_eq_getElem (by omega)]; exact List.getElem_mem _)
    have hp1 : papOf (ts.take 1) = (needW (ts.getD 0 (0, 0, 0)), needL (ts.getD 0 (0, 0, 0))) := by
      have e : ts.take 1 = [ts.getD 0 (0, 0, 0)] := by
        rw [List.take_succ_eq_append_getElem (show 0 < ts.length by omega)]
        simp [List.getD, show 0 < ts.length by omega]
      rw [e]; exact papOf_first hok0
    obtain ⟨t0, ht0⟩ : ∃ t, ts.getD 0 (0, 0, 0) = t := ⟨_, rfl⟩
    rw [ht0] at c0 c1 c2 hok0 hp1
    simp only [Nat.zero_mul] at c0 c1 c2
    have HOK0 := Lib.hid hok0
    have HP1 := Lib.hid hp1
    clear o3 b3 hl hcl hfz hok0 hp1 ht0 hcm g0 g1 g2
    have hl0 : (0 : Int) < (len : Int) := by omega
    go_wp2_with fail
    refine (sneeds_any t0 HOK0.out _).mono ?_
    rintro e w4 ⟨rfl, b4⟩
    have HCL4 : Hid (CellsB w4 g ts) := Lib.hid (HCL.out.below b4)
    have B4 := Lib.hid (blink B3.out b4)
    clear b4 c0 c1 c2
    go_wp2_with fail
    go_loopw [6, 7, 8] (fun wd lg i wr => ∃ k : Nat, 1 ≤ k ∧ k ≤ len ∧ i = .int .i64 k ∧ wd = .int .i64 (papOf (ts.take k)).1 ∧ lg = .int .i64 (papOf (ts.take k)).2 ∧ Below w4.heap.size w4 wr) (fun _ _ i _ => len - (intOf i).toNat)
    case atStart => exact ⟨1, by omega, by omega, rfl, by rw [HP1.out], by rw [HP1.out], Below.refl _ _⟩
    case round =>
      obtain ⟨k, hk1, hk, rfl, rfl, rfl, hnx⟩ := hrel
      by_cases hlt : k < len
      · have hkt : k < ts.length := by have := HL.out; omega
        obtain ⟨c0, c1, c2⟩ := HCL4.out.below hnx k hkt
        have hokk : OkT (ts.getD k (0, 0, 0)) := HOK.out _ (by rw [List.getD, List.getElem?_eq_getElem hkt]; exact List.getElem_mem _)
        have hsn : papOf (ts.take (k + 1)) = papStep (papOf (ts.take k)) (ts.getD k (0, 0, 0)) := by
          rw [List.take_succ_eq_append_getElem hkt, papOf_snoc]
          simp [List.getD, hkt]
        have hpb : PapBd (papOf (ts.take k)) := papOf_okbd (fun t ht => HOK.out t (List.mem_of_mem_take ht))
        obtain ⟨t, ht⟩ : ∃ t, ts.getD k (0, 0, 0) = t := ⟨_, rfl⟩
        obtain ⟨s, hs⟩ : ∃ s, papOf (ts.take k) = s := ⟨_, rfl⟩
        rw [ht] at c0 c1 c2 hokk hsn
        rw [hs] at hsn hpb
        rw [hs]
        have hbd := need_bd hokk
        have hab := area_bd hokk
        have hnd := sneeds_any t hokk wr
        obtain ⟨sw, sl⟩ := s
        obtain ⟨nw, hnw⟩ : ∃ v, needW t = v := ⟨_, rfl⟩
        obtain ⟨nl, hnl⟩ : ∃ v, needL t = v := ⟨_, rfl⟩
        unfold papStep at hsn
        rw [hnw, hnl] at hbd hab hnd hsn
        obtain ⟨p1, p2, p3, p4⟩ := hpb
        simp only at p1 p2 p3 p4 hsn
        have hsb := mul_bd p1 p2 p3 p4
        obtain ⟨n1, n2, n3, n4⟩ := hbd
        obtain ⟨m1, m2⟩ := hab
        obtain ⟨m3, m4⟩ := hsb
        have HND := Lib.hid hnd
        have HSN := Lib.hid hsn
        have HN := Lib.hid hnx
        have hwr : w4.heap.size ≤ wr.heap.size := hnx.size
        have hki : (k : Int) < (len : Int) := by omega
        clear hnd hsn hnx hs ht hnw hnl hokk hkt
        go_wp2_with fail
        refine HND.out.mono ?_
        rintro e w5 ⟨rfl, b5⟩
        have HB5 : Hid (Below w4.heap.size w4 w5) := Lib.hid (HN.out.trans (b5.mono hwr))
        clear b5 c0 c1 c2
        by_cases h1 : nw * nl < sw * sl
        · have t1 : decide (nw * nl < sw * sl) = true := decide_eq_true h1
          have HS2 : Hid (papOf (ts.take (k + 1)) = (nw, nl)) := Lib.hid (by rw [HSN.out, if_pos (Or.inl h1)])
          go_wp2_with fail
          go_roundw
          case rel => exact ⟨k + 1, by omega, by omega, by go_num, by rw [HS2.out], by rw [HS2.out], HB5.out⟩
          case measure => simp [intOf]; omega
        · have t1 : decide (nw * nl < sw * sl) = false := decide_eq_false h1
          by_cases h2 : nw * nl = sw * sl
          · have t2 : (nw * nl == sw * sl) = true := by simp [h2]
            by_cases h3 : nw < sw
            · have t3 : decide (nw < sw) = true := decide_eq_true h3
              have H23 := Lib.hid (And.intro h2 h3)
              clear h2
              have HS2 : Hid (papOf (ts.take (k + 1)) = (nw, nl)) := Lib.hid (by rw [HSN.out, if_pos (Or.inr H23.out)])
              go_wp2_with fail
              go_roundw
              case rel => exact ⟨k + 1, by omega, by omega, by go_num, by rw [HS2.out], by rw [HS2.out], HB5.out⟩
              case measure => simp [intOf]; omega
            · have t3 : decide (nw < sw) = false := decide_eq_false h3
              have H13 : Hid (¬ (nw * nl < sw * sl ∨ nw * nl = sw * sl ∧ nw < sw)) := Lib.hid (fun h => h.elim h1 (fun g => h3 g.2))
              clear h2
              have HS2 : Hid (papOf (ts.take (k + 1)) = (sw, sl)) := Lib.hid (by rw [HSN.out, if_neg H13.out])
              go_wp2_with fail
              go_roundw
              case rel => exact ⟨k + 1, by omega, by omega, by go_num, by rw [HS2.out], by rw [HS2.out], HB5.out⟩
              case measure => simp [intOf]; omega
          · have t2 : (nw * nl == sw * sl) = false := by simp [h2]
            have H12 : Hid (¬ (nw * nl < sw * sl ∨ nw * nl = sw * sl ∧ nw < sw)) := Lib.hid (fun h => h.elim h1 (fun g => h2 g.1))
            have HS2 : Hid (papOf (ts.take (k + 1)) = (sw, sl)) := Lib.hid (by rw [HSN.out, if_neg H12.out])
            go_wp2_with fail
            go_roundw
            case rel => exact ⟨k + 1, by omega, by omega, by go_num, by rw [HS2.out], by rw [HS2.out], HB5.out⟩
            case measure => simp [intOf]; omega
      · obtain rfl : k = len := by omega
        have HE : Hid (papOf (ts.take k) = papOf ts) := Lib.hid (by rw [← HL.out, List.take_length])
        have HRE : Hid (papRes a b c = papOf ts ∧ papCode a b c = 0) := Lib.hid (by rw [HR.out.1, HTS.out]; exact ⟨rfl, HR.out.2⟩)
        have HBE : Hid (Below w.heap.size w wr) := Lib.hid (blink B4.out hnx)
        rw [HE.out]
        clear hnx
        go_wp2_with fail
        go_ret3
        exact ⟨ret_pap HRE.out rfl rfl, HBE.out⟩
end Go.Proofs.Ytjniljndnnoegaa
