/-
  The model's code of scans, and its first scan that cannot be.
-/
import Derived.Test.YtloelbaaolhlhaaScP
import Derived.Test.YtloelbaaolhlhaaRel
namespace Go.Proofs.Ytloelbaaolhlhaa
open Go Go.RowKit
set_option linter.unusedVariables false

set_option maxHeartbeats 4000000 in
set_option maxRecDepth 100000 in
theorem sscans_any (B : Nat) (st sy : Int) (v : Value) (ps : List Lan) (u : Value) (cs : List (Int × Int)) (fine : Bool) (w : World) (hn : FitN st sy ps) (hv : ReadsLa w v ps) (hu : ReadsSc w u cs) (hf : FitsSc cs) (hx : cs.length ≤ 1048576) (hb : BlkA w B 35 (netB st sy v)) :
    Calls Try.prog 72 #[.pointer (some ⟨B, 0, none⟩), u, .bool fine] w fun e w' => e = .returned (.int .i64 (scnC st sy ps (fine && scsB st cs) cs.length)) ∧ Below w.heap.size w w' := by
  have HBX := Lib.hid hb
  have HV := Lib.hid hv
  have HN := Lib.hid hn
  have HST := Lib.hid hn.s
  have HF := Lib.hid hf
  obtain ⟨a, cap, rfl, ha⟩ := hu
  have HA := Lib.hid ha
  obtain ⟨m, hm⟩ : ∃ m, cs.length = m := ⟨_, rfl⟩
  have HM := Lib.hid hm
  rw [hm] at hx ⊢
  have HALL : Hid (scsK st cs m = scsB st cs) := Lib.hid (by rw [← hm]; rfl)
  clear hb hv hn hf ha hm
  go_enter Try.func72, Try.ntmps72
  go_wp2_with fail
  go_loopw [2, 7] (fun f i wr => ∃ k : Nat, k ≤ m ∧ i = .int .i64 k ∧ f = .bool (fine && scsK st cs k) ∧ Below w.heap.size w wr) (fun _ i _ => m - (intOf i).toNat)
  case atStart => exact ⟨0, Nat.zero_le _, rfl, by rw [scsK_zero]; simp, Below.refl _ _⟩
  case round =>
    obtain ⟨k, hk, rfl, rfl, hnx⟩ := hrel
    have HB := Lib.hid hnx
    have hsz := hnx.size
    obtain ⟨b, hbq⟩ : ∃ b, (fine && scsK st cs k) = b := ⟨_, rfl⟩
    have HQ := Lib.hid hbq
    rw [hbq]
    by_cases hlt : k < m
    · have hkl : (k : Int) < (m : Int) := by omega
      have HNX : Hid ((fine && scsK st cs (k + 1)) = (b && scB st (cs.getD k (0, 0)).1 (cs.getD k (0, 0)).2)) := Lib.hid (by rw [scsK_succ, ← Bool.and_assoc, HQ.out])
      obtain ⟨g, rfl, hc⟩ := HA.out (by intro e; have := HM.out; rw [e] at this; simp at this; omega)
      obtain ⟨e0, e1⟩ := (hc.below hnx) k (by rw [HM.out]; exact hlt)
      have hfk := HF.out.get k (by rw [HM.out]; exact hlt)
      obtain ⟨q, hq⟩ : ∃ q, cs.getD k (0, 0) = q := ⟨_, rfl⟩
      rw [hq] at e0 e1 hfk HNX
      obtain ⟨x0, x1⟩ := q
      simp only at e0 e1 HNX
      have HFK := Lib.hid hfk
      clear hq hc hnx hbq hfk
      cases b
      · have HZ : Hid ((fine && scsK st cs (k + 1)) = false) := Lib.hid (by rw [HNX.out]; rfl)
        go_wp2_with fail
        go_roundw
        case rel => exact ⟨k + 1, by omega, by go_num, by rw [HZ.out], HB.out⟩
        case measure => simp [intOf]; omega
      · obtain ⟨z, hz⟩ : ∃ z, scB st x0 x1 = z := ⟨_, rfl⟩
        have HZ : Hid ((fine && scsK st cs (k + 1)) = z) := Lib.hid (by rw [HNX.out, hz]; rfl)
        have HSC : Hid (∀ W, Below w.heap.size w W → Calls Try.prog 55 #[.pointer (some ⟨B, 0, none⟩), .agg #[.int .i8 x0, .int .i16 x1]] W fun e w' => e = .returned (.bool z) ∧ Below W.heap.size W w') := Lib.hid (fun W hW => by rw [← hz]; exact sscan_any B st sy v x0 x1 W HST.out HFK.out (HBX.out.below hW))
        clear hz HNX
        go_wp2_with (go_at_call 55; refine (HSC.out _ HB.out).mono ?_; rintro e w3 ⟨rfl, b3⟩; have HB3 := Lib.hid (blink HB.out b3); clear b3)
        go_roundw
        case rel => exact ⟨k + 1, by omega, by go_num, by rw [HZ.out], HB3.out⟩
        case measure => simp [intOf]; omega
    · have hk' : k = m := by omega
      have HQ2 : Hid ((fine && scsB st cs) = b) := Lib.hid (by rw [← HALL.out, ← hk']; exact HQ.out)
      have HV2 := Lib.hid (HV.out.below hnx)
      have HBX2 := Lib.hid (HBX.out.below hnx)
      have HCQ : Hid (scnC st sy ps (fine && scsB st cs) m = if askC st sy ps b = 0 ∧ 12 < m then 3 else askC st sy ps b) := Lib.hid (by rw [HQ2.out]; exact scnC_ask st sy ps b m)
      clear hk' hnx hbq
      go_wp2_with fail
      refine (sasked_any B st sy v ps b _ HN.out HV2.out HBX2.out).mono ?_
      rintro e w3 ⟨rfl, b3⟩
      have HB3 := Lib.hid (blink HB.out b3)
      clear b3
      obtain ⟨c, hc⟩ : ∃ c, askC st sy ps b = c := ⟨_, rfl⟩
      rw [hc] at HCQ ⊢
      clear hc
      by_cases h0 : c = 0
      · subst h0
        by_cases h12 : 12 < m
        · have t12 : decide ((12 : Int) < (m : Int)) = true := decide_eq_true (by omega)
          have HR : Hid (scnC st sy ps (fine && scsB st cs) m = 3) := Lib.hid (by rw [HCQ.out, if_pos ⟨rfl, h12⟩])
          go_wp2_with fail
          go_ret
          exact ⟨ret_int HR.out.symm, HB3.out⟩
        · have t12 : decide ((12 : Int) < (m : Int)) = false := decide_eq_false (by omega)
          have HR : Hid (scnC st sy ps (fine && scsB st cs) m = 0) := Lib.hid (by rw [HCQ.out, if_neg (fun h => h12 h.2)])
          go_wp2_with fail
          go_ret
          exact ⟨ret_int HR.out.symm, HB3.out⟩
      · have t0 : (c == 0) = false := by simp [h0]
        have HR : Hid (scnC st sy ps (fine && scsB st cs) m = c) := Lib.hid (by rw [HCQ.out, if_neg (fun h => h0 h.1)])
        clear h0
        go_wp2_with fail
        go_ret
        exact ⟨ret_int HR.out.symm, HB3.out⟩

set_option maxHeartbeats 4000000 in
set_option maxRecDepth 100000 in
theorem sbad_any (B st sy : Nat) (v : Value) (ps : List Lan) (u : Value) (cs : List (Int × Int)) (w : World) (hok : okNet (st : Int) (sy : Int) ps) (hv : ReadsLa w v ps) (hu : ReadsSc w u cs) (hsc : OkScTo (st : Int) cs cs.length) (hx : cs.length ≤ 1048576) (hb : BlkA w B 35 (netB (st : Int) (sy : Int) v)) :
    Calls Try.prog 73 #[.pointer (some ⟨B, 0, none⟩), u] w fun e w' => e = .returned (.int .i64 (badS (sy : Int) ps cs)) ∧ Below w.heap.size w w' := by
  have HBX := Lib.hid hb
  have HV := Lib.hid hv
  have HOK := Lib.hid hok
  have HSC := Lib.hid hsc
  obtain ⟨a, cap, rfl, ha⟩ := hu
  have HA := Lib.hid ha
  obtain ⟨m, hm⟩ : ∃ m, cs.length = m := ⟨_, rfl⟩
  have HM := Lib.hid hm
  have HBS : Hid (badS (sy : Int) ps cs = badI (goB (sy : Int) ps cs) m) := Lib.hid (by unfold badS; rw [hm])
  rw [hm] at hx ⊢
  clear hb hv hok ha hm hsc
  go_enter Try.func73, Try.ntmps73
  go_wp2_with fail
  go_loopw [5] (fun i wr => ∃ k : Nat, 1 ≤ k ∧ (k ≤ m ∨ k = 1) ∧ i = .int .i64 k ∧ okTo (goB (sy : Int) ps cs) k ∧ Below w.heap.size w wr) (fun i _ => m - (intOf i).toNat)
  case atStart => exact ⟨1, Nat.le_refl _, .inr rfl, rfl, okTo.one _, Below.refl _ _⟩
  case round =>
    obtain ⟨k, hk1, hk, rfl, hok, hnx⟩ := hrel
    have HB := Lib.hid hnx
    have HO := Lib.hid hok
    by_cases hlt : k < m
    · have hkl : (k : Int) < (m : Int) := by omega
      obtain ⟨g, rfl, hc⟩ := HA.out (by intro e; have := HM.out; rw [e] at this; simp at this; omega)
      obtain ⟨j, hjk⟩ : ∃ j, k = j + 1 := ⟨k - 1, by omega⟩
      obtain ⟨p0, p1⟩ := (hc.below hnx) j (by rw [HM.out]; omega)
      obtain ⟨q0, q1⟩ := (hc.below hnx) k (by rw [HM.out]; exact hlt)
      have hst8 := HOK.out.1.2
      obtain ⟨s0, h0, hp, hs0, hh0⟩ := ok_nats (i := j) hst8 HSC.out (by rw [HM.out]; omega)
      obtain ⟨s1, h1, hq, hs1, hh1⟩ := ok_nats (i := k) hst8 HSC.out (by rw [HM.out]; exact hlt)
      have HG : Hid (goB (sy : Int) ps cs k = arrB ps (-1) (sy : Int) (s0 : Int) (h0 : Int) (s1 : Int) (h1 : Int)) := Lib.hid (by unfold goB; rw [show k - 1 = j by omega, hp, hq])
      rw [hp] at p0 p1
      rw [hq] at q0 q1
      simp only at p0 p1 q0 q1
      have e1 : (k : Int) - 1 = (j : Int) := by omega
      have hw1 : IntKind.i64.wrap ((k : Int) - 1) = (j : Int) := by rw [e1]; exact IntWalk.i64_in _ (by omega)
      have hj0 : (0 : Int) ≤ (j : Int) := by omega
      have hjm : (j : Int) < (m : Int) := by omega
      have hj0' : (0 : Int) ≤ (k : Int) := by omega
      have hjn : j < m := by omega
      have HJK := Lib.hid hjk
      clear hjk e1
      have HBN := Lib.hid (HBX.out.below hnx)
      have HVN := Lib.hid (HV.out.below hnx)
      have SD : wr.drew.cell? ⟨g, j * 2, none⟩ = some (.int .i8 (s0 : Int)) ∧ wr.drew.cell? ⟨g, j * 2 + 1, none⟩ = some (.int .i16 (h0 : Int)) ∧ wr.drew.cell? ⟨g, k * 2, none⟩ = some (.int .i8 (s1 : Int)) ∧ wr.drew.cell? ⟨g, k * 2 + 1, none⟩ = some (.int .i16 (h1 : Int)) := ⟨p0, p1, q0, q1⟩
      have KD : Below w.heap.size w wr.drew := hnx.drew
      obtain ⟨gv, hgv⟩ : ∃ gv, goB (sy : Int) ps cs k = gv := ⟨_, rfl⟩
      have HGV := Lib.hid hgv
      have HCALL : Hid (∀ W, Below w.heap.size w W → Calls Try.prog 77 #[.pointer (some ⟨B, 0, none⟩), .agg #[.int .i8 (s0 : Int), .int .i16 (h0 : Int)], .agg #[.int .i8 (s1 : Int), .int .i16 (h1 : Int)], .int .i64 (-1)] W fun e w' => e = .returned (.bool gv) ∧ Below W.heap.size W w') := Lib.hid (fun W hW => by
        refine (sgoes_any B st sy v ps s0 h0 s1 h1 (-1) HOK.out hs0 hh0 hs1 hh1 (by omega) W (HV.out.below hW) (HBX.out.below hW)).mono ?_
        rintro e w5 ⟨r, rfl, hr, b5⟩
        refine ⟨ret_bool ?_, b5⟩
        rw [← hgv, HG.out]
        exact arrB_of (by simpa using hr))
      clear p0 p1 q0 q1 hp hq hc hnx hok hgv
      go_wp2_with fail
      go_region_held3 (fun v => v.cell? ⟨g, j * 2, none⟩ = some (.int .i8 (s0 : Int)) ∧ v.cell? ⟨g, j * 2 + 1, none⟩ = some (.int .i16 (h0 : Int)) ∧ v.cell? ⟨g, k * 2, none⟩ = some (.int .i8 (s1 : Int)) ∧ v.cell? ⟨g, k * 2 + 1, none⟩ = some (.int .i16 (h1 : Int))) (first | (with_reducible exact SD) | (with_reducible exact zS))
        (first | (go_at_call 77; (with_reducible refine (HCALL.out _ KD).mono ?_); rintro e w5 ⟨rfl, d1⟩; have zS : w5.cell? ⟨g, j * 2, none⟩ = some (.int .i8 (s0 : Int)) ∧ w5.cell? ⟨g, j * 2 + 1, none⟩ = some (.int .i16 (h0 : Int)) ∧ w5.cell? ⟨g, k * 2, none⟩ = some (.int .i8 (s1 : Int)) ∧ w5.cell? ⟨g, k * 2 + 1, none⟩ = some (.int .i16 (h1 : Int)) := ⟨cbl d1 SD.1, cbl d1 SD.2.1, cbl d1 SD.2.2.1, cbl d1 SD.2.2.2⟩; have K1 := blink KD d1))
      have HK1 := Lib.hid K1
      clear K1 KD SD zS d1
      cases gv
      · have HR : Hid (badS (sy : Int) ps cs = (k : Int)) := Lib.hid (by rw [HBS.out]; exact badI_at (by omega) hlt HO.out HGV.out)
        go_wp2_with fail
        go_ret
        exact ⟨ret_int HR.out.symm, HK1.out⟩
      · go_wp2_with fail
        go_roundw
        case rel => exact ⟨k + 1, by omega, by omega, by go_num, HO.out.succ HGV.out, HK1.out⟩
        case measure => simp [intOf]; omega
    · have HR : Hid (badS (sy : Int) ps cs = -1) := Lib.hid (by rw [HBS.out]; exact badI_none (by omega) hok)
      clear hnx hok
      go_wp2_with fail
      go_ret
      exact ⟨ret_int HR.out.symm, HB.out⟩
end Go.Proofs.Ytloelbaaolhlhaa
