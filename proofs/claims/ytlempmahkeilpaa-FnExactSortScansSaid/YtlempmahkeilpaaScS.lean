/-
  The model's code of scans, and its first scan that cannot be.
-/
import Derived.Test.YtlempmahkeilpaaScP
import Derived.Test.YtlempmahkeilpaaRel
namespace Go.Proofs.Ytlempmahkeilpaa
open Go Go.RowKit
set_option linter.unusedVariables false

set_option maxHeartbeats 4000000 in
set_option maxRecDepth 100000 in
theorem sscans_any (B : Nat) (st sy : Int) (v : Value) (ps : List Lan) (u : Value) (cs : List (Int × Int)) (fine : Bool) (w : World) (hn : FitN st sy ps) (hv : ReadsLa w v ps) (hu : ReadsSc w u cs) (hf : FitsSc cs) (hx : cs.length ≤ 1048576) (hb : BlkA w B 35 (netB st sy v)) :
    Calls Try.prog 60 #[.pointer (some ⟨B, 0, none⟩), u, .bool fine] w fun e w' => e = .returned (.int .i64 (scnC st sy ps (fine && scsB st cs) cs.length)) ∧ Below w.heap.size w w' := by
  have HBX := Lib.hid hb
  have HV := Lib.hid hv
  have HN := Lib.hid hn
  have HST := Lib.hid hn.s
  have HF := Lib.hid hf
  obtain ⟨a, cap, rfl, ha⟩ := hu
  have HA := Lib.hid ha
  obtain ⟨m, hm⟩ : ∃ m, cs.length = m := ⟨_, rfl⟩
  have HM := Lib.hid hm
  rw [hm] at hx ⊢
  have HALL : Hid (scsK st cs m = scsB st cs) := Lib.hid (by rw [← hm]; rfl)
  clear hb hv hn hf ha hm
  go_enter Try.func60, Try.ntmps60
  go_wp2_with fail
  go_loopw [2, 7] (fun f i wr => ∃ k : Nat, k ≤ m ∧ i = .int .i64 k ∧ f = .bool (fine && scsK st cs k) ∧ Below w.heap.size w wr) (fun _ i _ => m - (intOf i).toNat)
  case atStart => exact ⟨0, Nat.zero_le _, rfl, by rw [scsK_zero]; simp, Below.refl _ _⟩
  case round =>
    obtain ⟨k, hk, rfl, rfl, hnx⟩ := hrel
    have HB := Lib.hid hnx
    have hsz := hnx.size
    obtain ⟨b, hbq⟩ : ∃ b, (fine && scsK st cs k) = b := ⟨_, rfl⟩
    have HQ := Lib.hid hbq
    rw [hbq]
    by_cases hlt : k < m
    · have hkl : (k : Int) < (m : Int) := by omega
      have HNX : Hid ((fine && scsK st cs (k + 1)) = (b && scB st (cs.getD k (0, 0)).1 (cs.getD k (0, 0)).2)) := Lib.hid (by rw [scsK_succ, ← Bool.and_assoc, HQ.out])
      obtain ⟨g, rfl, hc⟩ := HA.out (by intro e; have := HM.out; rw [e] at this; simp at this; omega)
      obtain ⟨e0, e1⟩ := (hc.below hnx) k (by rw [HM.out]; exact hlt)
      have hfk := HF.out.get k (by rw [HM.out]; exact hlt)
      obtain ⟨q, hq⟩ : ∃ q, cs.getD k (0, 0) = q := ⟨_, rfl⟩
      rw [hq] at e0 e1 hfk HNX
      obtain ⟨x0, x1⟩ := q
      simp only at e0 e1 HNX
      have HFK := Lib.hid hfk
      clear hq hc hnx hbq hfk
      cases b
      · have HZ : Hid ((fine && scsK st cs (k + 1)) = false) := Lib.hid (by rw [HNX.out]; rfl)
        go_wp2_with fail
        go_roundw
        case rel => exact ⟨k + 1, by omega, by go_num, by rw [HZ.out], HB.out⟩
        case measure => simp [intOf]; omega
      · obtain ⟨z, hz⟩ : ∃ z, scB st x0 x1 = z := ⟨_, rfl⟩
        have HZ : Hid ((fine && scsK st cs (k + 1)) = z) := Lib.hid (by rw [HNX.out, hz]; rfl)
        have HSC : Hid (∀ W, Below w.heap.size w W → Calls Try.prog 33 #[.pointer (some ⟨B, 0, none⟩), .agg #[.int .i8 x0, .int .i16 x1]] W fun e w' => e = .returned (.bool z) ∧ Below W.heap.size W w') := Lib.hid (fun W hW => by rw [← hz]; exact sscan_any B st sy v x0 x1 W HST.out HFK.out (HBX.out.below hW))
        clear hz HNX
        go_wp2_with (go_at_call 33; refine (HSC.out _ HB.out).mono ?_; rintro e w3 ⟨rfl, b3⟩; have HB3 := Lib.hid (blink HB.out b3); clear b3)
        go_roundw
        case rel => exact ⟨k + 1, by omega, by go_num, by rw [HZ.out], HB3.out⟩
        case measure => simp [intOf]; omega
    · have hk' : k = m := by omega
      have HQ2 : Hid ((fine && scsB st cs) = b) := Lib.hid (by rw [← HALL.out, ← hk']; exact HQ.out)
      have HV2 := Lib.hid (HV.out.below hnx)
      have HBX2 := Lib.hid (HBX.out.below hnx)
      have HCQ : Hid (scnC st sy ps (fine && scsB st cs) m = if askC st sy ps b = 0 ∧ 12 < m then 3 else askC st sy ps b) := Lib.hid (by rw [HQ2.out]; exact scnC_ask st sy ps b m)
      clear hk' hnx hbq
      go_wp2_with fail
      refine (sasked_any B st sy v ps b _ HN.out HV2.out HBX2.out).mono ?_
      rintro e w3 ⟨rfl, b3⟩
      have HB3 := Lib.hid (blink HB.out b3)
      clear b3
      obtain ⟨c, hc⟩ : ∃ c, askC st sy ps b = c := ⟨_, rfl⟩
      rw [hc] at HCQ ⊢
      clear hc
      by_cases h0 : c = 0
      · subst h0
        by_cases h12 : 12 < m
        · have t12 : decide ((12 : Int) < (m : Int)) = true := decide_eq_true (by omega)
          have HR : Hid (scnC st sy ps (fine && scsB st cs) m = 3) := Lib.hid (by rw [HCQ.out, if_pos ⟨rfl, h12⟩])
          go_wp2_with fail
          go_ret
          exact ⟨ret_int HR.out.symm, HB3.out⟩
        · have t12 : decide ((12 : Int) < (m : Int)) = false := decide_eq_false (by omega)
          have HR : Hid (scnC st sy ps (fine && scsB st cs) m = 0) := Lib.hid (by rw [HCQ.out, if_neg (fun h => h12 h.2)])
          go_wp2_with fail
          go_ret
          exact ⟨ret_int HR.out.symm, HB3.out⟩
      · have t0 : (c == 0) = false := by simp [h0]
        have HR : Hid (scnC st sy ps (fine && scsB st cs) m = c) := Lib.hid (by rw [HCQ.out, if_neg (fun h => h0 h.1)])
        clear h0
        go_wp2_with fail
        go_ret
        exact ⟨ret_int HR.out.symm, HB3.out⟩

end Go.Proofs.Ytlempmahkeilpaa
