/-
  strings.Lines: its iterator, whose lines are told by their numbers.
-/
import Derived.OwnWalkIn
import Derived.TacticsInMore
import Derived.LoopNIn
import Derived.LoopIn
import Derived.Shelf.Small.Strs
import Derived.Test.YtbclmafplaipaaaDoorLnP
import Derived.Test.YtbclmafplaipaaaDoorRdS
import Derived.Test.YtbclmafplaipaaaDoorOwL
import Derived.Test.YtbclmafplaipaaaDoorRelI
import Derived.Test.YtbclmafplaipaaaDoorLayIdx
namespace Go.Proofs.YtbclmafplaipaaaDoor
open Go Go.RowKit
set_option linter.unusedVariables false
attribute [local go_sem] Oper.semAt_some

theorem iidx_any (l : List UInt8) (w : World) :
    Calls Tryd.prog 131 #[.string (str l), .int .u8 10] w fun e w' => e = .returned (.int .i64 (Lib.indexByte l 10)) ∧ w = w' := by
  have k := Go.Proofs.Any.strings_IndexByte layIdx (str l) 10 w
  refine Calls.mono (f := 131) k ?_
  rintro e w' ⟨he, hw⟩
  rw [data_str] at he
  exact ⟨he, hw.symm⟩
theorem run_head (P : Program) (t : TypeId) (k : IntKind) (l : List UInt8) (a : Nat) (h : P.underlying t = some .string) (h1 : a ≤ l.length) (w : World) :
    (Instr.slice t (.string (str l)) none (some (.int k (a : Int))) none).run P w = .ok (.string (str (l.take a))) w := by
  rw [run_slice_string_to_if w t (str l) k a h, if_pos ⟨by omega, by rw [str_size]; omega⟩]
  simp only [Int.toNat_natCast]
  rw [str_cut]
  rfl
theorem rsN_lt {r : List UInt8} (h : r ≠ []) : (rsN r).length < r.length := by
  rcases split10 r with h1 | ⟨x, y, rfl, hx⟩
  · rw [(ln_none h1).2]; exact List.length_pos_iff.2 h
  · rw [(ln_some y hx).2]; simp; omega
def boxN (Bs : Nat) (w : World) : Nat := match w.cell? ⟨Bs, 0, none⟩ with
  | some (.string s) => s.size
  | _ => 0
theorem boxN_is {Bs : Nat} {w : World} {T : TypeId} {l : List UInt8} (h : BlkA w Bs T #[.string (str l)]) : boxN Bs w = l.length := by
  unfold boxN
  rw [show w.cell? ⟨Bs, 0, none⟩ = some (.string (str l)) from h.at 0]
  exact str_size l

set_option maxRecDepth 100000 in
set_option maxHeartbeats 2000000 in
theorem lines1_in (l Bs : Nat) (rest : List UInt8) (hr : rest.length ≤ 1048576) (J Jx : Nat → World → Prop) (B0 : Nat) (hJ : BoxFree Bs B0 J)
    (hY : ∀ k W, J k W → k < (lns rest).length → YieldAt Fence.wide 7 Tryd.prog l #[.string (str (lnN (rsK rest k)))] W fun e W' =>
      (e = .returned (.bool true) ∧ J (k + 1) W' ∧ KpBox Bs W W') ∨ (e = .returned (.bool false) ∧ Jx (k + 1) W'))
    (W : World) (hBs : BlkA W Bs 9 #[.string (str rest)]) (h0 : J 0 W) :
    CallsIn Fence.wide 8 Tryd.prog 130 #[.func (.yield l) #[] #[], .pointer (some ⟨Bs, 0, none⟩)] W fun e W' => (∃ v, e = .returned v) ∧
      (J (lns rest).length W' ∨ ∃ k, k ≤ (lns rest).length ∧ Jx k W') := by
  have hro : Fence.wide.round = none := rfl
  have hFF : ∀ f, Fence.wide.fn f := fun _ => trivial
  obtain ⟨N, hN⟩ : ∃ N, (lns rest).length = N := ⟨_, rfl⟩
  have HN := Lib.hid hN
  have HEND := Lib.hid (fun k (h : k ≤ N) => rs_end (rest := rest) (k := k) (by rw [hN]; exact h))
  rw [hN] at hY HEND ⊢
  have HRL : Hid (∀ k, (rsK rest k).length ≤ 1048576) := Lib.hid (fun k => Nat.le_trans (rsK_len rest k) hr)
  have HNX : Hid (∀ k, rsK rest (k + 1) = rsN (rsK rest k)) := Lib.hid (fun k => rfl)
  have hBs0 : BlkA W Bs 9 #[.string (str (rsK rest 0))] := hBs
  obtain ⟨RK, hRK⟩ : ∃ RK, rsK rest = RK := ⟨_, rfl⟩
  rw [hRK] at hY HEND HRL HNX hBs0
  have HY := Lib.hid hY
  clear hY hRK hN hr hBs
  refine callsIn_of_wp Tryd.func130 rfl trivial ?_ hro
  simp only [Tryd.ntmps130, List.size_toArray, List.length_cons, List.length_nil, Nat.reduceAdd, Nat.reduceSub, Array.replicate_succ, Array.replicate_zero, List.push_toArray, List.append_toArray, List.nil_append, List.cons_append]
  gi_wp2
  gi_loopw [] (fun wr => ∃ k : Nat, k ≤ N ∧ J k wr ∧ BlkA wr Bs 9 #[.string (str (RK k))]) (fun wr => boxN Bs wr)
  case atStart => exact ⟨0, Nat.zero_le _, h0, hBs0⟩
  case round =>
    obtain ⟨k, hk, hJs, hbx⟩ := hrel
    have hlen := HRL.out k
    have HKE := Lib.hid (HEND.out k hk)
    have HNK := Lib.hid (HNX.out k)
    have HYK := Lib.hid (fun W1 => HY.out k W1)
    obtain ⟨r, hrr⟩ : ∃ r, RK k = r := ⟨_, rfl⟩
    rw [hrr] at hbx hlen HKE HNK HYK
    have HBN := Lib.hid (boxN_is hbx)
    have HBX := Lib.hid hbx
    have HJS := Lib.hid hJs
    have hsz : (str r).size = r.length := str_size r
    have c0 := hbx.at 0
    have f0 := hbx.frozen 0
    clear hrr
    by_cases hre : r = []
    · have hkN : k = N := HKE.out.1 hre
      subst hkN
      subst hre
      gi_wp2
      go_end0
      exact ⟨⟨_, rfl⟩, .inl HJS.out⟩
    have hkl : k < N := by
      rcases Nat.lt_or_ge k N with h | h
      · exact h
      · exact absurd (HKE.out.2 (by omega)) hre
    have hlp : 0 < r.length := List.length_pos_iff.2 hre
    have HLT := Lib.hid (rsN_lt hre)
    obtain ⟨m, hm⟩ : ∃ m, r.length = m := ⟨_, rfl⟩
    have HM := Lib.hid hm
    rw [hm] at hsz hlp hlen
    clear hm hJs
    rcases split10 r with h10 | ⟨x, y, hxy, hx10⟩
    · have hix : Lib.indexByte r 10 = -1 := idx_none h10
      have HLN : Hid (lnN r = r ∧ RK (k + 1) = []) := Lib.hid ⟨(ln_none h10).1, by rw [HNK.out]; exact (ln_none h10).2⟩
      have hb1 : BlkA (wr.setCell ⟨Bs, 0, none⟩ (.string ⟨#[]⟩)) Bs 9 #[.string (str (RK (k + 1)))] := by rw [HLN.out.2]; exact hbx.set 0 _
      have hJ1 : J k (wr.setCell ⟨Bs, 0, none⟩ (.string ⟨#[]⟩)) := hJ k wr _ (some Bs) HJS.out (grownBy_setCell' wr Bs _) (fun q e => by cases e; exact .inl rfl)
      obtain ⟨fn, tmps, assign, body, hy, hR⟩ := HYK.out _ hJ1 hkl
      rw [HLN.out.1] at hy
      have HB1 := Lib.hid hb1
      have HR := Lib.hid hR
      have HDEC : Hid ((RK (k + 1)).length < m) := Lib.hid (by rw [HNK.out, ← HM.out]; exact HLT.out)
      clear hb1 hJ1 h10 hR hbx
      gi_wp2
      refine ((callsIn_wide (n := _)).2 (iidx_any r _)).mono ?_
      rintro e w3 ⟨rfl, rfl⟩
      rw [hix]
      gi_wp2
      refine HR.out.mono ?_
      rintro e W3 (⟨rfl, hJ3, hk3⟩ | ⟨rfl, hJx3⟩)
      · have hb3 : BlkA W3 Bs 9 #[.string (str (RK (k + 1)))] := hk3 _ HB1.out
        gi_wp2
        go_roundw
        case rel => exact ⟨k + 1, by omega, hJ3, hb3⟩
        case measure => rw [HBN.out, boxN_is hb3, HM.out]; exact HDEC.out
      · gi_wp2
        refine bodyPost_ret (results_none rfl _ _ _) rfl ?_
        exact ⟨⟨_, rfl⟩, .inr ⟨k + 1, by omega, hJx3⟩⟩
    · have hix : Lib.indexByte r 10 = (x.length : Int) := by rw [hxy]; exact idx_some y hx10
      obtain ⟨i, hi⟩ : ∃ i, x.length = i := ⟨_, rfl⟩
      rw [hi] at hix
      have him : i < m := by have e := congrArg List.length hxy; rw [HM.out, List.length_append, List.length_cons] at e; omega
      have HL1 : Hid (lnN r = r.take (i + 1)) := Lib.hid (by unfold lnN; rw [hix, if_pos (by omega)]; simp)
      have HR1 : Hid (RK (k + 1) = r.drop (i + 1)) := Lib.hid (by rw [HNK.out]; unfold rsN; rw [hix, if_pos (by omega)]; simp)
      have HDEC : Hid ((RK (k + 1)).length < m) := Lib.hid (by rw [HNK.out, ← HM.out]; exact HLT.out)
      have HI1 : Hid ((str r).extract 0 (i + 1) = str (r.take (i + 1))) := Lib.hid (by rw [str_cut]; rfl)
      have HI2 : Hid ((str r).extract (i + 1) m = str (r.drop (i + 1))) := Lib.hid (by rw [str_cut, List.take_of_length_le (by rw [List.length_drop, HM.out]; omega)])
      have hi1 : (0 : Int) ≤ (i : Int) + 1 := by omega
      have hi2 : (i : Int) + 1 ≤ (m : Int) := by omega
      have HWR : Hid (IntKind.i64.wrap ((i : Int) + 1) = ((i + 1 : Nat) : Int)) := Lib.hid (by rw [show (i : Int) + 1 = ((i + 1 : Nat) : Int) by omega]; exact IntWalk.i64_in _ (by omega))
      have hge : decide ((i : Int) ≥ 0) = true := decide_eq_true (by omega)
      clear hxy hx10 hi hbx
      gi_wp2
      refine ((callsIn_wide (n := _)).2 (iidx_any r _)).mono ?_
      rintro e w3 ⟨rfl, rfl⟩
      rw [hix]
      gi_wp2
      refine wpIn_region_relL (fun V => Below wr.heap.size wr V) (fun V V' => Below V.heap.size V V') 9 [fun u _ => u = Value.string (str r), fun u _ => u = Value.int .i64 (i : Int), fun u _ => u = Value.int .i64 ((i + 1 : Nat) : Int), fun u _ => u = Value.string (str (r.take (i + 1))), fun u _ => u = Value.string (str r), fun u _ => u = Value.int .i64 (i : Int), fun u _ => u = Value.int .i64 ((i + 1 : Nat) : Int), fun u _ => u = Value.string (str (r.drop (i + 1))), fun u _ => u = Value.string (str (r.take (i + 1)))] (by kernel_rfl) (by kernel_rfl) (by kernel_rfl) rfl (Below.refl _ _).drew ?_
      simp only [List.take_succ_cons, List.take_zero, List.drop_succ_cons, List.drop_zero]
      refine wpRelI_cons (fun _ _ _ _ _ h => h) (fun V hC hd => relOblI_intro fun K hK => ?_) (fun v12 => ?_)
      · have HK := Lib.hid hK
        have HC := Lib.hid hC
        have c0 := (HBX.out.below hC).at 0
        clear hK hd hC
        go_simp
        exact HK.out _ _ ⟨_, rfl, HC.out, Below.refl _ _, rfl⟩
      simp only [Act.put, List.setIfInBounds_toArray, List.set_cons_zero, List.set_cons_succ]
      refine wpRelI_cons (fun _ _ _ _ _ h => h) (fun V hC hd => relOblI_intro fun K hK => ?_) (fun v13 => ?_)
      · have HK := Lib.hid hK
        have HC := Lib.hid hC
        clear hK hd hC
        go_simp
        exact HK.out _ _ ⟨_, rfl, HC.out, Below.refl _ _, rfl⟩
      simp only [Act.put, List.setIfInBounds_toArray, List.set_cons_zero, List.set_cons_succ]
      refine wpRelI_cons (fun _ _ _ _ _ h => h) (fun V hC hd => relOblI_intro fun K hK => ?_) (fun v14 => ?_)
      · have HK := Lib.hid hK
        have HC := Lib.hid hC
        obtain rfl : v13 = Value.int .i64 (i : Int) := hd 1 rfl _ rfl
        clear hK hd hC
        go_simp
        exact HK.out _ _ ⟨_, rfl, HC.out, Below.refl _ _, by rw [HWR.out]⟩
      simp only [Act.put, List.setIfInBounds_toArray, List.set_cons_zero, List.set_cons_succ]
      refine wpRelI_cons (fun _ _ _ _ _ h => h) (fun V hC hd => relOblI_intro fun K hK => ?_) (fun v15 => ?_)
      · have HK := Lib.hid hK
        have HC := Lib.hid hC
        obtain rfl : v12 = Value.string (str r) := hd 0 rfl _ rfl
        obtain rfl : v14 = Value.int .i64 ((i + 1 : Nat) : Int) := hd 2 rfl _ rfl
        clear hK hd hC
        go_simp
        exact HK.out _ _ ⟨_, rfl, HC.out, Below.refl _ _, by rw [HI1.out]⟩
      simp only [Act.put, List.setIfInBounds_toArray, List.set_cons_zero, List.set_cons_succ]
      refine wpRelI_cons (fun _ _ _ _ _ h => h) (fun V hC hd => relOblI_intro fun K hK => ?_) (fun v16 => ?_)
      · have HK := Lib.hid hK
        have HC := Lib.hid hC
        have c0 := (HBX.out.below hC).at 0
        clear hK hd hC
        go_simp
        exact HK.out _ _ ⟨_, rfl, HC.out, Below.refl _ _, rfl⟩
      simp only [Act.put, List.setIfInBounds_toArray, List.set_cons_zero, List.set_cons_succ]
      refine wpRelI_cons (fun _ _ _ _ _ h => h) (fun V hC hd => relOblI_intro fun K hK => ?_) (fun v17 => ?_)
      · have HK := Lib.hid hK
        have HC := Lib.hid hC
        clear hK hd hC
        go_simp
        exact HK.out _ _ ⟨_, rfl, HC.out, Below.refl _ _, rfl⟩
      simp only [Act.put, List.setIfInBounds_toArray, List.set_cons_zero, List.set_cons_succ]
      refine wpRelI_cons (fun _ _ _ _ _ h => h) (fun V hC hd => relOblI_intro fun K hK => ?_) (fun v18 => ?_)
      · have HK := Lib.hid hK
        have HC := Lib.hid hC
        obtain rfl : v17 = Value.int .i64 (i : Int) := hd 5 rfl _ rfl
        clear hK hd hC
        go_simp
        exact HK.out _ _ ⟨_, rfl, HC.out, Below.refl _ _, by rw [HWR.out]⟩
      simp only [Act.put, List.setIfInBounds_toArray, List.set_cons_zero, List.set_cons_succ]
      refine wpRelI_cons (fun _ _ _ _ _ h => h) (fun V hC hd => relOblI_intro fun K hK => ?_) (fun v19 => ?_)
      · have HK := Lib.hid hK
        have HC := Lib.hid hC
        obtain rfl : v16 = Value.string (str r) := hd 4 rfl _ rfl
        obtain rfl : v18 = Value.int .i64 ((i + 1 : Nat) : Int) := hd 6 rfl _ rfl
        clear hK hd hC
        go_simp
        exact HK.out _ _ ⟨_, rfl, HC.out, Below.refl _ _, by rw [HI2.out]⟩
      simp only [Act.put, List.setIfInBounds_toArray, List.set_cons_zero, List.set_cons_succ]
      refine wpRelI_cons (fun _ _ _ _ _ h => h) (fun V hC hd => relOblI_intro fun K hK => ?_) (fun v3 => ?_)
      · have HK := Lib.hid hK
        have HC := Lib.hid hC
        obtain rfl : v15 = Value.string (str (r.take (i + 1))) := hd 3 rfl _ rfl
        clear hK hd hC
        go_simp
        exact HK.out _ _ ⟨_, rfl, HC.out, Below.refl _ _, rfl⟩
      simp only [Act.put, List.setIfInBounds_toArray, List.set_cons_zero, List.set_cons_succ]
      refine wpRelI_nil fun V hC hd => ?_
      obtain rfl : v3 = Value.string (str (r.take (i + 1))) := hd 8 _ rfl
      obtain rfl : v19 = Value.string (str (r.drop (i + 1))) := hd 7 _ rfl
      have hbV := HBX.out.below hC
      have hJV : J k V := hJ k wr V none HJS.out ⟨hC.os, hC.tape, hC.output, hC.size, fun q hq _ => hC.block q hq⟩ (fun q e => by cases e)
      have hb1 : BlkA (V.setCell ⟨Bs, 0, none⟩ (.string (str (r.drop (i + 1))))) Bs 9 #[.string (str (RK (k + 1)))] := by rw [HR1.out]; exact hbV.set 0 _
      have hJ1 : J k (V.setCell ⟨Bs, 0, none⟩ (.string (str (r.drop (i + 1))))) := hJ k V _ (some Bs) hJV (grownBy_setCell' V Bs _) (fun q e => by cases e; exact .inl rfl)
      obtain ⟨fn, tmps, assign, body, hy, hR⟩ := HYK.out _ hJ1 hkl
      rw [HL1.out] at hy
      have HB1 := Lib.hid hb1
      have HR := Lib.hid hR
      have c0 := hbV.at 0
      have f0 := hbV.frozen 0
      clear hd hC hb1 hJ1 hJV hbV hR
      gi_wp2
      refine HR.out.mono ?_
      rintro e W3 (⟨rfl, hJ3, hk3⟩ | ⟨rfl, hJx3⟩)
      · have hb3 : BlkA W3 Bs 9 #[.string (str (RK (k + 1)))] := hk3 _ HB1.out
        gi_wp2
        go_roundw
        case rel => exact ⟨k + 1, by omega, hJ3, hb3⟩
        case measure => rw [HBN.out, boxN_is hb3, HM.out]; exact HDEC.out
      · gi_wp2
        refine bodyPost_ret (results_none rfl _ _ _) rfl ?_
        exact ⟨⟨_, rfl⟩, .inr ⟨k + 1, by omega, hJx3⟩⟩

set_option maxHeartbeats 1000000 in
theorem lines_in (n : Nat) (s : ByteArray) (w : World) :
    CallsIn Fence.wide n Tryd.prog 94 #[.string s] w fun e w' => e = .returned (.func (.func 130) #[] #[.pointer (some ⟨w.heap.size, 0, none⟩)]) ∧ w' = w.alloc (.cells #[.string s] 9) := by
  refine callsIn_of_wp Tryd.func94 rfl trivial ?_ rfl
  simp only [Tryd.ntmps94, List.size_toArray, List.length_cons, List.length_nil, Nat.reduceAdd, Nat.reduceSub, Array.replicate_succ, Array.replicate_zero, List.push_toArray, List.append_toArray, List.nil_append, List.cons_append]
  gi_wp2
  go_ret
  exact ⟨rfl, rfl⟩

theorem lines_box (Bs : Nat) (rest : List UInt8) (hr : rest.length ≤ 1048576) (w : World) (hb : BlkA w Bs 9 #[.string (str rest)]) :
    SeqBox Fence.wide 8 Tryd.prog 130 #[.pointer (some ⟨Bs, 0, none⟩)] (fun k => #[.string (str (lnN (rsK rest k)))]) Bs (lns rest).length w := fun l J Jx W hW hJ hY h0 =>
  lines1_in l Bs rest hr J Jx W.heap.size hJ hY W (hb.below hW) h0
end Go.Proofs.YtbclmafplaipaaaDoor
