/-
  Paying where there is no voucher: both sides.
-/
import Derived.Test.YtgimpmdiilmkoaaDoorPvS
namespace Go.Proofs.YtgimpmdiilmkoaaDoor
open Go Go.RowKit
set_option linter.unusedVariables false

theorem wpList_append_eq {P : Program} {w : World} {ops : Array Oper} {rest : List Oper} {o : Oper} {a : Act} {Q : Exit → Act → World → Prop} (hgd : o.guard = none) (s x : Operand) (t : TypeId)
    (ho : o.op = .call { callee := .builtin .append, args := #[s, x], argTypes := #[t, t] }) (v u r : Value) (hs : a.eval s = v) (hx : a.eval x = u) (hr : (Builtin.append_ #[t, t] o.type #[v, u]).run P w = .ok r w)
    (h : wpList P ops Q rest (a.put o.dst r) w) : wpList P ops Q (o :: rest) a w := by
  refine wpList_plain hgd fun K hK => ?_
  unfold Oper.wp execOp
  simp only [ho, resolve, invoke, builtin, Sem.run_bind, Sem.run_pure, Result.andThen_ok, List.map_toArray, List.map_cons, List.map_nil, hs, hx, hr]
  exact hK _ _ h
theorem ap_nil (wx : World) (g : Nat) (cap : Nat) (ty : TypeId) : (Builtin.append_ #[38, 38] ty #[.slice (some ⟨g, 0, none⟩) 0 0, .slice none 0 cap]).run Tryd.prog wx = .ok (.slice (some ⟨g, 0, none⟩) 0 0) wx := by
  kernel_rfl
set_option maxHeartbeats 1000000 in
theorem cloneVo_nil (a : Option Addr) (cap : Nat) (w : World) :
    Calls Tryd.prog 97 #[.slice a 0 cap] w fun e w' => ∃ v, e = .returned v ∧ OwnVo 101 w.heap.size w' v [] ∧ Below w.heap.size w w' := by
  obtain ⟨i0, hi, hz0, hz1, hz2⟩ := info_parts info_vou
  have hq := fun (wx : World) => Lib.run_eql_slice_nil (P := Tryd.prog) wx 38 101 a 0 cap 0 0 Tryd.underlying38
  have hown : (w.alloc (.cells #[] 101)).ownsRow w.heap.size 101 2 (.slice (some ⟨w.heap.size, 0, none⟩) 0 0) 0 [] := World.ownsRow_made w #[] 0 (Nat.le_refl _) (Nat.zero_le _) rfl
  have hb0 : Below w.heap.size w (w.alloc (.cells #[] 101)) := (Below.refl _ _).alloc (Nat.le_refl _) _
  have HB := Lib.hid hb0
  have HO := Lib.hid hown
  clear hb0 hown
  cases a with
  | none =>
    go_enter Tryd.func97, Tryd.ntmps97
    go_wp2_with fail
    go_ret
    exact ⟨_, rfl, World.ownsRow_nil _ _ _ _, Below.refl _ _⟩
  | some x =>
    go_enter Tryd.func97, Tryd.ntmps97
    go_wp2_with (at_builtin; refine wpList_append_own _ rfl _ _ 38 rfl w.heap.size 101 i0 (.agg #[.int .i32 0, .int .i16 0]) 2 8 Tryd.underlying38 hi hz0 hz1 hz2 rfl (by decide) _ _ _ rfl HO.out x 0 cap [] rfl (by simp) (by intro j u hj; simp at hj) (by intro u hu; simp at hu) (by unfold maxLen; omega) (by omega) (by simp) ?_)
    intro v' w3 hown' hgrow _
    have HO' : Hid (OwnVo 101 w.heap.size w3 v' []) := Lib.hid (by simpa [OwnVo, flatVo, flatE] using hown')
    have HB' : Hid (Below w.heap.size w w3) := Lib.hid (HB.out.grown hgrow (by simp) (fun j hj => by simp [Value.ownBlock] at hj; omega))
    clear hown' hgrow
    go_wp2
    go_ret
    exact ⟨_, rfl, HO'.out, HB'.out⟩
set_option maxHeartbeats 2000000 in
theorem ipayWith_nil (a : Option Addr) (cap : Nat) (day due : Int) (w : World) :
    Calls Tryd.prog 71 #[.slice a 0 cap, .int .i64 day, .int .i64 due] w fun e w' => ∃ v, e = .returned (.tuple #[v, .int .i64 due]) ∧ OwnVo 101 w.heap.size w' v [] ∧ Below w.heap.size w w' := by
  go_enter Tryd.func71, Tryd.ntmps71
  go_wp2_with fail
  refine (cloneVo_nil a cap w).mono ?_
  rintro e w1 ⟨v, rfl, ho, b1⟩
  obtain ⟨xa, xl, xc, rfl⟩ : ∃ a l c, v = .slice a l c := by
    rcases ho.2 with ⟨rfl, _⟩ | ⟨g, cap, cur, rfl, _⟩
    · exact ⟨_, _, _, rfl⟩
    · exact ⟨_, _, _, rfl⟩
  have HO := Lib.hid ho
  have HB1 := Lib.hid b1
  clear ho b1
  go_wp2_with fail
  refine (idxU_any a 0 0 cap [] w1 rfl (by omega) (fun h => absurd rfl h) (fun i hi => absurd hi (by simp))).mono ?_
  rintro e w2 ⟨q, ms, rfl, hou, hp, hs, b2⟩
  have HO2 := Lib.hid (HO.out.below b2)
  have HB2 : Hid (Below w.heap.size w w2) := Lib.hid (blink HB1.out b2)
  clear hou hp hs b2
  go_wp2_with fail
  refine wp_loop_rounds 1 ?_
  rw [rounds_succ]
  go_wp2_with fail
  go_ret2
  exact ⟨_, rfl, HO2.out, HB2.out⟩
set_option maxHeartbeats 2000000 in
set_option maxRecDepth 100000 in
theorem spay_nil (a : Option Addr) (cap : Nat) (day due : Int) (w : World) :
    Calls Tryd.prog 70 #[.slice a 0 cap, .int .i64 day, .int .i64 due] w fun e w' => ∃ v, e = .returned (.tuple #[v, .int .i64 due]) ∧ OwnVo 101 w.heap.size w' v [] ∧ Below w.heap.size w w' := by
  obtain ⟨i0, hi, hz0, hz1, hz2⟩ := info_parts info_vou
  obtain ⟨j0, hj, hjz0, hjz1, hjz2⟩ := info_parts info_bool
  have hown : (w.alloc (.cells #[] 101)).ownsRow w.heap.size 101 2 (.slice (some ⟨w.heap.size, 0, none⟩) 0 0) 0 [] := World.ownsRow_made w #[] 0 (Nat.le_refl _) (Nat.zero_le _) rfl
  have hb0 : Below w.heap.size w (w.alloc (.cells #[] 101)) := (Below.refl _ _).alloc (Nat.le_refl _) _
  have HB := Lib.hid hb0
  have HO := Lib.hid hown
  have hap := ap_nil
  clear hb0 hown
  cases a with
  | none =>
    go_enter Tryd.func70, Tryd.ntmps70
    go_wp2_with (first
      | (at_builtin; refine wpList_append_eq rfl _ _ _ rfl _ _ _ rfl rfl (hap _ _ _ _) ?_)
      | (refine wpList_make_full _ rfl _ _ 142 rfl (w.heap.size + 1) 4 j0 (.bool false) 1 Tryd.underlying142 hj hjz0 hjz1 .i64 .i64 _ _ 0 rfl rfl rfl rfl (by rw [hjz2]; omega) (by unfold maxLen; omega) (by simp) ?_; intro w4 hown1 hg4))
    have hb34 : Below (w.heap.size + 1) (w.alloc (.cells #[] 101)) w4 := (Below.refl _ _).grown hg4 (by simp) (fun k hk => by simp at hk)
    have HO4 : Hid (OwnVo 101 w.heap.size w4 (.slice (some ⟨w.heap.size, 0, none⟩) 0 0) []) := Lib.hid (OwnVo.below (show OwnVo 101 w.heap.size (w.alloc (.cells #[] 101)) (.slice (some ⟨w.heap.size, 0, none⟩) 0 0) [] from HO.out) (by simpa using hb34))
    have HB4 : Hid (Below w.heap.size w w4) := Lib.hid (HB.out.trans (hb34.mono (by omega)))
    clear hown1 hg4 hb34
    by_cases hd : 0 < due
    · have d0 : decide (0 < due) = true := decide_eq_true hd
      go_wp2_with fail
      refine wp_loop_rounds 1 ?_
      rw [rounds_succ]
      go_wp2_with fail
      refine wp_loop_rounds 1 ?_
      rw [rounds_succ]
      go_wp2_with fail
      go_ret2
      exact ⟨_, rfl, HO4.out, HB4.out⟩
    · have d0 : decide (0 < due) = false := decide_eq_false hd
      go_wp2_with fail
      refine wp_loop_rounds 1 ?_
      rw [rounds_succ]
      go_wp2_with fail
      go_ret2
      exact ⟨_, rfl, HO4.out, HB4.out⟩
  | some x =>
    go_enter Tryd.func70, Tryd.ntmps70
    go_wp2_with (at_builtin; refine wpList_append_own _ rfl _ _ 38 rfl w.heap.size 101 i0 (.agg #[.int .i32 0, .int .i16 0]) 2 8 Tryd.underlying38 hi hz0 hz1 hz2 rfl (by decide) _ _ _ rfl HO.out x 0 cap [] rfl (by simp) (by intro j u hj; simp at hj) (by intro u hu; simp at hu) (by unfold maxLen; omega) (by omega) (by simp) ?_)
    intro v' w3 hown' hgrow _
    have ho : OwnVo 101 w.heap.size w3 v' [] := by simpa [OwnVo, flatVo, flatE] using hown'
    have HO' := Lib.hid ho
    have HB' : Hid (Below w.heap.size w w3) := Lib.hid (HB.out.grown hgrow (by simp) (fun j hj => by simp [Value.ownBlock] at hj; omega))
    obtain ⟨xa, xc, rfl⟩ : ∃ a c, v' = .slice a 0 c := by
      rcases ho.2 with ⟨rfl, _⟩ | ⟨g, cap, cur, rfl, _⟩
      · exact ⟨_, _, rfl⟩
      · exact ⟨_, _, rfl⟩
    clear hown' hgrow ho
    go_wp2_with (refine wpList_make_full _ rfl _ _ 142 rfl w3.heap.size 4 j0 (.bool false) 1 Tryd.underlying142 hj hjz0 hjz1 .i64 .i64 _ _ 0 rfl rfl rfl rfl (by rw [hjz2]; omega) (by unfold maxLen; omega) (Nat.le_refl _) ?_; intro w4 hown1 hg4)
    have hb34 : Below w3.heap.size w3 w4 := (Below.refl _ _).grown hg4 (Nat.le_refl _) (fun k hk => by simp at hk)
    have HO4 := Lib.hid (HO'.out.below hb34)
    have HB4 : Hid (Below w.heap.size w w4) := Lib.hid (blink HB'.out hb34)
    clear hown1 hg4 hb34
    by_cases hd : 0 < due
    · have d0 : decide (0 < due) = true := decide_eq_true hd
      go_wp2_with fail
      refine wp_loop_rounds 1 ?_
      rw [rounds_succ]
      go_wp2_with fail
      refine wp_loop_rounds 1 ?_
      rw [rounds_succ]
      go_wp2_with fail
      go_ret2
      exact ⟨_, rfl, HO4.out, HB4.out⟩
    · have d0 : decide (0 < due) = false := decide_eq_false hd
      go_wp2_with fail
      refine wp_loop_rounds 1 ?_
      rw [rounds_succ]
      go_wp2_with fail
      go_ret2
      exact ⟨_, rfl, HO4.out, HB4.out⟩
end Go.Proofs.YtgimpmdiilmkoaaDoor
