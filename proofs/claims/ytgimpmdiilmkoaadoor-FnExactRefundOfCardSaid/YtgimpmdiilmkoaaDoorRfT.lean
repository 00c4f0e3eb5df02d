/-
  try: the refusal with which a refund panics is recovered.
-/
import Derived.Test.YtgimpmdiilmkoaaDoorRfI
namespace Go.Proofs.YtgimpmdiilmkoaaDoor
open Go Go.RowKit Go.Extern.Stop Go.Stop Go.Extern
set_option linter.unusedVariables false

abbrev noMV : Value := .iface 163 (.agg #[])
theorem as_mRefN (w : World) : (Go.method 353 163 (.agg #[]) "loop.example/g01366/impl.refusedWith").run Tryd.prog w = .ok (180, .agg #[]) w := by kernel_rfl
theorem refusedN (w : World) : Calls Tryd.prog 180 #[.agg #[]] w fun e w' => e = .returned (.int .i64 2) ∧ Below w.heap.size w w' := by
  go_enter Tryd.func180, Tryd.ntmps180
  go_wp2
  go_ret
  exact ⟨rfl, by repeat (first | exact Below.refl _ _ | refine Below.alloc ?_ (by first | (simp; done) | (simp; omega) | omega) _)⟩
theorem tassert_nil (w : World) : (Instr.typeAssert .nilIface 20 132 true).run Tryd.prog w = .ok (.tuple #[.nilIface, .bool false]) w := by kernel_rfl
theorem tassert_no (w : World) : (Instr.typeAssert noMV 20 132 true).run Tryd.prog w = .ok (.tuple #[noMV, .bool true]) w := by kernel_rfl

set_option maxHeartbeats 2000000 in
theorem catch_idle (p : Addr) (w : World) :
    CallsD Tryd.prog 111 #[.pointer (some p)] .returning w fun e u' w' => e = .returned (.tuple #[]) ∧ u' = .returning ∧ w' = w := by
  have ta := tassert_nil
  refine callsD_of_wpS Tryd.func111 rfl fun c₀ cs hu => ?_
  apply wpS_seq
  apply wpS_region
  simp [wpOpsS, go_sem, recoverD, hu, Tryd.ntmps111, Exit.thenS]
  refine wpS_of_wp ?_
  go_wp2
  cases c₀
  simp_all [bodyPostS, results, Tryd.results111]

set_option maxHeartbeats 2000000 in
theorem catch_no (p : Addr) (x : Int) (w : World) (hc : w.cell? p = some (.int .i64 x)) (hz : w.frozen? p = false) :
    CallsD Tryd.prog 111 #[.pointer (some p)] (.panicking [{ v := noMV, recovered := false }]) w fun e u' w' =>
      e = .returned (.tuple #[]) ∧ u' = .panicking [{ v := noMV, recovered := true }] ∧ w'.cell? p = some (.int .i64 2) ∧ ∀ B, B ≤ p.block → Below B w w' := by
  have ta := tassert_no
  have mR := as_mRefN
  have hpl : p.block < w.heap.size := World.block_lt_of_cell? w _ hc
  refine callsD_of_wpS Tryd.func111 rfl fun c₀ cs hu => ?_
  apply wpS_seq
  apply wpS_region
  simp [wpOpsS, go_sem, recoverD, hu, Tryd.ntmps111, Exit.thenS]
  refine wpS_of_wp ?_
  go_wp2_with (go_at_call 180; refine (refusedN _).mono ?_; rintro e w3 ⟨rfl, b3⟩; have h3 : w3.cell? p = some (.int .i64 x) := (b3.cell hpl).trans hc; have f3 : w3.frozen? p = false := (World.frozen?_of_block (b3.block p.block hpl)).trans hz)
  simp [bodyPostS, results, Tryd.results111]
  exact ⟨World.cell?_setCell_same _ _ _ h3, fun B hB => Below.setCell ((Below.refl B w).trans (b3.mono (by omega))) hB _⟩

/-- What RefundOf tells. -/
def tryV (ps : List Q5) (ms : List Q3) (ok : Bool) : Value := if ok = true then .tuple #[.int .i64 (refTo ps ms ms.length), .int .i64 0] else .tuple #[.int .i64 0, .int .i64 2]
theorem tryV_ok (ps : List Q5) (ms : List Q3) : tryV ps ms true = .tuple #[.int .i64 (refTo ps ms ms.length), .int .i64 0] := if_pos rfl
theorem tryV_no (ps : List Q5) (ms : List Q3) : tryV ps ms false = .tuple #[.int .i64 0, .int .i64 2] := if_neg (by simp)

set_option maxHeartbeats 4000000 in
theorem itry_any (px py : Addr) (ps : List Q5) (ms : List Q3) (ok : Bool) (w : World)
    (H : ∀ W, Below w.heap.size w W → Calls Tryd.prog 83 #[.pointer (some px), .pointer (some py)] W fun e w' => e = refEnd ps ms ok ∧ Below W.heap.size W w') :
    Calls Tryd.prog 82 #[.func (.func 83) #[] #[.pointer (some px), .pointer (some py)]] w fun e w' => e = .returned (tryV ps ms ok) ∧ Below w.heap.size w w' := by
  have hmf : ∀ (fn : Fn) (first cap : Array Value) (w : World), (Instr.makeFunc fn first cap).run Tryd.prog w = .ok (.func fn first cap) w := fun _ _ _ _ => rfl
  have HH := Lib.hid (H (w.alloc (.cells #[.int .i64 0] 2)) ((Below.refl _ _).alloc (Nat.le_refl _) _))
  clear H
  cases ok
  · rw [refEnd_no] at HH
    rw [tryV_no]
    go_enter_defers Tryd.func82, Tryd.ntmps82
    go_wp2_with (go_at_call 83; refine HH.out.mono ?_; rintro e w2 ⟨rfl, b2⟩)
    have hs2 := b2.size
    have h3 : w2.cell? ⟨w.heap.size, 0, none⟩ = some (.int .i64 0) := (b2.cell (p := ⟨w.heap.size, 0, none⟩) (by simp)).trans (by simp)
    have f3 : w2.frozen? ⟨w.heap.size, 0, none⟩ = false := (World.frozen?_of_block (b2.block w.heap.size (by simp))).trans (by simp)
    refine leaves_cons (f := 111) (args := #[.pointer (some ⟨w.heap.size, 0, none⟩)]) (by simp) (by simp [go_sem]) ?_
    refine (catch_no ⟨w.heap.size, 0, none⟩ 0 _ h3 f3).mono ?_
    rintro e u' w4 ⟨rfl, rfl, h4, b4⟩
    have hb : Below w.heap.size w w4 := (((Below.refl _ _).alloc (Nat.le_refl _) _).trans (b2.mono (by simp))).trans (b4 _ (Nat.le_refl _))
    simp [Leaves, settle, results, Tryd.results82, go_sem, h4]
    exact hb
  · rw [refEnd_ok] at HH
    rw [tryV_ok]
    have HF : Hid (∀ W, Below (w.alloc (.cells #[.int .i64 0] 2)).heap.size (w.alloc (.cells #[.int .i64 0] 2)) W → W.cell? ⟨w.heap.size, 0, none⟩ = some (.int .i64 0) ∧ W.frozen? ⟨w.heap.size, 0, none⟩ = false) := Lib.hid (fun W hb => ⟨(hb.cell (p := ⟨w.heap.size, 0, none⟩) (by simp)).trans (by simp), (World.frozen?_of_block (hb.block w.heap.size (by simp))).trans (by simp)⟩)
    go_enter_defers Tryd.func82, Tryd.ntmps82
    go_wp2_with (go_at_call 83; refine HH.out.mono ?_; rintro e w2 ⟨rfl, b2⟩; have h3 := (HF.out w2 b2).1; have f3 := (HF.out w2 b2).2)
    have hs2 := b2.size
    have h4 : (w2.setCell ⟨w.heap.size, 0, none⟩ (.int .i64 0)).cell? ⟨w.heap.size, 0, none⟩ = some (.int .i64 0) := World.cell?_setCell_same _ _ _ h3
    refine leaves_cons (f := 111) (args := #[.pointer (some ⟨w.heap.size, 0, none⟩)]) (by simp) (by simp [go_sem]) ?_
    refine (catch_idle ⟨w.heap.size, 0, none⟩ _).mono ?_
    rintro e u' w4 ⟨rfl, rfl, rfl⟩
    have hb : Below w.heap.size w (w2.setCell ⟨w.heap.size, 0, none⟩ (.int .i64 0)) := (((Below.refl _ _).alloc (Nat.le_refl _) _).trans (b2.mono (by simp))).setCell (Nat.le_refl _) _
    simp [Leaves, settle, results, Tryd.results82, go_sem, h4]
    exact hb
end Go.Proofs.YtgimpmdiilmkoaaDoor
