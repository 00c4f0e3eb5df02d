/-
  The program's LoadFor.
-/
import Derived.Test.YtadhoodddedjjaaLdF
namespace Go.Proofs.Ytadhoodddedjjaa
open Go Go.RowKit
set_option linter.unusedVariables false

set_option maxHeartbeats 1000000 in
theorem ins_zero (g : Nat) (B : Nat) (w : World) :
    Calls Try.prog 93 #[.slice (some ⟨g, 0, none⟩) 0 0, .int .i64 0, .int .i64 0, .func (.func 55) #[] #[.pointer (some ⟨B, 0, none⟩)]] w fun e w' => e = .returned (.tuple #[]) ∧ w = w' := by
  go_enter Try.func93, Try.ntmps93
  go_wp2_with fail
  refine wp_loop_rounds 1 ?_
  rw [rounds_succ]
  go_wp2_with fail
  go_end0
  exact ⟨rfl, rfl⟩

/-- What the sort leaves. -/
def Sorts (lo g n : Nat) (ps : List (Int × Int)) (w : World) (e : Ending) (w' : World) : Prop := e = .returned (.tuple #[]) ∧ ∃ ms, OwnN lo w' g n ms ∧ ms.Perm (List.range n) ∧ SortedTo ps ms n ∧ Below lo w w'

theorem ins_all (lo g n B b cap : Nat) (ps : List (Int × Int)) (w : World) (hl : ps.length = n) (h10 : n ≤ 10) (hlo : lo ≤ w.heap.size) (hBl : B < lo) (hbl : 1 ≤ n → b < lo)
    (ho : OwnN lo w g n (List.range n)) (hB : 1 ≤ n → w.cell? ⟨B, 0, none⟩ = some (.slice (some ⟨b, 0, none⟩) n cap)) (hc : CellsQ w b ps) :
    Calls Try.prog 93 #[.slice (some ⟨g, 0, none⟩) n n, .int .i64 0, .int .i64 n, .func (.func 55) #[] #[.pointer (some ⟨B, 0, none⟩)]] w (Sorts lo g n ps w) := by
  rcases Nat.eq_zero_or_pos n with h | h
  · subst h
    exact (ins_zero g B w).mono fun e w' ⟨h1, h2⟩ => ⟨h1, List.range 0, by subst h2; exact ho, List.Perm.refl _, fun a c _ hc => by omega, by subst h2; exact Below.refl _ _⟩
  · exact (ins_any lo g n B b cap ps (List.range n) w hl h10 h hlo hBl (hbl h) ho (List.Perm.refl _) (hB h) hc).mono fun e w' h => h

set_option maxHeartbeats 2000000 in
theorem pdq_all (lo g n B b cap : Nat) (m : Int) (ps : List (Int × Int)) (w : World) (hl : ps.length = n) (h10 : n ≤ 10) (hlo : lo ≤ w.heap.size) (hBl : B < lo) (hbl : 1 ≤ n → b < lo)
    (ho : OwnN lo w g n (List.range n)) (hB : 1 ≤ n → w.cell? ⟨B, 0, none⟩ = some (.slice (some ⟨b, 0, none⟩) n cap)) (hc : CellsQ w b ps) :
    Calls Try.prog 80 #[.slice (some ⟨g, 0, none⟩) n n, .int .i64 0, .int .i64 n, .int .i64 m, .func (.func 55) #[] #[.pointer (some ⟨B, 0, none⟩)]] w (Sorts lo g n ps w) := by
  have HI := Lib.hid (ins_all lo g n B b cap ps w hl h10 hlo hBl hbl ho hB hc)
  have t1 : decide ((n : Int) ≤ 12) = true := decide_eq_true (by omega)
  have hw : IntKind.i64.wrap (n : Int) = (n : Int) := IntWalk.i64_in _ (by omega)
  clear ho hB hc hbl hl
  go_enter Try.func80, Try.ntmps80
  go_wp2_with fail
  refine wp_loop_rounds 1 ?_
  rw [rounds_succ]
  go_wp2_with fail
  refine HI.out.mono ?_
  rintro e w2 ⟨rfl, hs⟩
  have HS := Lib.hid hs
  clear hs
  go_wp2_with fail
  go_end0
  exact ⟨rfl, HS.out⟩

set_option maxHeartbeats 2000000 in
theorem sortf_all (lo g n B b cap : Nat) (ps : List (Int × Int)) (w : World) (hl : ps.length = n) (h10 : n ≤ 10) (hlo : lo ≤ w.heap.size) (hBl : B < lo) (hbl : 1 ≤ n → b < lo)
    (ho : OwnN lo w g n (List.range n)) (hB : 1 ≤ n → w.cell? ⟨B, 0, none⟩ = some (.slice (some ⟨b, 0, none⟩) n cap)) (hc : CellsQ w b ps) :
    Calls Try.prog 54 #[.slice (some ⟨g, 0, none⟩) n n, .func (.func 55) #[] #[.pointer (some ⟨B, 0, none⟩)]] w (Sorts lo g n ps w) := by
  have HI : Hid (∀ (m : Int) (w2 : World), Below w.heap.size w w2 → Calls Try.prog 80 #[.slice (some ⟨g, 0, none⟩) n n, .int .i64 0, .int .i64 n, .int .i64 m, .func (.func 55) #[] #[.pointer (some ⟨B, 0, none⟩)]] w2 (Sorts lo g n ps w2)) := Lib.hid (fun m w2 b2 =>
    pdq_all lo g n B b cap m ps w2 hl h10 (Nat.le_trans hlo b2.size) hBl hbl (ho.below b2) (fun h => by rw [b2.cell (p := ⟨B, 0, none⟩) (by simp only; omega)]; exact hB h) (hc.below b2))
  clear ho hB hc hbl hl
  go_enter Try.func54, Try.ntmps54
  go_wp2_with fail
  refine (blen_any n h10 _).mono ?_
  rintro e w2 ⟨⟨m, rfl⟩, b2⟩
  have HB := Lib.hid b2
  clear b2
  go_wp2_with fail
  refine (HI.out m w2 HB.out).mono ?_
  rintro e w3 ⟨rfl, ms, p1, p2, p3, p4⟩
  have HS : Hid (∃ ms, OwnN lo w3 g n ms ∧ ms.Perm (List.range n) ∧ SortedTo ps ms n ∧ Below lo w w3) := Lib.hid ⟨ms, p1, p2, p3, (HB.out.mono hlo).trans p4⟩
  clear p1 p2 p3 p4
  go_wp2_with fail
  go_end0
  exact ⟨rfl, HS.out⟩

set_option maxHeartbeats 2000000 in
set_option maxRecDepth 100000 in
theorem iload_any (v : Value) (ps : List (Int × Int)) (w : World) (hv : ReadsQ w v ps) (hfit : FitsQ ps) (hx : ps.length ≤ 1048576) :
    Calls Try.prog 27 #[v] w (RetI1 w.heap.size w (loadR ps) (codeQ ps)) := by
  obtain ⟨a, cap, rfl, hrd⟩ := id hv
  have HB0 : Hid (Below w.heap.size w (w.alloc (.cells #[.slice a ps.length cap] 25))) := Lib.hid ((Below.refl _ _).alloc (Nat.le_refl _) _)
  have HV := Lib.hid (hv.below HB0.out)
  have HBX : Hid ((w.alloc (.cells #[.slice a ps.length cap] 25)).cell? ⟨w.heap.size, 0, none⟩ = some (.slice a ps.length cap)) := Lib.hid (cell_of_row _ w.heap.size 0 _ 25 (0, 0) (heap_alloc_new w _))
  have HSZ : Hid (w.heap.size < (w.alloc (.cells #[.slice a ps.length cap] 25)).heap.size) := Lib.hid (by simp)
  have HRD := Lib.hid hrd
  clear hv hrd
  cases hvl : vldQ ps
  · have HR : Hid (loadR ps = [] ∧ codeQ ps = 1) := Lib.hid ⟨by simp [loadR, hvl], by simp [codeQ, hvl]⟩
    rw [HR.out.1, HR.out.2]
    go_enter Try.func27, Try.ntmps27
    go_wp2_with fail
    generalize w.alloc (.cells #[.slice a ps.length cap] 25) = w1 at HB0 HV HBX HSZ ⊢
    have x0 := HBX.out
    go_wp2_with fail
    refine (ivldQ_any _ ps _ HV.out hfit hx).mono ?_
    rintro e w2 ⟨rfl, b2⟩
    have HB2 := Lib.hid (blink HB0.out b2)
    rw [hvl]
    clear b2
    go_wp2_with fail
    go_ret2
    exact ⟨_, rfl, World.ownsRow_nil _ _ _ _, HB2.out⟩
  · have HR : Hid (loadR ps = ldU ps 9 ∧ codeQ ps = 0) := Lib.hid ⟨by simp [loadR, hvl], by simp [codeQ, hvl]⟩
    obtain ⟨h10, hok⟩ := vldQ_spec hvl
    have HOK := Lib.hid hok
    clear hok
    rw [HR.out.1, HR.out.2]
    go_enter Try.func27, Try.ntmps27
    go_wp2_with fail
    generalize w.alloc (.cells #[.slice a ps.length cap] 25) = w1 at HB0 HV HBX HSZ ⊢
    have x0 := HBX.out
    go_wp2_with fail
    refine (ivldQ_any _ ps _ HV.out hfit hx).mono ?_
    rintro e w2 ⟨rfl, b2⟩
    have HB2 := Lib.hid (blink HB0.out b2)
    have HC2 : Hid (w2.cell? ⟨w.heap.size, 0, none⟩ = some (.slice a ps.length cap)) := Lib.hid (by rw [b2.cell (p := ⟨w.heap.size, 0, none⟩) HSZ.out]; exact HBX.out)
    have HS2 : Hid (w.heap.size < w2.heap.size) := Lib.hid (by have := HSZ.out; have := b2.size; omega)
    rw [hvl]
    have x1 := HC2.out
    clear b2 x0
    go_wp2_with fail
    refine (iidx_any a ps.length cap h10 w2).mono ?_
    rintro e w3 ⟨rfl, o3, b3⟩
    have HB3 := Lib.hid (blink HB2.out b3)
    have hs3 : w2.heap.size ≤ w3.heap.size := b3.size
    have HON : Hid (OwnN w2.heap.size w3 w2.heap.size ps.length (List.range ps.length)) := Lib.hid ⟨by simp, by
      unfold OwnI at o3
      rw [upK_len] at o3
      exact o3⟩
    have HC3 : Hid (w3.cell? ⟨w.heap.size, 0, none⟩ = some (.slice a ps.length cap)) := Lib.hid (by rw [b3.cell (p := ⟨w.heap.size, 0, none⟩) HS2.out]; exact HC2.out)
    clear o3 b3 x1
    obtain ⟨b, hb1, hb2, hb3⟩ : ∃ b, (1 ≤ ps.length → b < w2.heap.size) ∧ (1 ≤ ps.length → a = some ⟨b, 0, none⟩) ∧ CellsQ w3 b ps := by
      rcases Nat.eq_zero_or_pos ps.length with h | h
      · exact ⟨0, fun h1 => by omega, fun h1 => by omega, fun i hi => by omega⟩
      · obtain ⟨b, e1, e2⟩ := HRD.out (fun e => by rw [e] at h; simp at h)
        exact ⟨b, fun _ => by have := World.block_lt_of_cell? w _ (e2 0 h).1; have := HS2.out; simp only at *; omega, fun _ => e1, e2.below HB3.out⟩
    have HSRT := Lib.hid (sortf_all w2.heap.size w2.heap.size ps.length w.heap.size b cap ps w3 rfl h10 hs3 HS2.out hb1 HON.out (fun h => by rw [HC3.out, hb2 h]) hb3)
    clear hb1 hb2 hb3
    go_wp2_with fail
    refine HSRT.out.mono ?_
    rintro e w4 ⟨rfl, ms, p1, p2, p3, p4⟩
    have HE := sorted_load HOK.out p2 p3
    have HO4 : Hid (OwnI w.heap.size w4 (.slice (some ⟨w2.heap.size, 0, none⟩) ps.length ps.length) (ldU ps 9)) := Lib.hid (by
      unfold OwnI
      rw [← HE, List.length_map, p1.1]
      exact own_mono p1.2 (Nat.le_of_lt HS2.out))
    have HB4 : Hid (Below w.heap.size w w4) := Lib.hid (HB3.out.trans (p4.mono (Nat.le_of_lt HS2.out)))
    clear HE p1 p2 p3 p4
    go_wp2_with fail
    go_ret2
    exact ⟨_, rfl, HO4.out, HB4.out⟩
end Go.Proofs.Ytadhoodddedjjaa
