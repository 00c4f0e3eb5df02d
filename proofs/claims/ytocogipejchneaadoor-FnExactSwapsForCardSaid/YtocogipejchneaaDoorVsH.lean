/-
  slices.Collect and Sorted over slices.Values, at numbers; hasEachOnce.
-/
import Derived.Test.YtocogipejchneaaDoorVsV
namespace Go.Proofs.YtocogipejchneaaDoor
open Go Go.RowKit Go.Sort
set_option linter.unusedVariables false

abbrev valsF (Bs : Nat) : Value := .func (.func 37) #[] #[.pointer (some ⟨Bs, 0, none⟩)]

set_option maxHeartbeats 1000000 in
theorem collV_any (Bs cap : Nat) (a : Option Addr) (zs : List Int) (hz : zs.length ≤ 1048576) (w : World) (hBs : w.cell? ⟨Bs, 0, none⟩ = some (.slice a zs.length cap)) (ha : zs ≠ [] → ∃ b, a = some ⟨b, 0, none⟩ ∧ Cells w b zs) :
    Calls Tryd.prog 35 #[valsF Bs] w fun e w' => ∃ v, e = .returned v ∧ OwnI w.heap.size w' v zs ∧ Below w.heap.size w w' := by
  have HA := Lib.hid (callsIn_wide.1 (aps_in Bs cap a zs hz w hBs ha))
  clear hBs ha
  go_enter Tryd.func35, Tryd.ntmps35
  go_wp2_with fail
  refine HA.out.mono ?_
  rintro e w2 ⟨v, rfl, o2, b2⟩
  have HO := Lib.hid o2
  have HB := Lib.hid b2
  clear o2 b2
  go_wp2_with fail
  go_ret
  exact ⟨v, rfl, HO.out, HB.out⟩

set_option maxHeartbeats 1000000 in
theorem sortV_any (Bs cap : Nat) (a : Option Addr) (zs : List Int) (hz : zs.length ≤ 1048576) (w : World) (hBs : w.cell? ⟨Bs, 0, none⟩ = some (.slice a zs.length cap)) (ha : zs ≠ [] → ∃ b, a = some ⟨b, 0, none⟩ ∧ Cells w b zs) :
    Calls Tryd.prog 27 #[valsF Bs] w fun e w' => ∃ v, e = .returned v ∧ OwnI w.heap.size w' v (sortI zs) ∧ Below w.heap.size w w' := by
  have HC := Lib.hid (collV_any Bs cap a zs hz w hBs ha)
  clear hBs ha
  go_enter Tryd.func27, Tryd.ntmps27
  go_wp2_with fail
  refine HC.out.mono ?_
  rintro e w2 ⟨v, rfl, o2, b2⟩
  have HB := Lib.hid b2
  rcases o2.2 with ⟨rfl, h0⟩ | ⟨g, gcap, cur, rfl, hbase, hgb, r1, r2, r3, r4⟩
  · have hzs : zs = [] := List.eq_nil_of_length_eq_zero h0
    subst hzs
    have HO := Lib.hid (show OwnI w.heap.size w2 (.slice none 0 0) (sortI []) from by unfold sortI; rw [List.mergeSort_nil]; exact o2)
    have hS : Calls Tryd.prog 36 #[.slice none 0 0] w2 fun e w' => e = .returned (.tuple #[]) ∧ w' = w2 := AnyM.slices_Sort_int_none laySort none 0 w2
    have HS := Lib.hid hS
    clear o2 b2 h0 hS
    go_wp2_with fail
    refine HS.out.mono ?_
    rintro e w3 ⟨rfl, rfl⟩
    go_wp2_with fail
    go_ret
    exact ⟨_, rfl, HO.out, HB.out⟩
  · have hH : Holds (Value.int .i64) w2 g 0 zs.toArray := holds_of_blockI hgb (by simpa using r4)
    have hgl : g < w2.heap.size := (Array.getElem?_eq_some_iff.1 hgb).1
    have hS : Calls Tryd.prog 36 #[.slice (some ⟨g, 0, none⟩) zs.length gcap] w2 fun e w' => e = .returned (.tuple #[]) ∧ OwnI w.heap.size w' (.slice (some ⟨g, 0, none⟩) zs.length gcap) (sortI zs) ∧ Below w.heap.size w w' := by
      refine (show Calls Tryd.prog 36 #[.slice (some ⟨g, 0, none⟩) zs.length gcap] w2 _ from AnyM.slices_Sort_int laySort g 0 gcap zs w2 hH hgl (by omega)).mono ?_
      rintro e w3 ⟨rfl, n, os, rfl⟩
      refine ⟨rfl, ?_, b2.grown (grownBy_sortedI _) b2.size (fun j hj => by cases hj; exact hbase)⟩
      have h := ownsRow_sortedI (n := n) (os := os) (ss := zs) (ts := sortI zs) (sortI_len zs) hbase hgb r1 r2 r3
      unfold OwnI
      rw [sortI_len]
      exact h
    have HS := Lib.hid hS
    clear o2 b2 hH hgl hS hgb r1 r2 r3 r4 hbase
    go_wp2_with fail
    refine HS.out.mono ?_
    rintro e w3 ⟨rfl, o3, b3⟩
    have HO3 := Lib.hid o3
    have HB3 := Lib.hid b3
    clear o3 b3
    go_wp2_with fail
    go_ret
    exact ⟨_, rfl, HO3.out, HB3.out⟩

set_option maxHeartbeats 1000000 in
theorem vals_any (a : Option Addr) (len cap : Nat) (w : World) :
    Calls Tryd.prog 28 #[.slice a len cap] w fun e w' => e = .returned (valsF w.heap.size) ∧ w' = w.alloc (.cells #[.slice a len cap] 22) := by
  go_enter Tryd.func28, Tryd.ntmps28
  go_wp2_with fail
  go_ret
  exact ⟨rfl, rfl⟩

set_option maxHeartbeats 1000000 in
theorem iheo_any (v u : Value) (xs ns : List Int) (w : World) (hv : ReadsI w v xs) (hu : ReadsI w u ns) (hx : xs.length ≤ 1048576) (hn : ns.length ≤ 1048576) :
    Calls Tryd.prog 29 #[v, u] w fun e w' => e = .returned (.bool (visB ns xs)) ∧ Below w.heap.size w w' := by
  have HU := Lib.hid hu
  obtain ⟨a, cap, rfl, ha⟩ := hv
  have HA := Lib.hid ha
  clear hu ha
  go_enter Tryd.func29, Tryd.ntmps29
  go_wp2_with fail
  refine (vals_any a xs.length cap w).mono ?_
  rintro e w2 ⟨rfl, e2⟩
  have b2 : Below w.heap.size w w2 := by rw [e2]; exact (Below.refl _ _).alloc (Nat.le_refl _) _
  have c2 : w2.cell? ⟨w.heap.size, 0, none⟩ = some (.slice a xs.length cap) := by rw [e2]; simp
  have HS := Lib.hid (sortV_any w.heap.size cap a xs hx w2 c2 (fun h => by obtain ⟨b, e, hc⟩ := HA.out h; exact ⟨b, e, hc.below b2⟩))
  have HB2 := Lib.hid b2
  clear b2 c2 e2
  go_wp2_with fail
  refine HS.out.mono ?_
  rintro e w3 ⟨v3, rfl, o3, b3⟩
  have HB3 := Lib.hid (blink HB2.out b3)
  have HE := Lib.hid (leq_any v3 u (sortI xs) ns w3 o3.reads (HU.out.below HB3.out) (by rw [sortI_len]; exact hx) hn)
  clear o3 b3
  go_wp2_with fail
  refine HE.out.mono ?_
  rintro e w4 ⟨rfl, b4⟩
  have HB4 := Lib.hid (blink HB3.out b4)
  clear b4
  go_wp2_with fail
  go_ret
  exact ⟨rfl, HB4.out⟩
end Go.Proofs.YtocogipejchneaaDoor
