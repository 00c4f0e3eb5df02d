/-
  slices.SortFunc over lines, by their classes.
-/
import Derived.Test.YtocogipejchneaaRLine
import Derived.Test.YtocogipejchneaaLaySf
import Derived.Test.YtocogipejchneaaMgP
import Derived.Shelf.SlSortCmp.SmallK
import Derived.Sort.OwnSortedInts
import Derived.Deep.RegionHeld3
namespace Go.Proofs.Ytocogipejchneaa
open Go Go.RowKit Go.Sort
set_option linter.unusedVariables false

def cmZ (x y : Int) : Int := if x < y then -1 else if y < x then 1 else 0
theorem cmZ_neg (x y : Int) : cmZ x y < 0 ↔ x < y := by unfold cmZ; split <;> (try split) <;> omega
set_option maxHeartbeats 1000000 in
theorem nanS8_any (x : Int) (w : World) : Calls Try.prog 37 #[.int .i8 x] w fun e w' => e = .returned (.bool false) ∧ w = w' := by
  have h : (x != x) = false := by simp
  go_enter Try.func37, Try.ntmps37
  go_wp2
  go_ret
  exact ⟨rfl, rfl⟩
set_option maxHeartbeats 2000000 in
theorem cmpS8_any (x y : Int) (w : World) : Calls Try.prog 25 #[.int .i8 x, .int .i8 y] w fun e w' => e = .returned (.int .i64 (cmZ x y)) ∧ w = w' := by
  rcases Int.lt_trichotomy x y with h | h | h
  · have HE : Hid (cmZ x y = -1) := Lib.hid (by simp [cmZ, h])
    have t1 : decide (x < y) = true := decide_eq_true h
    rw [HE.out]
    go_enter Try.func25, Try.ntmps25
    go_wp2_with (go_at_call 37; refine (nanS8_any _ _).mono ?_; rintro e w2 ⟨rfl, rfl⟩)
    go_ret
    exact ⟨rfl, rfl⟩
  · subst h
    have HE : Hid (cmZ x x = 0) := Lib.hid (by simp [cmZ])
    have t1 : decide (x < x) = false := by simp
    rw [HE.out]
    go_enter Try.func25, Try.ntmps25
    go_wp2_with (go_at_call 37; refine (nanS8_any _ _).mono ?_; rintro e w2 ⟨rfl, rfl⟩)
    go_ret
    exact ⟨rfl, rfl⟩
  · have HE : Hid (cmZ x y = 1) := Lib.hid (by simp [cmZ, h, show ¬ x < y by omega])
    have t1 : decide (x < y) = false := decide_eq_false (by omega)
    have t2 : decide (y < x) = true := decide_eq_true h
    rw [HE.out]
    go_enter Try.func25, Try.ntmps25
    go_wp2_with (go_at_call 37; refine (nanS8_any _ _).mono ?_; rintro e w2 ⟨rfl, rfl⟩)
    go_ret
    exact ⟨rfl, rfl⟩
set_option maxHeartbeats 4000000 in
set_option maxRecDepth 100000 in
theorem blenS_any (n : Nat) (h : n ≤ 12) (w : World) : Calls Try.prog 36 #[.int .u64 n] w fun e w' => (∃ m : Int, e = .returned (.int .i64 m)) ∧ w' = w := by
  obtain rfl | rfl | rfl | rfl | rfl | rfl | rfl | rfl | rfl | rfl | rfl | rfl | rfl : n = 0 ∨ n = 1 ∨ n = 2 ∨ n = 3 ∨ n = 4 ∨ n = 5 ∨ n = 6 ∨ n = 7 ∨ n = 8 ∨ n = 9 ∨ n = 10 ∨ n = 11 ∨ n = 12 := by omega
  all_goals
    go_enter Try.func36, Try.ntmps36
    go_wp2
    go_ret
    exact ⟨⟨_, rfl⟩, rfl⟩


set_option maxHeartbeats 2000000 in
theorem icloJ_any (x0 x1 x2 x3 y0 y1 y2 y3 : Int) (W : World) : Calls Try.prog 24 #[.agg #[.int .i8 x0, .int .i16 x1, .int .i32 x2, .int .i32 x3], .agg #[.int .i8 y0, .int .i16 y1, .int .i32 y2, .int .i32 y3]] W fun e w' => e = .returned (.int .i64 (cmZ x0 y0)) ∧ ∃ q os', w' = grow (W.drewN q) os' := by
  have hcon := fun W' => cmpS8_any x0 y0 W'
  generalize cmZ x0 y0 = r at hcon ⊢
  go_enter Try.func24, Try.ntmps24
  go_wp2_with (go_at_call 25; refine (hcon _).mono ?_; rintro e w' ⟨rfl, rfl⟩)
  go_ret
  exact ⟨rfl, 0, _, by rw [alloc_eq_grow, alloc_eq_grow, grow_grow]; rfl⟩

def cfJ (x y : Quad) : Int := cmZ x.1 y.1
theorem ltJ (x y : Quad) : ltOf cfJ x y = decide (x.1 < y.1) := by
  unfold ltOf cfJ
  by_cases h : x.1 < y.1
  · rw [decide_eq_true h, decide_eq_true ((cmZ_neg _ _).2 h)]
  · rw [decide_eq_false h, decide_eq_false (fun h2 => h ((cmZ_neg _ _).1 h2))]
theorem swoJ : SWO (ltOf cfJ) where
  irrefl := fun x => by rw [ltJ]; simp
  trans := fun x y z h1 h2 => by rw [ltJ] at *; simp at *; omega
  ntrans := fun x y z h1 h2 => by rw [ltJ] at *; simp at *; omega
theorem flatK_L (M : List Quad) : flatK encL 4 M.toArray = (flatL M).toArray := by
  refine Array.ext ?_ (fun t h1 h2 => ?_)
  · rw [size_flatK]; simp [flatL_length]
  · have ht : t < M.length * 4 := by simpa [size_flatK] using h1
    have hd : t / 4 < M.length := by omega
    have e := get_flatK encL 4 M.toArray t (by simpa using ht)
    rw [getElem!_pos (flatK encL 4 M.toArray) t h1] at e
    rw [e]
    have g := flatE_get encL_len M (t / 4) (t % 4) hd (by omega)
    rw [show t / 4 * 4 + t % 4 = t by omega] at g
    have g2 : (flatL M)[t]? = (encL M[t / 4])[t % 4]? := g
    have hm : t % 4 < (encL M[t / 4]).length := by rw [encL_len]; omega
    rw [List.getElem?_eq_getElem (by simpa using h2), List.getElem?_eq_getElem hm] at g2
    have g3 : (flatL M)[t]'(by simpa using h2) = (encL M[t / 4])[t % 4] := Option.some.inj g2
    rw [List.getElem_toArray, g3]
    rw [getElem!_pos M.toArray (t / 4) (by simpa using hd), List.getElem_toArray, getElem!_pos (encL M[t / 4]) (t % 4) hm]
theorem take_putCellsJ (cur : Array Value) (us : List Value) (h : us.length ≤ cur.size) : (putCells id 0 us.toArray cur).toList.take us.length = us := by
  apply List.ext_getElem?
  intro j
  by_cases hj : j < us.length
  · rw [List.getElem?_take_of_lt hj, Array.getElem?_toList]
    simp [putCells, hj, show j < cur.size by omega]
  · rw [List.getElem?_take_eq_none (by omega), List.getElem?_eq_none (by omega)]
theorem heap_sortedJ {w : World} {g n : Nat} {os : Array Obj} {cur : Array Value} {e : TypeId} {fr : Nat × Nat} (d : Array Value) (hb : w.heap[g]? = some (.cells cur e fr)) :
    (grow (putRow id (Sort.ahead w n) g 0 d) os).heap[g]? = some (.cells (putCells id 0 d cur) e fr) := by
  have hg : g < w.heap.size := (Array.getElem?_eq_some_iff.1 hb).1
  rw [heap_grow_old _ _ (by simpa using hg)]
  simp [putRow, mapBlock, Sort.ahead, Array.getElem?_modify, hb, onCells]
theorem grownBy_sortedJ {w : World} {g n : Nat} {os : Array Obj} (d : Array Value) : w.grownBy (grow (putRow id (Sort.ahead w n) g 0 d) os) (some g) := by
  refine ⟨rfl, rfl, rfl, by simp, fun k hk hne => ?_⟩
  rw [heap_grow_old _ _ (by simpa using hk)]
  have : g ≠ k := fun e => hne (by rw [e])
  simp [putRow, mapBlock, Sort.ahead, Array.getElem?_modify, this]
theorem holdsJ {w : World} {g : Nat} {cur : Array Value} {e : TypeId} {us : List Value} (hb : w.heap[g]? = some (.cells cur e (0, 0))) (ht : cur.toList.take us.length = us) : Holds id w g 0 us.toArray := by
  intro j hj
  have hj' : j < us.length := by simpa using hj
  refine ⟨?_, by simp [World.frozen?, hb]⟩
  have h1 : (cur.toList.take us.length)[j]? = us[j]? := by rw [ht]
  rw [List.getElem?_take_of_lt hj'] at h1
  simp only [World.cell?, hb, Nat.zero_add]
  simp only [Option.isSome_none, Bool.false_eq_true, if_false]
  rw [← Array.getElem?_toList, h1]
  simp [hj']

set_option maxHeartbeats 4000000 in
/-- No lines: nothing is done. -/
theorem insJ0_any (lo : Int) (cap : Nat) (fv : Value) (w : World) : Calls Try.prog 39 #[.slice none 0 cap, .int .i64 0, .int .i64 0, fv] w fun e w' => e = .returned (.tuple #[]) ∧ w' = w := by
  go_enter Try.func39, Try.ntmps39
  go_wp2_with fail
  refine wp_loop_rounds 1 ?_
  rw [rounds_succ]
  go_wp2_with fail
  go_end0
  exact ⟨rfl, rfl⟩

set_option maxHeartbeats 4000000 in
theorem pdqJ0_any (lim : Int) (cap : Nat) (fv : Value) (w : World) : Calls Try.prog 35 #[.slice none 0 cap, .int .i64 0, .int .i64 0, .int .i64 lim, fv] w fun e w' => e = .returned (.tuple #[]) ∧ w' = w := by
  have hi := fun W => insJ0_any 0 cap fv W
  go_enter Try.func35, Try.ntmps35
  go_wp2_with fail
  refine wp_loop_rounds 1 ?_
  rw [rounds_succ]
  go_wp2_with (go_at_call 39; refine (hi _).mono ?_; rintro e w' ⟨rfl, rfl⟩)
  (try simp only [Exit.inBlock, Exit.then])
  refine bodyPost_ret (results_none rfl _ _ _) rfl ?_
  exact ⟨rfl, rfl⟩
set_option maxHeartbeats 4000000 in
theorem sfJ0_any (cap : Nat) (fv : Value) (w : World) : Calls Try.prog 23 #[.slice none 0 cap, fv] w fun e w' => e = .returned (.tuple #[]) ∧ w' = w := by
  have hi := fun lim W => pdqJ0_any lim cap fv W
  have hl : ∀ W, Calls Try.prog 36 #[.int .u64 0] W fun e w' => (∃ m : Int, e = .returned (.int .i64 m)) ∧ w' = W := fun W => blenS_any 0 (by omega) W
  go_enter Try.func23, Try.ntmps23
  go_wp2_with (first | (go_at_call 36; refine (hl _).mono ?_; rintro e w' ⟨⟨l, rfl⟩, rfl⟩) | (go_at_call 35; refine (hi _ _).mono ?_; rintro e w' ⟨rfl, rfl⟩))
  go_end0
  exact ⟨rfl, rfl⟩

/-- Lines sorted by their classes. -/
theorem isortJ_any (B : Nat) (v : Value) (M : List Quad) (W : World) (h12 : M.length ≤ 12) (ho : OwnL 44 B W v M) (hB : B ≤ W.heap.size) :
    Calls Try.prog 23 #[v, .func (.func 24) #[] #[]] W fun e w' => e = .returned (.tuple #[]) ∧ ∃ M', OwnL 44 B w' v M' ∧ M'.Perm M ∧ M'.Pairwise (fun a b => a.1 ≤ b.1) ∧ Below B W w' := by
  rcases ho.2 with ⟨rfl, h⟩ | ⟨g, cap, cur, rfl, hbase, hgb, r1, r2, r3, r4⟩
  · have h0 := List.eq_nil_of_length_eq_zero h
    subst h0
    refine (sfJ0_any 0 _ W).mono ?_
    rintro e w' ⟨rfl, rfl⟩
    exact ⟨rfl, [], ho, List.Perm.refl _, List.Pairwise.nil, Below.refl _ _⟩
  have hgl : g < W.heap.size := (Array.getElem?_eq_some_iff.1 hgb).1
  have eg : ∀ args w, (callFunc 24 args).run Try.prog w = .ok (.enter 24 args) w := enters_of Try.func24 (by kernel_rfl) rfl
  have hH : HoldsK encL 4 W g 0 M.toArray := by
    unfold HoldsK
    rw [flatK_L]
    exact holdsJ hgb (by rw [flatL_length]; exact r4)
  have hC : CmpLays Try.prog 24 #[] encL 4 cfJ g 0 M.toArray.size W := fun _ _ _ _ x y => icloJ_any x.1 x.2.1 x.2.2.1 x.2.2.2 y.1 y.2.1 y.2.2.1 y.2.2.2 _
  have hS := AnyQ.slices_SortFunc_small_sorted laySf 4 Try.isAgg44 Try.sizeOf44 encL encL_len (fun x v hv => by simp [encL] at hv; rcases hv with rfl | rfl | rfl | rfl <;> rfl) cfJ 24 #[] swoJ g 0 cap M.toArray W eg hC hH hgl (by simpa using h12) (fun n W h => blenS_any n h W)
  refine (show Calls Try.prog 23 #[.slice (some ⟨g, 0, none⟩) M.length cap, .func (.func 24) #[] #[]] W _ from hS).mono ?_
  rintro e w' ⟨rfl, d', n, os, hp, hs, rfl⟩
  have hsz : d'.size = M.length := by rw [hp.1]; simp
  have hper : d'.toList.Perm M := by
    have h := hp.2.2
    have h1 : d'.extract 0 M.toArray.size = d' := by rw [← hp.1]; simp
    have h2 : M.toArray.extract 0 M.toArray.size = M.toArray := by simp
    rw [h1, h2] at h
    exact h
  refine ⟨rfl, d'.toList, ?_, hper, ?_, ?_⟩
  · have e1 : d'.toList.length = M.length := by simpa using hsz
    have e2 : sortWorldK encL 4 W g 0 n d' os = grow (putRow id (Sort.ahead W n) g 0 (flatL d'.toList).toArray) os := by
      unfold sortWorldK putRowK
      rw [show d' = d'.toList.toArray from rfl, flatK_L]
    rw [e2]
    unfold OwnL
    rw [e1]
    refine ⟨by rw [flatL_length, e1], .inr ⟨g, cap, _, rfl, hbase, heap_sortedJ _ hgb, r1, r2, by simp [putCells, r3], ?_⟩⟩
    rw [show M.length * 4 = (flatL d'.toList).length by rw [flatL_length, e1]]
    exact take_putCellsJ cur _ (by rw [flatL_length, e1, r3]; omega)
  · rw [List.pairwise_iff_getElem]
    intro i j hi hj hij
    have h := hs i j (Nat.zero_le _) hij (by simp at hj ⊢; omega)
    rw [ltJ, getElem!_pos d' i (by simpa using hi), getElem!_pos d' j (by simpa using hj)] at h
    have h2 := of_decide_eq_false h
    rw [Array.getElem_toList, Array.getElem_toList]
    omega
  · have e2 : sortWorldK encL 4 W g 0 n d' os = grow (putRow id (Sort.ahead W n) g 0 (flatK encL 4 d')) os := rfl
    rw [e2]
    exact (Below.refl B W).grown (grownBy_sortedJ _) hB (fun j hj => by cases hj; exact hbase)
end Go.Proofs.Ytocogipejchneaa
