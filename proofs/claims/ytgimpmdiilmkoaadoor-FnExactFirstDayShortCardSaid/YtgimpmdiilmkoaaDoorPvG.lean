/-
  indicesBy at vouchers, at twelve or fewer.
-/
import Derived.Test.YtgimpmdiilmkoaaDoorPvF
namespace Go.Proofs.YtgimpmdiilmkoaaDoor
open Go Go.RowKit
set_option linter.unusedVariables false

abbrev cloU (F B : Nat) : Value := .func (.func 118) #[] #[.pointer (some ⟨F, 0, none⟩), .pointer (some ⟨B, 0, none⟩)]
set_option maxHeartbeats 1000000 in
theorem insU_zero (g F B : Nat) (w : World) :
    Calls Tryd.prog 132 #[.slice (some ⟨g, 0, none⟩) 0 0, .int .i64 0, .int .i64 0, .func (.func 118) #[] #[.pointer (some ⟨F, 0, none⟩), .pointer (some ⟨B, 0, none⟩)]] w fun e w' => e = .returned (.tuple #[]) ∧ w = w' := by
  go_enter Tryd.func132, Tryd.ntmps132
  go_wp2_with fail
  refine wp_loop_rounds 1 ?_
  rw [rounds_succ]
  go_wp2_with fail
  go_end0
  exact ⟨rfl, rfl⟩

/-- What the sort leaves. -/
def SortsU (lo g n : Nat) (ps : List (Int × Int)) (w : World) (e : Ending) (w' : World) : Prop := e = .returned (.tuple #[]) ∧ ∃ ms, OwnU lo w' g n ms ∧ ms.Perm (List.range n) ∧ SortedU ps ms n ∧ Below lo w w'

theorem insU_all (lo g n F B b cap : Nat) (ps : List (Int × Int)) (w : World) (hl : ps.length = n) (h12 : n ≤ 12) (hlo : lo ≤ w.heap.size) (hFl : F < lo) (hBl : B < lo) (hbl : 1 ≤ n → b < lo)
    (ho : OwnU lo w g n (List.range n)) (hF : w.cell? ⟨F, 0, none⟩ = some (.func (.func 99) #[] #[])) (hB : 1 ≤ n → w.cell? ⟨B, 0, none⟩ = some (.slice (some ⟨b, 0, none⟩) n cap)) (hc : CellsVo w b ps) :
    Calls Tryd.prog 132 #[.slice (some ⟨g, 0, none⟩) n n, .int .i64 0, .int .i64 n, .func (.func 118) #[] #[.pointer (some ⟨F, 0, none⟩), .pointer (some ⟨B, 0, none⟩)]] w (SortsU lo g n ps w) := by
  rcases Nat.eq_zero_or_pos n with h | h
  · subst h
    exact (insU_zero g F B w).mono fun e w' ⟨h1, h2⟩ => ⟨h1, List.range 0, by subst h2; exact ho, List.Perm.refl _, fun a c _ hc => by omega, by subst h2; exact Below.refl _ _⟩
  · exact (insU_any lo g n F B b cap ps (List.range n) w hl h12 h hlo hFl hBl (hbl h) ho (List.Perm.refl _) (PreU.one h) hF (hB h) hc).mono fun e w' h => h

set_option maxHeartbeats 2000000 in
theorem stableU_all (lo g n F B b cap : Nat) (ps : List (Int × Int)) (w : World) (hl : ps.length = n) (h12 : n ≤ 12) (hlo : lo ≤ w.heap.size) (hFl : F < lo) (hBl : B < lo) (hbl : 1 ≤ n → b < lo)
    (ho : OwnU lo w g n (List.range n)) (hF : w.cell? ⟨F, 0, none⟩ = some (.func (.func 99) #[] #[])) (hB : 1 ≤ n → w.cell? ⟨B, 0, none⟩ = some (.slice (some ⟨b, 0, none⟩) n cap)) (hc : CellsVo w b ps) :
    Calls Tryd.prog 128 #[.slice (some ⟨g, 0, none⟩) n n, .int .i64 n, .func (.func 118) #[] #[.pointer (some ⟨F, 0, none⟩), .pointer (some ⟨B, 0, none⟩)]] w (SortsU lo g n ps w) := by
  have HI := Lib.hid (insU_all lo g n F B b cap ps w hl h12 hlo hFl hBl hbl ho hF hB hc)
  have t1 : decide ((20 : Int) ≤ (n : Int)) = false := decide_eq_false (by omega)
  have t2 : decide ((20 : Int) < (n : Int)) = false := decide_eq_false (by omega)
  clear ho hF hB hc hbl hl
  go_enter Tryd.func128, Tryd.ntmps128
  go_wp2_with fail
  refine wp_loop_rounds 1 ?_
  rw [rounds_succ]
  go_wp2_with fail
  refine HI.out.mono ?_
  rintro e w2 ⟨rfl, hs⟩
  have HS := Lib.hid hs
  clear hs
  go_wp2_with fail
  refine wp_loop_rounds 1 ?_
  rw [rounds_succ]
  go_wp2_with fail
  go_end0
  exact ⟨rfl, HS.out⟩

set_option maxHeartbeats 2000000 in
theorem sortsU_all (lo g n F B b cap : Nat) (ps : List (Int × Int)) (w : World) (hl : ps.length = n) (h12 : n ≤ 12) (hlo : lo ≤ w.heap.size) (hFl : F < lo) (hBl : B < lo) (hbl : 1 ≤ n → b < lo)
    (ho : OwnU lo w g n (List.range n)) (hF : w.cell? ⟨F, 0, none⟩ = some (.func (.func 99) #[] #[])) (hB : 1 ≤ n → w.cell? ⟨B, 0, none⟩ = some (.slice (some ⟨b, 0, none⟩) n cap)) (hc : CellsVo w b ps) :
    Calls Tryd.prog 117 #[.slice (some ⟨g, 0, none⟩) n n, .func (.func 118) #[] #[.pointer (some ⟨F, 0, none⟩), .pointer (some ⟨B, 0, none⟩)]] w (SortsU lo g n ps w) := by
  have HI := Lib.hid (stableU_all lo g n F B b cap ps w hl h12 hlo hFl hBl hbl ho hF hB hc)
  clear ho hF hB hc hbl hl
  go_enter Tryd.func117, Tryd.ntmps117
  go_wp2_with fail
  refine HI.out.mono ?_
  rintro e w2 ⟨rfl, hs⟩
  have HS := Lib.hid hs
  clear hs
  go_wp2_with fail
  go_end0
  exact ⟨rfl, HS.out⟩

/-- A row that is made, its first k indices told. -/
def upTo (n k : Nat) : List Nat := (List.range n).map fun i => if i < k then i else 0
theorem upTo_len (n k : Nat) : (upTo n k).length = n := by simp [upTo]
theorem upTo_zero (n : Nat) : (upTo n 0) = List.replicate n 0 := by
  refine List.ext_getElem (by simp [upTo]) fun i h1 h2 => ?_
  simp [upTo]
theorem upTo_all (n : Nat) : upTo n n = List.range n := by
  refine List.ext_getElem (by simp [upTo]) fun i h1 h2 => ?_
  have : i < n := by simpa [upTo] using h1
  simp [upTo, this]
theorem upTo_set {n k : Nat} (h : k < n) : (upTo n k).set k k = upTo n (k + 1) := by
  refine List.ext_getElem (by simp [upTo]) fun i h1 h2 => ?_
  rw [List.getElem_set]
  simp only [upTo, List.getElem_map, List.getElem_range]
  by_cases e : k = i
  · subst e; simp
  · rw [if_neg e]
    by_cases e2 : i < k
    · rw [if_pos e2, if_pos (by omega)]
    · rw [if_neg e2, if_neg (by omega)]
theorem info_int : (Tryd.prog.info? 3).map (fun i => (i.zero, i.size, i.bytes)) = some (some (.int .i64 0), 1, 8) := by kernel_rfl

theorem OwnU.mono {lo lo' g n : Nat} {w : World} {ns : List Nat} (h : OwnU lo w g n ns) (hl : lo' ≤ lo) : OwnU lo' w g n ns := by
  refine ⟨h.1, h.2.1, ?_⟩
  rcases h.2.2 with hn | ⟨g', cap, cur, e, hB, rest⟩
  · exact .inl hn
  · exact .inr ⟨g', cap, cur, e, Nat.le_trans hl hB, rest⟩
set_option maxHeartbeats 4000000 in
set_option maxRecDepth 100000 in
theorem idxU_any (a : Option Addr) (n b cap : Nat) (ps : List (Int × Int)) (w : World) (hl : ps.length = n) (h12 : n ≤ 12) (ha : n ≠ 0 → a = some ⟨b, 0, none⟩) (hc : CellsVo w b ps) :
    Calls Tryd.prog 98 #[.slice a n cap, .func (.func 99) #[] #[]] w fun e w' => ∃ g ms, e = .returned (.slice (some ⟨g, 0, none⟩) n n) ∧ OwnU w.heap.size w' g n ms ∧ ms.Perm (List.range n) ∧ SortedU ps ms n ∧ Below w.heap.size w w' := by
  have hmf : ∀ (fn : Fn) (first cap : Array Value) (w : World), (Instr.makeFunc fn first cap).run Tryd.prog w = .ok (.func fn first cap) w := fun _ _ _ _ => rfl
  obtain ⟨i0, hi, hz0, hz1, hz2⟩ := info_parts info_int
  have HL := Lib.hid hl
  have HA := Lib.hid ha
  have HC := Lib.hid hc
  have HBL : Hid (1 ≤ n → b < w.heap.size) := Lib.hid (fun h => World.block_lt_of_cell? w _ (hc 0 (by omega)).1)
  clear hl ha hc
  go_enter Tryd.func98, Tryd.ntmps98
  go_wp2_with (refine wpList_make_full _ rfl _ _ 144 rfl (w.heap.size + 2) 3 i0 (.int .i64 0) 1 Tryd.underlying144 hi hz0 hz1 .i64 .i64 _ _ n rfl rfl rfl rfl (by rw [hz2]; omega) (by unfold maxLen; omega) (by simp) ?_; intro w3 hown1 hg1)
  have hs3 : w.heap.size + 2 < w3.heap.size := by have h := (hown1.lt _ rfl).2; simpa using h
  have hB3 : Below (w.heap.size + 2) ((w.alloc (.cells #[.slice a n cap] 38)).alloc (.cells #[.func (.func 99) #[] #[]] 147)) w3 := (Below.refl _ _).grown hg1 (by simp) (fun k hk => by simp at hk)
  have fB : w3.cell? ⟨w.heap.size, 0, none⟩ = some (.slice a n cap) := (hB3.cell (p := ⟨w.heap.size, 0, none⟩) (by simp only; omega)).trans (by simp)
  have fF : w3.cell? ⟨w.heap.size + 1, 0, none⟩ = some (.func (.func 99) #[] #[]) := (hB3.cell (p := ⟨w.heap.size + 1, 0, none⟩) (by simp only; omega)).trans (by simp)
  have HW3 : Hid (Below w.heap.size w w3) := Lib.hid ((((Below.refl _ _).alloc (Nat.le_refl _) _).alloc (by simp) _).trans (hB3.mono (by omega)))
  have HU0 : Hid (OwnU (w.heap.size + 2) w3 (w.heap.size + 2) n (upTo n 0)) := Lib.hid (by
    refine ⟨upTo_len n 0, ?_⟩
    rw [upTo_zero, List.map_replicate, List.map_replicate]
    have e : (madeCells (Value.int .i64 0).cells (n * 1)).toList = List.replicate n (.int .i64 0) := by rw [Nat.mul_one]; exact toList_madeCells_one _ _
    rw [e] at hown1
    simpa using hown1)
  have HFF := Lib.hid (And.intro fB fF)
  clear hown1 hg1 hB3 fB fF
  go_wp2_with fail
  go_loopw [12] (fun i wr => ∃ k : Nat, k ≤ n ∧ i = .int .i64 k ∧ OwnU (w.heap.size + 2) wr (w.heap.size + 2) n (upTo n k) ∧ Below (w.heap.size + 2) w3 wr) (fun i _ => n - (intOf i).toNat)
  case atStart => exact ⟨0, Nat.zero_le _, rfl, HU0.out, Below.refl _ _⟩
  case round =>
    obtain ⟨k, hk, rfl, hown, hww⟩ := hrel
    have HO := Lib.hid hown
    have HB := Lib.hid hww
    have hws := hww.size
    by_cases hlt : k < n
    · have c0 := hown.cellAt hlt
      have f0 := World.ownsRow.frozenAt hown.2 k
      have hkn : (k : Int) < (n : Int) := by omega
      have HS : Hid (OwnU (w.heap.size + 2) (wr.setCell ⟨w.heap.size + 2, k, none⟩ (.int .i64 (k : Int))) (w.heap.size + 2) n (upTo n (k + 1))) := Lib.hid (by rw [← upTo_set hlt]; exact hown.store k k)
      clear hown hww
      go_wp2_with fail
      go_roundw
      case rel => exact ⟨k + 1, by omega, by go_num, HS.out, HB.out.setCell (by simp only; omega) _⟩
      case measure => simp [intOf]; omega
    · have hk' : k = n := by omega
      have HO2 : Hid (OwnU (w.heap.size + 2) wr (w.heap.size + 2) n (List.range n)) := Lib.hid (by rw [← upTo_all]; rw [hk'] at hown; exact hown)
      have fB := (hww.cell (p := ⟨w.heap.size, 0, none⟩) (by simp only; omega)).trans HFF.out.1
      have fF := (hww.cell (p := ⟨w.heap.size + 1, 0, none⟩) (by simp only; omega)).trans HFF.out.2
      have HWR : Hid (Below w.heap.size w wr) := Lib.hid (HW3.out.trans (hww.mono (by omega)))
      have HS := Lib.hid (sortsU_all (w.heap.size + 2) (w.heap.size + 2) n (w.heap.size + 1) w.heap.size b cap ps wr HL.out h12 (by omega) (by omega) (by omega) (fun h => by have := HBL.out h; omega) HO2.out fF (fun h => by rw [fB, HA.out (by omega)]) (HC.out.below HWR.out))
      clear hk' hown hww
      go_wp2_with fail
      refine HS.out.mono ?_
      rintro e w4 ⟨rfl, ms, ho, hp, hs, hb⟩
      have HO4 : Hid (OwnU w.heap.size w4 (w.heap.size + 2) n ms) := Lib.hid (ho.mono (by omega))
      have HP4 := Lib.hid hp
      have HS4 := Lib.hid hs
      have HB4 : Hid (Below w.heap.size w w4) := Lib.hid (HWR.out.trans (hb.mono (by omega)))
      clear ho hp hs hb
      go_wp2_with fail
      go_ret
      exact ⟨_, ms, rfl, HO4.out, HP4.out, HS4.out, HB4.out⟩
end Go.Proofs.YtgimpmdiilmkoaaDoor
