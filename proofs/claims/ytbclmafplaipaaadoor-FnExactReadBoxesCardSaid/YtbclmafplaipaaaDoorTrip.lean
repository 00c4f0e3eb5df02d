/-
  Rows of boxes (three int8 each) in memory; contracts of the laws' helpers over them.
-/
import Derived.Test.YtbclmafplaipaaaDoorFlat
import Derived.Test.YtbclmafplaipaaaDoorBox
namespace Go.Proofs.YtbclmafplaipaaaDoor
open Go Go.RowKit
set_option linter.unusedVariables false

abbrev Tri := Int × Int × Int
def encB (p : Tri) : List Value := [.int .i8 p.1, .int .i8 p.2.1, .int .i8 p.2.2]
theorem encB_len (p : Tri) : (encB p).length = 3 := rfl
def flatB (ps : List Tri) : List Value := flatE encB ps
theorem flatB_length (ps : List Tri) : (flatB ps).length = ps.length * 3 := flatE_length encB_len ps
theorem flatB_0 (ps : List Tri) (i : Nat) (hi : i < ps.length) : (flatB ps)[i * 3]? = some (.int .i8 (ps.getD i (0, 0, 0)).1) := by
  have h := flatE_get encB_len ps i 0 hi (by omega)
  rw [Nat.add_zero] at h
  unfold flatB
  rw [h]; simp [encB, List.getD, hi]
theorem flatB_1 (ps : List Tri) (i : Nat) (hi : i < ps.length) : (flatB ps)[i * 3 + 1]? = some (.int .i8 (ps.getD i (0, 0, 0)).2.1) := by
  have h := flatE_get encB_len ps i 1 hi (by omega)
  unfold flatB
  rw [h]; simp [encB, List.getD, hi]
theorem flatB_2 (ps : List Tri) (i : Nat) (hi : i < ps.length) : (flatB ps)[i * 3 + 2]? = some (.int .i8 (ps.getD i (0, 0, 0)).2.2) := by
  have h := flatE_get encB_len ps i 2 hi (by omega)
  unfold flatB
  rw [h]; simp [encB, List.getD, hi]
theorem flatB_set (ps : List Tri) (i : Nat) (x y z : Int) (hi : i < ps.length) : (((flatB ps).set (i * 3) (.int .i8 x)).set (i * 3 + 1) (.int .i8 y)).set (i * 3 + 2) (.int .i8 z) = flatB (ps.set i (x, y, z)) := by
  unfold flatB
  have h1 := flatE_set encB_len ps i 0 (.int .i8 x) (x, (ps[i]).2) hi (by omega) rfl
  rw [Nat.add_zero] at h1
  rw [h1]
  have h2 := flatE_set encB_len (ps.set i (x, (ps[i]).2)) i 1 (.int .i8 y) (x, y, (ps[i]).2.2) (by simpa using hi) (by omega) (by simp [encB])
  rw [h2, List.set_set]
  have h3 := flatE_set encB_len (ps.set i (x, y, (ps[i]).2.2)) i 2 (.int .i8 z) (x, y, z) (by simpa using hi) (by omega) (by simp [encB])
  rw [h3, List.set_set]
theorem flatB_append (ps qs : List Tri) : flatB (ps ++ qs) = flatB ps ++ flatB qs := by simp [flatB, flatE]

/-- The cells of block b read as boxes. -/
def CellsB (w : World) (b : Nat) (ps : List Tri) : Prop := ∀ i, i < ps.length → w.cell? ⟨b, i * 3, none⟩ = some (.int .i8 (ps.getD i (0, 0, 0)).1) ∧ w.cell? ⟨b, i * 3 + 1, none⟩ = some (.int .i8 (ps.getD i (0, 0, 0)).2.1) ∧ w.cell? ⟨b, i * 3 + 2, none⟩ = some (.int .i8 (ps.getD i (0, 0, 0)).2.2)
theorem CellsB.below {w w' : World} {b : Nat} {ps : List Tri} (h : CellsB w b ps) (hb : Below w.heap.size w w') : CellsB w' b ps := fun i hi => by
  obtain ⟨h0, h1, h2⟩ := h i hi
  rw [hb.cell (p := ⟨b, i * 3, none⟩) (World.block_lt_of_cell? w _ h0), hb.cell (p := ⟨b, i * 3 + 1, none⟩) (World.block_lt_of_cell? w _ h1), hb.cell (p := ⟨b, i * 3 + 2, none⟩) (World.block_lt_of_cell? w _ h2)]
  exact ⟨h0, h1, h2⟩
/-- The slice value v is the call's own: a row of boxes of type T. -/
def OwnB (T : TypeId) (B : Nat) (w : World) (v : Value) (ps : List Tri) : Prop := w.ownsRow B T 3 v ps.length (flatB ps)
theorem OwnB.cases {T : TypeId} {B : Nat} {w : World} {v : Value} {ps : List Tri} (h : OwnB T B w v ps) :
    (v = .slice none 0 0 ∧ ps = []) ∨ ∃ g cap, v = .slice (some ⟨g, 0, none⟩) ps.length cap ∧ B ≤ g ∧ g < w.heap.size ∧ ps.length ≤ cap ∧ cap ≤ maxLen ∧ CellsB w g ps ∧ (∀ j, w.frozen? ⟨g, j, none⟩ = false) := by
  rcases h.2 with ⟨rfl, h0⟩ | ⟨g, cap, cur, rfl, hb, hg, hn, hm, _, _⟩
  · exact .inl ⟨rfl, List.eq_nil_of_length_eq_zero h0⟩
  · refine .inr ⟨g, cap, rfl, hb, (Array.getElem?_eq_some_iff.1 hg).1, hn, hm, fun i hi => ⟨?_, ?_, ?_⟩, fun j => World.ownsRow.frozenAt h j⟩
    · rw [World.ownsRow.cellAt h (i * 3) (by omega), flatB_0 ps i hi]
    · rw [World.ownsRow.cellAt h (i * 3 + 1) (by omega), flatB_1 ps i hi]
    · rw [World.ownsRow.cellAt h (i * 3 + 2) (by omega), flatB_2 ps i hi]
theorem OwnB.below {T : TypeId} {B : Nat} {w w' : World} {v : Value} {ps : List Tri} (h : OwnB T B w v ps) (hb : Below w.heap.size w w') : OwnB T B w' v ps := by
  refine ⟨h.1, ?_⟩
  rcases h.2 with hn | ⟨g, cap, cur, rfl, hB, hg, rest⟩
  · exact .inl hn
  · exact .inr ⟨g, cap, cur, rfl, hB, by rw [hb.block g (Array.getElem?_eq_some_iff.1 hg).1]; exact hg, rest⟩
theorem OwnB.kept {T : TypeId} {B : Nat} {w w' : World} {v : Value} {ps : List Tri} {row : Option Nat} (h : OwnB T B w v ps) (hg : w.grownBy w' row) (hne : v.ownBlock = none ∨ v.ownBlock ≠ row) : OwnB T B w' v ps := World.ownsRow.kept h hg hne
theorem OwnB.block {T : TypeId} {B : Nat} {w : World} {v : Value} {ps : List Tri} (h : OwnB T B w v ps) : ∀ k, v.ownBlock = some k → B ≤ k ∧ k < w.heap.size := World.ownsRow.lt h
def ReadsB (w : World) (v : Value) (ps : List Tri) : Prop := ∃ (a : Option Addr) (cap : Nat), v = .slice a ps.length cap ∧ (ps ≠ [] → ∃ b, a = some ⟨b, 0, none⟩ ∧ CellsB w b ps)
theorem OwnB.reads {T : TypeId} {B : Nat} {w : World} {v : Value} {ps : List Tri} (h : OwnB T B w v ps) : ReadsB w v ps := by
  rcases h.cases with ⟨rfl, rfl⟩ | ⟨g, cap, rfl, _, _, _, _, hc, _⟩
  · exact ⟨none, 0, rfl, fun h => absurd rfl h⟩
  · exact ⟨_, cap, rfl, fun _ => ⟨g, rfl, hc⟩⟩
theorem ReadsB.below {w w' : World} {v : Value} {ps : List Tri} (h : ReadsB w v ps) (hb : Below w.heap.size w w') : ReadsB w' v ps := by
  obtain ⟨a, cap, rfl, h⟩ := h
  exact ⟨a, cap, rfl, fun hx => by obtain ⟨b, rfl, hc⟩ := h hx; exact ⟨b, rfl, hc.below hb⟩⟩
/-- A slice of boxes that came in. -/
def IsRowB (w : World) (a : Option Addr) (len cap : Nat) (ps : List Tri) : Prop :=
  (a = none ∧ len = 0 ∧ cap = 0 ∧ ps = []) ∨
  ∃ x, a = some x ∧ len ≤ cap ∧ cap ≤ maxLen ∧ ps.length = len ∧ ∀ i, i < ps.length → w.cell? (x.add (i * 3)) = some (.int .i8 (ps.getD i (0, 0, 0)).1) ∧ w.cell? (x.add (i * 3 + 1)) = some (.int .i8 (ps.getD i (0, 0, 0)).2.1) ∧ w.cell? (x.add (i * 3 + 2)) = some (.int .i8 (ps.getD i (0, 0, 0)).2.2)
theorem IsRowB.below {w w' : World} {a : Option Addr} {len cap : Nat} {ps : List Tri} (h : IsRowB w a len cap ps) (hb : Below w.heap.size w w') : IsRowB w' a len cap ps := by
  rcases h with h | ⟨x, rfl, h1, h2, h3, h4⟩
  · exact .inl h
  · refine .inr ⟨x, rfl, h1, h2, h3, fun i hi => ?_⟩
    obtain ⟨g0, g1, g2⟩ := h4 i hi
    rw [hb.cell (World.block_lt_of_cell? w _ g0), hb.cell (World.block_lt_of_cell? w _ g1), hb.cell (World.block_lt_of_cell? w _ g2)]
    exact ⟨g0, g1, g2⟩
theorem IsRowB.len_eq {w : World} {a : Option Addr} {len cap : Nat} {ps : List Tri} (h : IsRowB w a len cap ps) : ps.length = len := by
  rcases h with ⟨_, rfl, _, rfl⟩ | ⟨x, rfl, h1, h2, h3, h4⟩
  · rfl
  · exact h3
/-- Each side of each box fits eight bits. -/
def All8 (ps : List Tri) : Prop := ∀ p ∈ ps, I8s p.1 p.2.1 p.2.2
theorem All8.get {ps : List Tri} (h : All8 ps) (i : Nat) (hi : i < ps.length) : I8s (ps.getD i (0, 0, 0)).1 (ps.getD i (0, 0, 0)).2.1 (ps.getD i (0, 0, 0)).2.2 := by
  have := h (ps[i]) (List.getElem_mem _)
  simpa [List.getD, hi] using this

theorem info_box : (Tryd.prog.info? 90).map (fun i => (i.zero, i.size, i.bytes)) = some (some (.agg #[.int .i8 0, .int .i8 0, .int .i8 0]), 3, 3) := by kernel_rfl

set_option maxHeartbeats 2000000 in
set_option maxRecDepth 100000 in
theorem eqBoxS_row (b c len cap cap2 : Nat) (xs : List Tri) (hx : xs.length = len) (hm : len ≤ 1048576) (w : World) (hcx : CellsB w b xs) (hcy : CellsB w c xs) :
    Calls Tryd.prog 18 #[.slice (some ⟨b, 0, none⟩) len cap, .slice (some ⟨c, 0, none⟩) len cap2] w fun e w' => e = .returned (.bool true) ∧ Below w.heap.size w w' := by
  go_enter Tryd.func18, Tryd.ntmps18
  go_wp2_with fail
  go_loopw [5] (fun i wr => ∃ k : Nat, k ≤ len ∧ i = .int .i64 k ∧ Below w.heap.size w wr) (fun i _ => len - (intOf i).toNat)
  case atStart => exact ⟨0, Nat.zero_le _, rfl, Below.refl _ _⟩
  case round =>
    obtain ⟨k, hk, rfl, hnx⟩ := hrel
    have HB := Lib.hid hnx
    have HX := Lib.hid hx
    by_cases hlt : k < len
    · obtain ⟨c0, c1, c2⟩ := hcx.below hnx k (by omega)
      obtain ⟨d0, d1, d2⟩ := hcy.below hnx k (by omega)
      obtain ⟨p, hp⟩ : ∃ p, xs.getD k (0, 0, 0) = p := ⟨_, rfl⟩
      rw [hp] at c0 c1 c2 d0 d1 d2
      obtain ⟨x, y, z⟩ := p
      have HCX := Lib.hid hcx
      have HCY := Lib.hid hcy
      have hwr : w.heap.size ≤ wr.heap.size := hnx.size
      have hkl : (k : Int) < (len : Int) := by omega
      clear hcx hcy hx hnx hp
      go_wp2_with fail
      go_still_tail 8, (by kernel_rfl)
      change wpList _ _ _ _ _ wr.drew
      have HBD : Hid (Below w.heap.size w wr.drew) := Lib.hid HB.out.drew
      have hwd : w.heap.size ≤ wr.drew.heap.size := hwr
      generalize wr.drew = wd at HBD hwd ⊢
      go_wp2_with fail
      refine (eqBox_same x y z _).mono ?_
      rintro e w2 ⟨rfl, b2⟩
      have HB2 : Hid (Below w.heap.size w w2) := Lib.hid (HBD.out.trans (b2.mono hwd))
      clear b2
      go_wp2_with fail
      go_roundw
      case rel => exact ⟨k + 1, by omega, by go_num, HB2.out⟩
      case measure => simp [intOf]; omega
    · clear hcx hcy hx hnx
      go_wp2_with fail
      go_ret
      exact ⟨rfl, HB.out⟩

set_option maxHeartbeats 1000000 in
theorem eqBoxS_empty (a c : Option Addr) (cap cap2 : Nat) (w : World) :
    Calls Tryd.prog 18 #[.slice a 0 cap, .slice c 0 cap2] w fun e w' => e = .returned (.bool true) ∧ Below w.heap.size w w' := by
  go_enter Tryd.func18, Tryd.ntmps18
  go_wp2
  refine wp_loop_rounds 1 ?_
  rw [rounds_succ]
  go_wp2
  go_ret
  exact ⟨rfl, Below.refl _ _⟩

/-- eqBoxS on two slices that read as the same list of boxes. -/
theorem eqBoxS_any (v u : Value) (xs : List Tri) (w : World) (hv : ReadsB w v xs) (hu : ReadsB w u xs) (hx : xs.length ≤ 1048576) :
    Calls Tryd.prog 18 #[v, u] w fun e w' => e = .returned (.bool true) ∧ Below w.heap.size w w' := by
  obtain ⟨a, cap, rfl, ha⟩ := hv
  obtain ⟨c, cap2, rfl, hc⟩ := hu
  by_cases h0 : xs = []
  · subst h0
    exact eqBoxS_empty a c cap cap2 w
  · obtain ⟨b1, rfl, c1⟩ := ha h0
    obtain ⟨b2, rfl, c2⟩ := hc h0
    exact eqBoxS_row b1 b2 xs.length cap cap2 xs rfl hx w c1 c2

end Go.Proofs.YtbclmafplaipaaaDoor
