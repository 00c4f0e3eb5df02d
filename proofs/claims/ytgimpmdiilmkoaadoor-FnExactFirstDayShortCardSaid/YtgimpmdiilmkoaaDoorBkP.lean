/-
  The books of orders and returns: codes, what is sold, and what the books under way hold in memory.
-/
import Derived.Test.YtgimpmdiilmkoaaDoorVlOd
import Derived.Test.YtgimpmdiilmkoaaDoorVlRt
import Derived.Test.YtgimpmdiilmkoaaDoorRsold
import Derived.Test.YtgimpmdiilmkoaaDoorRsentBack
import Derived.Deep.AppendLies
namespace Go.Proofs.YtgimpmdiilmkoaaDoor
open Go Go.RowKit
set_option linter.unusedVariables false

abbrev Q5 := Int × Int × Int × Int × Int
abbrev Q4 := Int × Int × Int × Int
/-- The code of orders, returns and whether what is asked else is as told. -/
def bkC (ps : List Q5) (rs : List Q4) (fine : Bool) : Int := if (vldOd ps && vldRt rs) = false then 1 else if fine = false then 2 else 0
theorem bkC_1 {ps : List Q5} {rs : List Q4} {fine : Bool} (h : (vldOd ps && vldRt rs) = false) : bkC ps rs fine = 1 := if_pos h
theorem bkC_2 {ps : List Q5} {rs : List Q4} (h : (vldOd ps && vldRt rs) = true) : bkC ps rs false = 2 := by unfold bkC; rw [if_neg (by rw [h]; simp), if_pos rfl]
theorem bkC_0 {ps : List Q5} {rs : List Q4} (h : (vldOd ps && vldRt rs) = true) : bkC ps rs true = 0 := by unfold bkC; rw [if_neg (by rw [h]; simp), if_neg (by simp)]
theorem bkC_ok {ps : List Q5} {rs : List Q4} {fine : Bool} (h : bkC ps rs fine = 0) : vldOd ps = true ∧ vldRt rs = true ∧ fine = true := by
  unfold bkC at h
  split at h
  · omega
  · rename_i h1
    split at h
    · omega
    · rename_i h2
      simp at h1 h2
      exact ⟨h1.1, h1.2, h2⟩
theorem bkC_in (ps : List Q5) (rs : List Q4) (fine : Bool) : bkC ps rs fine = 0 ∨ bkC ps rs fine = 1 ∨ bkC ps rs fine = 2 ∨ bkC ps rs fine = 3 := by
  unfold bkC
  split
  · omega
  · split <;> omega

/-- What an order sells: Buyer, Item, Number, Day, Price. -/
def soldO (p : Q5) : Q5 := (p.1, p.2.1, p.2.2.1, p.2.2.2.2, p.2.2.2.1)
def soldTo (ps : List Q5) (k : Nat) : List Q5 := (ps.take k).map soldO
theorem soldTo_len {ps : List Q5} {k : Nat} (h : k ≤ ps.length) : (soldTo ps k).length = k := by simp [soldTo]; omega
theorem soldTo_succ {ps : List Q5} {k : Nat} (h : k < ps.length) : soldTo ps (k + 1) = soldTo ps k ++ [soldO (ps.getD k (0, 0, 0, 0, 0))] := by
  unfold soldTo
  rw [List.take_add_one, List.map_append]
  simp [List.getD, h]
theorem soldTo_all {ps : List Q5} : soldTo ps ps.length = ps.map soldO := by simp [soldTo]
theorem sentTo_succ {rs : List Q4} {k : Nat} (h : k < rs.length) : rs.take (k + 1) = rs.take k ++ [rs.getD k (0, 0, 0, 0)] := by
  rw [List.take_add_one]
  simp [List.getD, h]

theorem info_sold : (Tryd.prog.info? 94).map (fun i => (i.zero, i.size, i.bytes)) = some (some (.agg #[.int .i8 0, .int .i8 0, .int .i16 0, .int .i16 0, .int .i16 0]), 5, 8) := by kernel_rfl
theorem info_sent : (Tryd.prog.info? 96).map (fun i => (i.zero, i.size, i.bytes)) = some (some (.agg #[.int .i8 0, .int .i8 0, .int .i16 0, .int .i16 0]), 4, 6) := by kernel_rfl

theorem own_set {w : World} {B n k : Nat} {T : TypeId} {v : Value} {xs : List Value} (h : w.ownsRow B T n v k xs) {a : Addr} (u : Value) (ha : a.block < B) : (w.setCell a u).ownsRow B T n v k xs := by
  refine ⟨h.1, ?_⟩
  rcases h.2 with hn | ⟨g, cap, cur, rfl, hB, hg, rest⟩
  · exact .inl hn
  · exact .inr ⟨g, cap, cur, rfl, hB, by rw [heap_setCell_other w a g u (by omega)]; exact hg, rest⟩
theorem row_keep {B n k : Nat} {T : TypeId} {w w' : World} {v : Value} {xs : List Value} (h : w.ownsRow B T n v k xs) (hb : Below w.heap.size w w') : w'.ownsRow B T n v k xs := by
  refine ⟨h.1, ?_⟩
  rcases h.2 with hn | ⟨g, cap, cur, rfl, hB, hg, rest⟩
  · exact .inl hn
  · exact .inr ⟨g, cap, cur, rfl, hB, by rw [hb.block g (Array.getElem?_eq_some_iff.1 hg).1]; exact hg, rest⟩
theorem bset_far {w : World} {b b' o o' : Nat} {u x : Value} (h : ¬ b = b') (hc : w.cell? ⟨b', o', none⟩ = some x) : (w.setCell ⟨b, o, none⟩ u).cell? ⟨b', o', none⟩ = some x := by
  rw [World.cell?_of_block (w := w) (a := ⟨b', o', none⟩) (heap_setCell_other w ⟨b, o, none⟩ b' u (fun e => h e.symm))]; exact hc
theorem bset_off {w : World} {b o o' : Nat} {u x : Value} (h : ¬ o = o') (hc : w.cell? ⟨b, o', none⟩ = some x) : (w.setCell ⟨b, o, none⟩ u).cell? ⟨b, o', none⟩ = some x := by
  rw [World.cell?_setCell_other w ⟨b, o, none⟩ ⟨b, o', none⟩ u (fun e => by simp only [Addr.mk.injEq, true_and, and_true] at e; exact h e)]; exact hc

/-- The books under way: a block of three cells, and the rows that they tell. -/
structure BkInv (B8 : Nat) (days : Int) (wb w : World) (v0 v1 : Value) (so : List Q5) (se : List Q4) : Prop where
  c0 : w.cell? ⟨B8, 0, none⟩ = some v0
  c1 : w.cell? ⟨B8, 1, none⟩ = some v1
  c2 : w.cell? ⟨B8, 2, none⟩ = some (.int .i64 days)
  fz : ∀ j, w.frozen? ⟨B8, j, none⟩ = false
  o0 : OwnSo 94 (B8 + 1) w v0 so
  o1 : OwnSe 96 (B8 + 1) w v1 se
  ap : v0.ownBlock = none ∨ v0.ownBlock ≠ v1.ownBlock
  be : Below B8 wb w
  lt : B8 < w.heap.size
theorem BkInv.below {B8 : Nat} {days : Int} {wb w w' : World} {v0 v1 : Value} {so : List Q5} {se : List Q4} (h : BkInv B8 days wb w v0 v1 so se) (hb : Below w.heap.size w w') : BkInv B8 days wb w' v0 v1 so se where
  c0 := (hb.cell (p := ⟨B8, 0, none⟩) h.lt).trans h.c0
  c1 := (hb.cell (p := ⟨B8, 1, none⟩) h.lt).trans h.c1
  c2 := (hb.cell (p := ⟨B8, 2, none⟩) h.lt).trans h.c2
  fz := fun j => by rw [World.frozen?_of_block (w := w) (a := ⟨B8, j, none⟩) (hb.block B8 h.lt)]; exact h.fz j
  o0 := h.o0.below hb
  o1 := h.o1.below hb
  ap := h.ap
  be := h.be.trans (hb.mono (Nat.le_of_lt h.lt))
  lt := Nat.lt_of_lt_of_le h.lt hb.size
theorem BkInv.alloc {B8 : Nat} {days : Int} {wb w : World} {v0 v1 : Value} {so : List Q5} {se : List Q4} (h : BkInv B8 days wb w v0 v1 so se) (o : Obj) : BkInv B8 days wb (w.alloc o) v0 v1 so se :=
  h.below ((Below.refl _ _).alloc (Nat.le_refl _) _)
theorem BkInv.drew {B8 : Nat} {days : Int} {wb w : World} {v0 v1 : Value} {so : List Q5} {se : List Q4} (h : BkInv B8 days wb w v0 v1 so se) : BkInv B8 days wb w.drew v0 v1 so se :=
  h.below ((Below.refl _ _).drew)
theorem BkInv.start {days : Int} {wb : World} : BkInv wb.heap.size days wb (wb.alloc (.cells #[.slice none 0 0, .slice none 0 0, .int .i64 days] 84)) (.slice none 0 0) (.slice none 0 0) [] [] where
  c0 := by simp
  c1 := by simp
  c2 := by simp
  fz := fun j => by simp
  o0 := World.ownsRow_nil _ _ _ _
  o1 := World.ownsRow_nil _ _ _ _
  ap := .inl rfl
  be := (Below.refl _ _).alloc (Nat.le_refl _) _
  lt := by simp
theorem BkInv.step0 {B8 gg n cap : Nat} {days : Int} {wb W wz : World} {v0 v1 : Value} {so : List Q5} {se : List Q4} {s : Q5} (H : BkInv B8 days wb W v0 v1 so se)
    (hown : wz.ownsRow (B8 + 1) 94 5 (.slice (some ⟨gg, 0, none⟩) n cap) n (flatSo so ++ flatSo [s])) (hn : n = so.length + 1) (hgrow : W.grownBy wz v0.ownBlock) (hat : v0.ownBlock = some gg ∨ gg = W.heap.size) :
    BkInv B8 days wb (wz.setCell ⟨B8, 0, none⟩ (.slice (some ⟨gg, 0, none⟩) n cap)) (.slice (some ⟨gg, 0, none⟩) n cap) v1 (so ++ [s]) se := by
  have hne : some B8 ≠ v0.ownBlock := fun e => by have := (H.o0.block B8 e.symm).1; omega
  have hlt := H.lt
  have d0 : wz.cell? ⟨B8, 0, none⟩ = some v0 := (hgrow.cell_far _ hlt hne).trans H.c0
  have d1 : wz.cell? ⟨B8, 1, none⟩ = some v1 := (hgrow.cell_far _ hlt hne).trans H.c1
  have d2 : wz.cell? ⟨B8, 2, none⟩ = some (.int .i64 days) := (hgrow.cell_far _ hlt hne).trans H.c2
  refine ⟨World.cell?_setCell_same _ _ _ d0, bset_off (by decide) d1, bset_off (by decide) d2, fun j => ?_, ?_, ?_, ?_, ?_, ?_⟩
  · rw [World.frozen?_setCell, hgrow.frozen_far ⟨B8, j, none⟩ hlt hne]; exact H.fz j
  · unfold OwnSo
    rw [flatSo_append, List.length_append]
    subst hn
    exact own_set hown _ (by simp)
  · refine own_set (H.o1.kept hgrow ?_) _ (by simp)
    rcases H.ap with e | e
    · rw [e]
      cases v1.ownBlock with
      | none => exact .inl rfl
      | some k => exact .inr (by simp)
    · exact .inr (Ne.symm e)
  · refine .inr fun e => ?_
    have e : some gg = v1.ownBlock := e
    rcases hat with h | h
    · rcases H.ap with q | q
      · rw [q] at h; cases h
      · exact q (h.trans e)
    · have := (H.o1.block gg e.symm).2; omega
  · refine Below.setCell (H.be.grown hgrow (Nat.le_of_lt hlt) (fun k e => ?_)) (Nat.le_refl _) _
    have := (H.o0.block k e).1; omega
  · rw [World.size_setCell]; exact Nat.lt_of_lt_of_le hlt hgrow.size
theorem BkInv.step1 {B8 gg n cap : Nat} {days : Int} {wb W wz : World} {v0 v1 : Value} {so : List Q5} {se : List Q4} {s : Q4} (H : BkInv B8 days wb W v0 v1 so se)
    (hown : wz.ownsRow (B8 + 1) 96 4 (.slice (some ⟨gg, 0, none⟩) n cap) n (flatSe se ++ flatSe [s])) (hn : n = se.length + 1) (hgrow : W.grownBy wz v1.ownBlock) (hat : v1.ownBlock = some gg ∨ gg = W.heap.size) :
    BkInv B8 days wb (wz.setCell ⟨B8, 1, none⟩ (.slice (some ⟨gg, 0, none⟩) n cap)) v0 (.slice (some ⟨gg, 0, none⟩) n cap) so (se ++ [s]) := by
  have hne : some B8 ≠ v1.ownBlock := fun e => by have := (H.o1.block B8 e.symm).1; omega
  have hlt := H.lt
  have d0 : wz.cell? ⟨B8, 0, none⟩ = some v0 := (hgrow.cell_far _ hlt hne).trans H.c0
  have d1 : wz.cell? ⟨B8, 1, none⟩ = some v1 := (hgrow.cell_far _ hlt hne).trans H.c1
  have d2 : wz.cell? ⟨B8, 2, none⟩ = some (.int .i64 days) := (hgrow.cell_far _ hlt hne).trans H.c2
  refine ⟨bset_off (by decide) d0, World.cell?_setCell_same _ _ _ d1, bset_off (by decide) d2, fun j => ?_, ?_, ?_, ?_, ?_, ?_⟩
  · rw [World.frozen?_setCell, hgrow.frozen_far ⟨B8, j, none⟩ hlt hne]; exact H.fz j
  · exact own_set (H.o0.kept hgrow H.ap) _ (by simp)
  · unfold OwnSe
    rw [flatSe_append, List.length_append]
    subst hn
    exact own_set hown _ (by simp)
  · cases hv : v0.ownBlock with
    | none => exact .inl rfl
    | some k =>
      refine .inr fun e => ?_
      have e : k = gg := by simpa [Value.ownBlock] using e
      subst e
      rcases hat with h | h
      · rcases H.ap with q | q
        · rw [hv] at q; cases q
        · exact q (hv.trans h.symm)
      · have := (H.o0.block k hv).2; omega
  · refine Below.setCell (H.be.grown hgrow (Nat.le_of_lt hlt) (fun k e => ?_)) (Nat.le_refl _) _
    have := (H.o1.block k e).1; omega
  · rw [World.size_setCell]; exact Nat.lt_of_lt_of_le hlt hgrow.size
end Go.Proofs.YtgimpmdiilmkoaaDoor
