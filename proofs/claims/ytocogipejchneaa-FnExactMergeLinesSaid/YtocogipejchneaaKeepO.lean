/-
  What a call keeps that writes into blocks of a range alone.
-/
import Derived.Test.YtocogipejchneaaBase
namespace Go.Proofs.Ytocogipejchneaa
open Go Go.RowKit
set_option linter.unusedVariables false

/-- Of the blocks that were there only those from lo on, below hi, may have turned. -/
structure KeepsOut (lo hi : Nat) (w w' : World) : Prop where
  os : w'.os = w.os
  tape : w'.tape = w.tape
  output : w'.output = w.output
  size : w.heap.size ≤ w'.heap.size
  block : ∀ k, k < w.heap.size → k < lo ∨ hi ≤ k → w'.heap[k]? = w.heap[k]?
theorem keepsOut_grown {lo hi : Nat} {w w' : World} {row : Option Nat} (h : w.grownBy w' row) (hr : ∀ k, row = some k → lo ≤ k ∧ k < hi) : KeepsOut lo hi w w' :=
  ⟨h.os, h.tape, h.output, h.size, fun k hk hd => h.block k hk (fun e => by have := hr k e.symm; omega)⟩
theorem KeepsOut.refl (lo hi : Nat) (w : World) : KeepsOut lo hi w w := ⟨rfl, rfl, rfl, Nat.le_refl _, fun _ _ _ => rfl⟩
theorem KeepsOut.trans {lo hi : Nat} {a b c : World} (h : KeepsOut lo hi a b) (k : KeepsOut lo hi b c) : KeepsOut lo hi a c :=
  ⟨k.os.trans h.os, k.tape.trans h.tape, k.output.trans h.output, Nat.le_trans h.size k.size, fun i hi hd => (k.block i (Nat.lt_of_lt_of_le hi h.size) hd).trans (h.block i hi hd)⟩
theorem KeepsOut.widen {lo hi lo' hi' : Nat} {w w' : World} (h : KeepsOut lo hi w w') (h1 : lo' ≤ lo) (h2 : hi ≤ hi') : KeepsOut lo' hi' w w' :=
  ⟨h.os, h.tape, h.output, h.size, fun k hk hd => h.block k hk (by omega)⟩
theorem kout_below {lo hi B : Nat} {a w w' : World} (h : Below B a w) (k : KeepsOut lo hi w w') (hl : B ≤ lo) (hs : B ≤ w.heap.size) : Below B a w' :=
  h.trans ⟨k.os, k.tape, k.output, k.size, fun i hi => k.block i (by omega) (by omega)⟩
theorem row_out {B n m lo hi : Nat} {T : TypeId} {w w' : World} {v : Value} {xs : List Value} (h : w.ownsRow B T n v m xs) (K : KeepsOut lo hi w w') (hd : ∀ k, v.ownBlock = some k → k < lo ∨ hi ≤ k) : w'.ownsRow B T n v m xs := by
  refine ⟨h.1, ?_⟩
  rcases h.2 with hn | ⟨g, cap, cur, rfl, hB, hg, rest⟩
  · exact .inl hn
  · exact .inr ⟨g, cap, cur, rfl, hB, by rw [K.block g (Array.getElem?_eq_some_iff.1 hg).1 (hd g rfl)]; exact hg, rest⟩
theorem OwnI.out {B lo hi : Nat} {w w' : World} {v : Value} {xs : List Int} (h : OwnI B w v xs) (K : KeepsOut lo hi w w') (hd : ∀ k, v.ownBlock = some k → k < lo ∨ hi ≤ k) : OwnI B w' v xs := row_out h K hd
end Go.Proofs.Ytocogipejchneaa
