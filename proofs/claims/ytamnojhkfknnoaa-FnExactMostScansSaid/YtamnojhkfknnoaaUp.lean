/-
  A range over a function whose iterator writes cells of its own between the rounds, and whose body only goes on: one law of this seat's own.
-/
import Derived.RangeFuncBox
import Derived.RangeFuncLeaves
import Derived.RangeFuncNested
import Derived.RangeFuncWrites
import Derived.Shelf.Abstract
import Derived.OwnWalkIn
import Derived.TacticsInMore
import Derived.LoopNIn
import Derived.LoopIn
import Derived.Test.YtamnojhkfknnoaaBase
namespace Go.Proofs.Ytamnojhkfknnoaa
open Go Go.RowKit
set_option linter.unusedVariables false
section
variable {F : Fence} {n : Nat} {P : Program}

/-- Whatever lay at block B or beyond lies as it lay. -/
structure KeepsUp (B : Nat) (W W' : World) : Prop where
  size : W.heap.size ≤ W'.heap.size
  same : ∀ (k : Nat) (o : Obj), B ≤ k → W.heap[k]? = some o → W'.heap[k]? = some o
theorem KeepsUp.refl (B : Nat) (W : World) : KeepsUp B W W := ⟨Nat.le_refl _, fun _ _ _ h => h⟩
theorem KeepsUp.trans {B : Nat} {X Y Z : World} (h : KeepsUp B X Y) (k : KeepsUp B Y Z) : KeepsUp B X Z := ⟨Nat.le_trans h.size k.size, fun i o hB hi => k.same i o hB (h.same i o hB hi)⟩
theorem KeepsUp.mono {B C : Nat} {X Y : World} (h : KeepsUp B X Y) (hBC : B ≤ C) : KeepsUp C X Y := ⟨h.size, fun i o hB hi => h.same i o (Nat.le_trans hBC hB) hi⟩
theorem KeepsUp.grown {B : Nat} {W W' : World} {row : Option Nat} (hg : W.grownBy W' row) (hr : ∀ r, row = some r → r < B) : KeepsUp B W W' :=
  ⟨hg.size, fun k o hB hk => (hg.block k (Array.getElem?_eq_some_iff.1 hk).1 (fun e => by have := hr k e.symm; omega)).trans hk⟩
theorem KeepsUp.putObj {B : Nat} (W : World) (l : Nat) (o : Obj) (hl : l < B) : KeepsUp B W (W.putObj l o) := KeepsUp.grown (grownBy_putObj' W l o) (fun r e => by cases e; exact hl)
theorem KeepsUp.below {B : Nat} {W W' : World} (h : Below W.heap.size W W') : KeepsUp B W W' :=
  ⟨h.size, fun k o _ hk => (h.block k (Array.getElem?_eq_some_iff.1 hk).1).trans hk⟩
/-- What is said abides new blocks, and a turn of any one block at B or beyond. -/
def UpFrom {β : Type} (B : Nat) (J : β → World → Prop) : Prop := ∀ s W W' row, J s W → W.grownBy W' row → (∀ r, row = some r → B ≤ r) → J s W'
theorem UpFrom.and {β : Type} {B : Nat} {I I' : β → World → Prop} (h : UpFrom B I) (h' : UpFrom B I') : UpFrom B (fun s W => I s W ∧ I' s W) := fun s W W' row hs hg hr => ⟨h s W W' row hs.1 hg hr, h' s W W' row hs.2 hg hr⟩
theorem UpFrom.mono {β : Type} {B C : Nat} {I : β → World → Prop} (h : UpFrom B I) (hBC : B ≤ C) : UpFrom C I := fun s W W' row hs hg hr => h s W W' row hs hg (fun r e => Nat.le_trans hBC (hr r e))
theorem UpFrom.alloc {β : Type} {B : Nat} {I : β → World → Prop} (h : UpFrom B I) {s : β} {W : World} (hs : I s W) (o : Obj) : I s (W.alloc o) := h s W _ none hs (World.grownBy_alloc W o none) (fun r e => by cases e)
theorem UpFrom.putObj {β : Type} {B : Nat} {I : β → World → Prop} (h : UpFrom B I) {s : β} {W : World} (hs : I s W) (l : Nat) (o : Obj) (hl : B ≤ l) : I s (W.putObj l o) := h s W _ (some l) hs (grownBy_putObj' W l o) (fun r e => by cases e; exact hl)
theorem upFrom_below {β : Type} {n₀ B : Nat} {w₀ : World} (hn : n₀ ≤ w₀.heap.size) (hB : n₀ ≤ B) : UpFrom B (fun (_ : β) W => Below n₀ w₀ W) :=
  fun _ _ _ _ hs hg hr => hs.grown hg (Nat.le_trans hn hs.size) (fun k e => Nat.le_trans hB (hr k e))

/-- An iterator, told by what it hands over: 'S xs' says which lists may come; no more than N rounds. -/
def SeqUp {α : Type} (F : Fence) (n : Nat) (P : Program) (g : Nat) (lb : Array Value) (encs : α → Array Value) (S : List α → Prop) (N : Nat) (w : World) : Prop :=
  ∀ (l : Nat) (J : List α → World → Prop) (W : World), Below w.heap.size w W → UpFrom W.heap.size J →
    (∀ pre x W1, J pre W1 → pre.length < N → YieldAt F (n - 1) P l (encs x) W1 fun e W' => e = .returned (.bool true) ∧ J (pre ++ [x]) W' ∧ KeepsUp W.heap.size W1 W') →
    J [] W →
    CallsIn F n P g (#[.func (.yield l) #[] #[]] ++ lb) W fun e W' => (∃ v, e = .returned v) ∧ ∃ xs, S xs ∧ J xs W'

/-- How a round ends: it goes on. -/
def upPost {α : Type} (B : Nat) (I : List α → World → Prop) (xs : List α) (W : World) : Exit → Act → World → Prop
  | .normal, _, W' => KeepsUp B W W' ∧ I xs W'
  | _, _, _ => False

theorem wpIn_range_up {α : Type} {g : Operand} {ps : Array Tmp} {assign body : Code} {Q : Exit → Act → World → Prop} {a : Act} {w : World}
    (hro : F.round = none) (h1 : 1 ≤ n) {gf : Nat} {lb : Array Value} (hg : a.eval g = .func (.func gf) #[] lb) (hFg : F.fn gf) (eg : ∀ args w, (callFunc gf args).run P w = .ok (.enter gf args) w)
    {encs : α → Array Value} {S : List α → Prop} {N : Nat} {w0 : World} (hseq : SeqUp F (n - 1) P gf lb encs S N w0) (hb0 : Below w0.heap.size w0 w) (hps : ∀ x, (encs x).size = ps.size)
    (I : List α → World → Prop) (hI : UpFrom w.heap.size I) (h0 : I [] w) (a₁ : α → Act)
    (hassign : ∀ (l : Nat) (x : α) (W : World) (K : Act → World → Prop), K (a₁ x) W →
      assign.wpIn (F.inRound l) (n - 1 - 1) P (Exit.then K (fun _ _ _ => False)) { tmps := (ps.zip (encs x)).foldl (fun t (p, v) => t.setIfInBounds p v) a.tmps, defers := [] } W)
    (hbody : ∀ (l : Nat) (pre : List α) (x : α) (W : World), I pre W → pre.length < N → body.wpIn (F.inRound l) (n - 1 - 1) P (upPost w.heap.size I (pre ++ [x]) W) (a₁ x) W)
    (hdone : ∀ (D : Nat) (xs : List α) (W : World), w.heap.size ≤ D → S xs → I xs W → W.heap[D]? = some (.deferred (some [])) → Q .normal { a with defers := { target := .collected D, args := #[] } :: a.defers } W) :
    (Code.rangeFunc g ps assign body).wpIn F n P Q a w := by
  refine wpIn_rangeFunc fun fn hfn => ?_
  rw [hro]
  obtain ⟨R, hR⟩ : ∃ R : LoopState → Loop, R = fun st => { state := st, pending := none, fn := fn, tmps := a.tmps, params := ps, assign := assign, body := body, defers := w.heap.size } := ⟨_, rfl⟩
  obtain ⟨V, hV⟩ : ∃ V, (w.alloc (.deferred (some []))).alloc (.loop (R .ready)) = V := ⟨_, rfl⟩
  have hz : V.heap.size = w.heap.size + 1 + 1 := by rw [← hV]; simp
  have hL : V.heap[w.heap.size + 1]? = some (.loop (R .ready)) := by
    have h := World.alloc_heap_new (w.alloc (.deferred (some []))) (.loop (R .ready))
    rw [World.size_alloc] at h
    rw [← hV]; exact h
  have hD : V.heap[w.heap.size]? = some (.deferred (some [])) := by
    rw [← hV, heap_alloc_old _ _ _ (by simp)]; exact World.alloc_heap_new w _
  have hIV : I [] V := by rw [← hV]; exact hI.alloc (hI.alloc h0 _) _
  have hbV : Below w0.heap.size w0 V := by
    have hA : Below w.heap.size w (w.alloc (.deferred (some []))) := (Below.refl _ _).alloc (Nat.le_refl _) _
    have hB : Below w.heap.size w V := by rw [← hV]; exact hA.alloc hA.size _
    exact hb0.trans (hB.mono hb0.size)
  refine ⟨w.heap.size + 1, [{ target := .collected w.heap.size, args := #[] }], V, { target := .fn (.func gf) lb, args := #[.func (.yield (w.heap.size + 1)) #[] #[]] }, V, gf,
    #[.func (.yield (w.heap.size + 1)) #[] #[]] ++ lb, V, ?_, ?_, ?_, ?_, fun _ => h1, ?_⟩
  · rw [← hV, hR]; exact run_enterLoop_outer _ _ _ _ _
  · simp only [resolve, hg]
    simp [go_sem]
  · intro f hf
    simp [Target.leads] at hf
    subst hf
    exact hFg
  · simp [invoke, go_sem, eg]
  · refine (hseq (w.heap.size + 1) (fun pre W => I pre W ∧ W.heap[w.heap.size + 1]? = some (.loop (R .ready)) ∧ W.heap[w.heap.size]? = some (.deferred (some []))) V hbV ?_ ?_ ⟨hIV, hL, hD⟩).mono ?_
    · intro s A B row hs hgr hr
      have far : ∀ k, k < w.heap.size + 1 + 1 → some k ≠ row := fun k hk e => by have := hr k e.symm; omega
      exact ⟨hI s A B row hs.1 hgr (fun r e => by have := hr r e; omega), (hgr.block _ (Array.getElem?_eq_some_iff.1 hs.2.1).1 (far _ (by omega))).trans hs.2.1, (hgr.block _ (Array.getElem?_eq_some_iff.1 hs.2.2).1 (far _ (by omega))).trans hs.2.2⟩
    · rintro pre x W ⟨hi, hl, hd⟩ hlen
      have hlt : w.heap.size + 1 < W.heap.size := (Array.getElem?_eq_some_iff.1 hl).1
      have hy := run_yield (P := P) (args := encs x) hl (by rw [hR]; exact hps x)
      rw [hR] at hy
      refine ⟨fn, _, assign, body, hy, roundIn_of_wpIn hfn (hassign _ x W _ ⟨_, run_beginRound hl (by rw [hR]), ?_⟩)⟩
      obtain ⟨U, hU⟩ : ∃ U, W.putObj (w.heap.size + 1) (.loop { R .ready with state := .busy }) = U := ⟨_, rfl⟩
      have kU : KeepsUp V.heap.size W U := by rw [← hU]; exact KeepsUp.putObj _ _ _ (by omega)
      have hlU : U.heap[w.heap.size + 1]? = some (.loop { R .ready with state := .busy }) := by rw [← hU]; exact World.putObj_heap_same hlt
      have hdU : U.heap[w.heap.size]? = some (.deferred (some [])) := by rw [← hU]; exact (World.putObj_heap_other (by omega)).trans hd
      have hiU : I pre U := by rw [← hU]; exact hI.putObj hi _ _ (by omega)
      rw [hU]
      refine wpIn_mono (hbody _ pre x U hiU hlen) ?_
      intro e a3 Z hp
      cases e with
      | normal =>
        obtain ⟨hk, hi3⟩ := hp
        have hl3 := hk.same _ _ (by omega) hlU
        have hd3 := hk.same _ _ (Nat.le_refl _) hdU
        have hr3 := run_endRound (P := P) none hl3
        refine ⟨_, _, hr3, rfl, ⟨hI.putObj hi3 _ _ (by omega), ?_, ?_⟩, ?_⟩
        · rw [World.putObj_heap_same (Array.getElem?_eq_some_iff.1 hl3).1, hR]; rfl
        · exact (World.putObj_heap_other (by omega)).trans hd3
        · exact (kU.trans (hk.mono (by omega))).trans (KeepsUp.putObj _ _ _ (by omega))
      | _ => exact hp.elim
    · rintro e W2 ⟨⟨v, rfl⟩, xs, hS, hi, hl, hd⟩
      have h := run_endLoop (P := P) hl (by rw [hR]; simp)
      rw [hR] at h
      refine ⟨none, _, h, ?_⟩
      exact hdone w.heap.size xs _ (Nat.le_refl _) hS (hI.putObj hi (w.heap.size + 1) _ (by omega)) ((World.putObj_heap_other (by omega)).trans hd)
end
end Go.Proofs.Ytamnojhkfknnoaa
