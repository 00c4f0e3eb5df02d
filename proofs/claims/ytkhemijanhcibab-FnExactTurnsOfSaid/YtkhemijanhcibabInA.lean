/-
  A range over a function whose iterator writes blocks that it laid ahead of its first round, and whose body may write what was laid before the range or since the first round: a law of our own.
-/
import Derived.RangeFuncBox
import Derived.RangeFuncLeaves
import Derived.RangeFuncNested
import Derived.RangeFuncWrites
import Derived.Shelf.Abstract
import Derived.OwnWalkIn
import Derived.TacticsInMore
import Derived.LoopNIn
import Derived.LoopIn
import Derived.Test.YtkhemijanhcibabUp
namespace Go.Proofs.Ytkhemijanhcibab
open Go Go.RowKit
set_option linter.unusedVariables false
section
variable {F : Fence} {n : Nat} {P : Program}

/-- Whatever lies from block B on and below C lies as it lay. -/
structure KeepsIn (B C : Nat) (W W' : World) : Prop where
  size : W.heap.size ≤ W'.heap.size
  same : ∀ (k : Nat) (o : Obj), B ≤ k → k < C → W.heap[k]? = some o → W'.heap[k]? = some o
theorem KeepsIn.refl (B C : Nat) (W : World) : KeepsIn B C W W := ⟨Nat.le_refl _, fun _ _ _ _ h => h⟩
theorem KeepsIn.trans {B C : Nat} {X Y Z : World} (h : KeepsIn B C X Y) (k : KeepsIn B C Y Z) : KeepsIn B C X Z := ⟨Nat.le_trans h.size k.size, fun i o hB hC hi => k.same i o hB hC (h.same i o hB hC hi)⟩
theorem KeepsIn.mono {A B C : Nat} {X Y : World} (h : KeepsIn A C X Y) (hAB : A ≤ B) : KeepsIn B C X Y := ⟨h.size, fun i o hB hC hi => h.same i o (Nat.le_trans hAB hB) hC hi⟩
theorem KeepsIn.grown {B C : Nat} {W W' : World} {row : Option Nat} (hg : W.grownBy W' row) (hr : ∀ r, row = some r → r < B ∨ C ≤ r) : KeepsIn B C W W' :=
  ⟨hg.size, fun k o hB hC hk => (hg.block k (Array.getElem?_eq_some_iff.1 hk).1 (fun e => by have := hr k e.symm; omega)).trans hk⟩
theorem KeepsIn.putObj {B C : Nat} (W : World) (l : Nat) (o : Obj) (hl : l < B ∨ C ≤ l) : KeepsIn B C W (W.putObj l o) := KeepsIn.grown (grownBy_putObj' W l o) (fun r e => by cases e; exact hl)
theorem KeepsIn.below {B C : Nat} {W W' : World} (h : Below W.heap.size W W') : KeepsIn B C W W' :=
  ⟨h.size, fun k o _ _ hk => (h.block k (Array.getElem?_eq_some_iff.1 hk).1).trans hk⟩
/-- What is said abides new blocks, and a turn of any one block from B on and below C. -/
def InFrom {β : Type} (B C : Nat) (J : β → World → Prop) : Prop := ∀ s W W' row, J s W → W.grownBy W' row → (∀ r, row = some r → B ≤ r ∧ r < C) → J s W'
theorem InFrom.alloc {β : Type} {B C : Nat} {I : β → World → Prop} (h : InFrom B C I) {s : β} {W : World} (hs : I s W) (o : Obj) : I s (W.alloc o) := h s W _ none hs (World.grownBy_alloc W o none) (fun r e => by cases e)
theorem InFrom.putObj {β : Type} {B C : Nat} {I : β → World → Prop} (h : InFrom B C I) {s : β} {W : World} (hs : I s W) (l : Nat) (o : Obj) (hl : B ≤ l ∧ l < C) : I s (W.putObj l o) := h s W _ (some l) hs (grownBy_putObj' W l o) (fun r e => by cases e; exact hl)

/-- An iterator, told by what it hands over; c is where the heap ends when its first round comes. -/
def SeqIn {α : Type} (F : Fence) (n : Nat) (P : Program) (g : Nat) (lb : Array Value) (encs : α → Array Value) (S : List α → Prop) (N : Nat) (w : World) : Prop :=
  ∀ (l : Nat) (J : Nat → List α → World → Prop) (W : World), Below w.heap.size w W → (∀ c, InFrom W.heap.size c (J c)) →
    (∀ c pre x W1, W.heap.size ≤ c → c ≤ W1.heap.size → J c pre W1 → pre.length < N → YieldAt F (n - 1) P l (encs x) W1 fun e W' => e = .returned (.bool true) ∧ J c (pre ++ [x]) W' ∧ KeepsIn W.heap.size c W1 W') →
    (∀ Wc, Below W.heap.size W Wc → J Wc.heap.size [] Wc) →
    CallsIn F n P g (#[.func (.yield l) #[] #[]] ++ lb) W fun e W' => (∃ v, e = .returned v) ∧ ∃ c xs, W.heap.size ≤ c ∧ S xs ∧ J c xs W'

/-- How a round ends: it goes on. -/
def inPost {α : Type} (B C : Nat) (I : List α → World → Prop) (xs : List α) (W : World) : Exit → Act → World → Prop
  | .normal, _, W' => KeepsIn B C W W' ∧ I xs W'
  | _, _, _ => False

theorem wpIn_range_inA {α : Type} {g : Operand} {ps : Array Tmp} {assign body : Code} {Q : Exit → Act → World → Prop} {a : Act} {w : World}
    (hro : F.round = none) (h1 : 1 ≤ n) {gf : Nat} {lb : Array Value} (hg : a.eval g = .func (.func gf) #[] lb) (hFg : F.fn gf) (eg : ∀ args w, (callFunc gf args).run P w = .ok (.enter gf args) w)
    {encs : α → Array Value} {S : List α → Prop} {N : Nat} {w0 : World} (hseq : SeqIn F (n - 1) P gf lb encs S N w0) (hb0 : Below w0.heap.size w0 w) (hps : ∀ x, (encs x).size = ps.size)
    (I : Nat → List α → World → Prop) (hI : ∀ c, InFrom w.heap.size c (I c)) (h0 : ∀ Wc, Below w.heap.size w Wc → I Wc.heap.size [] Wc) (a₁ : α → Nat → Act) (ob : α → Obj)
    (hassign : ∀ (l : Nat) (x : α) (W : World) (K : Act → World → Prop), K (a₁ x W.heap.size) (W.alloc (ob x)) →
      assign.wpIn (F.inRound l) (n - 1 - 1) P (Exit.then K (fun _ _ _ => False)) { tmps := (ps.zip (encs x)).foldl (fun t (p, v) => t.setIfInBounds p v) a.tmps, defers := [] } W)
    (hbody : ∀ (l c : Nat) (pre : List α) (x : α) (b : Nat) (W : World), w.heap.size ≤ c → I c pre W → pre.length < N → c ≤ b → W.heap[b]? = some (ob x) → body.wpIn (F.inRound l) (n - 1 - 1) P (inPost w.heap.size c (I c) (pre ++ [x]) W) (a₁ x b) W)
    (hdone : ∀ (D c : Nat) (xs : List α) (W : World), w.heap.size ≤ D → w.heap.size ≤ c → S xs → I c xs W → W.heap[D]? = some (.deferred (some [])) → Q .normal { a with defers := { target := .collected D, args := #[] } :: a.defers } W) :
    (Code.rangeFunc g ps assign body).wpIn F n P Q a w := by
  refine wpIn_rangeFunc fun fn hfn => ?_
  rw [hro]
  obtain ⟨R, hR⟩ : ∃ R : LoopState → Loop, R = fun st => { state := st, pending := none, fn := fn, tmps := a.tmps, params := ps, assign := assign, body := body, defers := w.heap.size } := ⟨_, rfl⟩
  obtain ⟨V, hV⟩ : ∃ V, (w.alloc (.deferred (some []))).alloc (.loop (R .ready)) = V := ⟨_, rfl⟩
  have hz : V.heap.size = w.heap.size + 1 + 1 := by rw [← hV]; simp
  have hL : V.heap[w.heap.size + 1]? = some (.loop (R .ready)) := by
    have h := World.alloc_heap_new (w.alloc (.deferred (some []))) (.loop (R .ready))
    rw [World.size_alloc] at h
    rw [← hV]; exact h
  have hD : V.heap[w.heap.size]? = some (.deferred (some [])) := by
    rw [← hV, heap_alloc_old _ _ _ (by simp)]; exact World.alloc_heap_new w _
  have hbV : Below w0.heap.size w0 V := by
    have hA : Below w.heap.size w (w.alloc (.deferred (some []))) := (Below.refl _ _).alloc (Nat.le_refl _) _
    have hB : Below w.heap.size w V := by rw [← hV]; exact hA.alloc hA.size _
    exact hb0.trans (hB.mono hb0.size)
  have hwV : Below w.heap.size w V := by
    rw [← hV]
    have hA : Below w.heap.size w (w.alloc (.deferred (some []))) := (Below.refl _ _).alloc (Nat.le_refl _) _
    exact hA.alloc hA.size _
  refine ⟨w.heap.size + 1, [{ target := .collected w.heap.size, args := #[] }], V, { target := .fn (.func gf) lb, args := #[.func (.yield (w.heap.size + 1)) #[] #[]] }, V, gf,
    #[.func (.yield (w.heap.size + 1)) #[] #[]] ++ lb, V, ?_, ?_, ?_, ?_, fun _ => h1, ?_⟩
  · rw [← hV, hR]; exact run_enterLoop_outer _ _ _ _ _
  · simp only [resolve, hg]
    simp [go_sem]
  · intro f hf
    simp [Target.leads] at hf
    subst hf
    exact hFg
  · simp [invoke, go_sem, eg]
  · refine (hseq (w.heap.size + 1) (fun c pre W => (V.heap.size ≤ c ∧ I c pre W) ∧ W.heap[w.heap.size + 1]? = some (.loop (R .ready)) ∧ W.heap[w.heap.size]? = some (.deferred (some []))) V hbV ?_ ?_ ?_).mono ?_
    · intro c s A B row hs hgr hr
      have far : ∀ k, k < w.heap.size + 1 + 1 → some k ≠ row := fun k hk e => by have := hr k e.symm; omega
      exact ⟨⟨hs.1.1, hI c s A B row hs.1.2 hgr (fun r e => by have := hr r e; omega)⟩, (hgr.block _ (Array.getElem?_eq_some_iff.1 hs.2.1).1 (far _ (by omega))).trans hs.2.1, (hgr.block _ (Array.getElem?_eq_some_iff.1 hs.2.2).1 (far _ (by omega))).trans hs.2.2⟩
    · rintro c pre x W0 _ hcW ⟨⟨hcV, hi0⟩, hl0, hd0⟩ hlen
      have hlt0 : w.heap.size + 1 < W0.heap.size := (Array.getElem?_eq_some_iff.1 hl0).1
      have hy := run_yield (P := P) (args := encs x) hl0 (by rw [hR]; exact hps x)
      rw [hR] at hy
      obtain ⟨W, hWa⟩ : ∃ W, W0.alloc (ob x) = W := ⟨_, rfl⟩
      have hi : I c pre W := by rw [← hWa]; exact (hI c).alloc hi0 _
      have hl : W.heap[w.heap.size + 1]? = some (.loop (R .ready)) := by rw [← hWa, heap_alloc_old _ _ _ hlt0]; exact hl0
      have hd : W.heap[w.heap.size]? = some (.deferred (some [])) := by rw [← hWa, heap_alloc_old _ _ _ (by omega)]; exact hd0
      have hbx : W.heap[W0.heap.size]? = some (ob x) := by rw [← hWa]; exact World.alloc_heap_new W0 (ob x)
      have kA : KeepsIn V.heap.size c W0 W := by rw [← hWa]; exact KeepsIn.below ((Below.refl _ _).alloc (Nat.le_refl _) _)
      have hlt : w.heap.size + 1 < W.heap.size := (Array.getElem?_eq_some_iff.1 hl).1
      refine ⟨fn, _, assign, body, hy, roundIn_of_wpIn hfn (hassign _ x W0 _ ?_)⟩
      rw [hWa]
      refine ⟨_, run_beginRound hl (by rw [hR]), ?_⟩
      obtain ⟨U, hU⟩ : ∃ U, W.putObj (w.heap.size + 1) (.loop { R .ready with state := .busy }) = U := ⟨_, rfl⟩
      have kU : KeepsIn V.heap.size c W U := by rw [← hU]; exact KeepsIn.putObj _ _ _ (.inl (by omega))
      have hlU : U.heap[w.heap.size + 1]? = some (.loop { R .ready with state := .busy }) := by rw [← hU]; exact World.putObj_heap_same hlt
      have hdU : U.heap[w.heap.size]? = some (.deferred (some [])) := by rw [← hU]; exact (World.putObj_heap_other (by omega)).trans hd
      have hbU : U.heap[W0.heap.size]? = some (ob x) := by rw [← hU]; exact (World.putObj_heap_other (by omega)).trans hbx
      have hiU : I c pre U := by rw [← hU]; exact (hI c).putObj hi _ _ (by omega)
      rw [hU]
      refine wpIn_mono (hbody _ c pre x W0.heap.size U (by omega) hiU hlen hcW hbU) ?_
      intro e a3 Z hp
      cases e with
      | normal =>
        obtain ⟨hk, hi3⟩ := hp
        have hl3 := hk.same _ _ (by omega) (by omega) hlU
        have hd3 := hk.same _ _ (Nat.le_refl _) (by omega) hdU
        have hr3 := run_endRound (P := P) none hl3
        refine ⟨_, _, hr3, rfl, ⟨⟨hcV, (hI c).putObj hi3 _ _ (by omega)⟩, ?_, ?_⟩, ?_⟩
        · rw [World.putObj_heap_same (Array.getElem?_eq_some_iff.1 hl3).1, hR]; rfl
        · exact (World.putObj_heap_other (by omega)).trans hd3
        · exact ((kA.trans kU).trans (hk.mono (by omega))).trans (KeepsIn.putObj _ _ _ (.inl (by omega)))
      | _ => exact hp.elim
    · intro Wc hbc
      have hlc := (hbc.block _ (by omega : w.heap.size + 1 < V.heap.size)).trans hL
      have hdc := (hbc.block _ (by omega : w.heap.size < V.heap.size)).trans hD
      exact ⟨⟨hbc.size, h0 Wc (hwV.trans (hbc.mono hwV.size))⟩, hlc, hdc⟩
    · rintro e W2 ⟨⟨v, rfl⟩, c, xs, _, hS, ⟨hcV, hi⟩, hl, hd⟩
      have h := run_endLoop (P := P) hl (by rw [hR]; simp)
      rw [hR] at h
      refine ⟨none, _, h, ?_⟩
      exact hdone w.heap.size c xs _ (Nat.le_refl _) (by omega) hS ((hI c).putObj hi (w.heap.size + 1) _ (by omega)) ((World.putObj_heap_other (by omega)).trans hd)
end
end Go.Proofs.Ytkhemijanhcibab
