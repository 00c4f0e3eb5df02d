/-
  The same law for an iterator that reads what was laid before it: what it reads is kept by the rounds.
-/
import Derived.Test.YtamnojhkfknnoaaUp
namespace Go.Proofs.Ytamnojhkfknnoaa
open Go Go.RowKit
set_option linter.unusedVariables false
section
variable {F : Fence} {n : Nat} {P : Program}

/-- An iterator, told by what it hands over; it reads what 'Kp' says, which the rounds keep. -/
def SeqUpK {α : Type} (F : Fence) (n : Nat) (P : Program) (g : Nat) (lb : Array Value) (encs : α → Array Value) (S : List α → Prop) (N : Nat) (Kp : World → Prop) (w : World) : Prop :=
  ∀ (l : Nat) (J : List α → World → Prop) (W : World), Below w.heap.size w W → UpFrom W.heap.size J → (∀ pre W1, J pre W1 → Kp W1) →
    (∀ pre x W1, J pre W1 → pre.length < N → YieldAt F (n - 1) P l (encs x) W1 fun e W' => e = .returned (.bool true) ∧ J (pre ++ [x]) W' ∧ KeepsUp W.heap.size W1 W') →
    J [] W →
    CallsIn F n P g (#[.func (.yield l) #[] #[]] ++ lb) W fun e W' => (∃ v, e = .returned v) ∧ ∃ xs, S xs ∧ J xs W'

theorem wpIn_range_upK {α : Type} {g : Operand} {ps : Array Tmp} {assign body : Code} {Q : Exit → Act → World → Prop} {a : Act} {w : World}
    (hro : F.round = none) (h1 : 1 ≤ n) {gf : Nat} {lb : Array Value} (hg : a.eval g = .func (.func gf) #[] lb) (hFg : F.fn gf) (eg : ∀ args w, (callFunc gf args).run P w = .ok (.enter gf args) w)
    {encs : α → Array Value} {S : List α → Prop} {N : Nat} {w0 : World} {Kp : World → Prop} (hseq : SeqUpK F (n - 1) P gf lb encs S N Kp w0) (hb0 : Below w0.heap.size w0 w) (hps : ∀ x, (encs x).size = ps.size)
    (I : List α → World → Prop) (hI : UpFrom w.heap.size I) (hKp : ∀ pre W, I pre W → Kp W) (h0 : I [] w) (a₁ : α → Nat → Act) (ob : α → Obj)
    (hassign : ∀ (l : Nat) (x : α) (W : World) (K : Act → World → Prop), K (a₁ x W.heap.size) (W.alloc (ob x)) →
      assign.wpIn (F.inRound l) (n - 1 - 1) P (Exit.then K (fun _ _ _ => False)) { tmps := (ps.zip (encs x)).foldl (fun t (p, v) => t.setIfInBounds p v) a.tmps, defers := [] } W)
    (hbody : ∀ (l : Nat) (pre : List α) (x : α) (b : Nat) (W : World), I pre W → pre.length < N → w.heap.size ≤ b → W.heap[b]? = some (ob x) → body.wpIn (F.inRound l) (n - 1 - 1) P (upPost w.heap.size I (pre ++ [x]) W) (a₁ x b) W)
    (hdone : ∀ (D : Nat) (xs : List α) (W : World), w.heap.size ≤ D → S xs → I xs W → W.heap[D]? = some (.deferred (some [])) → Q .normal { a with defers := { target := .collected D, args := #[] } :: a.defers } W) :
    (Code.rangeFunc g ps assign body).wpIn F n P Q a w := by
  refine wpIn_rangeFunc fun fn hfn => ?_
  rw [hro]
  obtain ⟨R, hR⟩ : ∃ R : LoopState → Loop, R = fun st => { state := st, pending := none, fn := fn, tmps := a.tmps, params := ps, assign := assign, body := body, defers := w.heap.size } := ⟨_, rfl⟩
  obtain ⟨V, hV⟩ : ∃ V, (w.alloc (.deferred (some []))).alloc (.loop (R .ready)) = V := ⟨_, rfl⟩
  have hz : V.heap.size = w.heap.size + 1 + 1 := by rw [← hV]; simp
  have hL : V.heap[w.heap.size + 1]? = some (.loop (R .ready)) := by
    have h := World.alloc_heap_new (w.alloc (.deferred (some []))) (.loop (R .ready))
    rw [World.size_alloc] at h
    rw [← hV]; exact h
  have hD : V.heap[w.heap.size]? = some (.deferred (some [])) := by
    rw [← hV, heap_alloc_old _ _ _ (by simp)]; exact World.alloc_heap_new w _
  have hIV : I [] V := by rw [← hV]; exact hI.alloc (hI.alloc h0 _) _
  have hbV : Below w0.heap.size w0 V := by
    have hA : Below w.heap.size w (w.alloc (.deferred (some []))) := (Below.refl _ _).alloc (Nat.le_refl _) _
    have hB : Below w.heap.size w V := by rw [← hV]; exact hA.alloc hA.size _
    exact hb0.trans (hB.mono hb0.size)
  refine ⟨w.heap.size + 1, [{ target := .collected w.heap.size, args := #[] }], V, { target := .fn (.func gf) lb, args := #[.func (.yield (w.heap.size + 1)) #[] #[]] }, V, gf,
    #[.func (.yield (w.heap.size + 1)) #[] #[]] ++ lb, V, ?_, ?_, ?_, ?_, fun _ => h1, ?_⟩
  · rw [← hV, hR]; exact run_enterLoop_outer _ _ _ _ _
  · simp only [resolve, hg]
    simp [go_sem]
  · intro f hf
    simp [Target.leads] at hf
    subst hf
    exact hFg
  · simp [invoke, go_sem, eg]
  · refine (hseq (w.heap.size + 1) (fun pre W => I pre W ∧ W.heap[w.heap.size + 1]? = some (.loop (R .ready)) ∧ W.heap[w.heap.size]? = some (.deferred (some []))) V hbV ?_ (fun pre W h => hKp pre W h.1) ?_ ⟨hIV, hL, hD⟩).mono ?_
    · intro s A B row hs hgr hr
      have far : ∀ k, k < w.heap.size + 1 + 1 → some k ≠ row := fun k hk e => by have := hr k e.symm; omega
      exact ⟨hI s A B row hs.1 hgr (fun r e => by have := hr r e; omega), (hgr.block _ (Array.getElem?_eq_some_iff.1 hs.2.1).1 (far _ (by omega))).trans hs.2.1, (hgr.block _ (Array.getElem?_eq_some_iff.1 hs.2.2).1 (far _ (by omega))).trans hs.2.2⟩
    · rintro pre x W0 ⟨hi0, hl0, hd0⟩ hlen
      have hlt0 : w.heap.size + 1 < W0.heap.size := (Array.getElem?_eq_some_iff.1 hl0).1
      have hy := run_yield (P := P) (args := encs x) hl0 (by rw [hR]; exact hps x)
      rw [hR] at hy
      obtain ⟨W, hWa⟩ : ∃ W, W0.alloc (ob x) = W := ⟨_, rfl⟩
      have hi : I pre W := by rw [← hWa]; exact hI.alloc hi0 _
      have hl : W.heap[w.heap.size + 1]? = some (.loop (R .ready)) := by rw [← hWa, heap_alloc_old _ _ _ hlt0]; exact hl0
      have hd : W.heap[w.heap.size]? = some (.deferred (some [])) := by rw [← hWa, heap_alloc_old _ _ _ (by omega)]; exact hd0
      have hbx : W.heap[W0.heap.size]? = some (ob x) := by rw [← hWa]; exact World.alloc_heap_new W0 (ob x)
      have kA : KeepsUp V.heap.size W0 W := by rw [← hWa]; exact KeepsUp.below ((Below.refl _ _).alloc (Nat.le_refl _) _)
      have hlt : w.heap.size + 1 < W.heap.size := (Array.getElem?_eq_some_iff.1 hl).1
      refine ⟨fn, _, assign, body, hy, roundIn_of_wpIn hfn (hassign _ x W0 _ ?_)⟩
      rw [hWa]
      refine ⟨_, run_beginRound hl (by rw [hR]), ?_⟩
      obtain ⟨U, hU⟩ : ∃ U, W.putObj (w.heap.size + 1) (.loop { R .ready with state := .busy }) = U := ⟨_, rfl⟩
      have kU : KeepsUp V.heap.size W U := by rw [← hU]; exact KeepsUp.putObj _ _ _ (by omega)
      have hlU : U.heap[w.heap.size + 1]? = some (.loop { R .ready with state := .busy }) := by rw [← hU]; exact World.putObj_heap_same hlt
      have hdU : U.heap[w.heap.size]? = some (.deferred (some [])) := by rw [← hU]; exact (World.putObj_heap_other (by omega)).trans hd
      have hbU : U.heap[W0.heap.size]? = some (ob x) := by rw [← hU]; exact (World.putObj_heap_other (by omega)).trans hbx
      have hiU : I pre U := by rw [← hU]; exact hI.putObj hi _ _ (by omega)
      rw [hU]
      refine wpIn_mono (hbody _ pre x W0.heap.size U hiU hlen (by omega) hbU) ?_
      intro e a3 Z hp
      cases e with
      | normal =>
        obtain ⟨hk, hi3⟩ := hp
        have hl3 := hk.same _ _ (by omega) hlU
        have hd3 := hk.same _ _ (Nat.le_refl _) hdU
        have hr3 := run_endRound (P := P) none hl3
        refine ⟨_, _, hr3, rfl, ⟨hI.putObj hi3 _ _ (by omega), ?_, ?_⟩, ?_⟩
        · rw [World.putObj_heap_same (Array.getElem?_eq_some_iff.1 hl3).1, hR]; rfl
        · exact (World.putObj_heap_other (by omega)).trans hd3
        · exact ((kA.trans kU).trans (hk.mono (by omega))).trans (KeepsUp.putObj _ _ _ (by omega))
      | _ => exact hp.elim
    · rintro e W2 ⟨⟨v, rfl⟩, xs, hS, hi, hl, hd⟩
      have h := run_endLoop (P := P) hl (by rw [hR]; simp)
      rw [hR] at h
      refine ⟨none, _, h, ?_⟩
      exact hdone w.heap.size xs _ (Nat.le_refl _) hS (hI.putObj hi (w.heap.size + 1) _ (by omega)) ((World.putObj_heap_other (by omega)).trans hd)
end
end Go.Proofs.Ytamnojhkfknnoaa
