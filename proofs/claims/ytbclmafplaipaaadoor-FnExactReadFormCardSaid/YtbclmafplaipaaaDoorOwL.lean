/-
  A range over a function whose iterator writes one box that lay ahead of the loop (strings.Lines), whose rounds are told by their numbers and may return.
-/
import Derived.Test.YtbclmafplaipaaaDoorOwF
namespace Go.Proofs.YtbclmafplaipaaaDoor
open Go Go.RowKit
set_option linter.unusedVariables false
section
variable {F : Fence} {n : Nat} {P : Program}

/-- What is said abides new blocks, draws, a turn of the box Bs, and a turn of a block that is no cells at B or beyond. -/
def BoxFree (Bs B : Nat) (J : Nat → World → Prop) : Prop := ∀ k W W' row, J k W → W.grownBy W' row → (∀ r, row = some r → r = Bs ∨ (B ≤ r ∧ ∃ o : Obj, W.heap[r]? = some o ∧ o.isCells = false)) → J k W'
theorem BoxFree.alloc {Bs B : Nat} {J : Nat → World → Prop} (h : BoxFree Bs B J) {k : Nat} {W : World} (hs : J k W) (o : Obj) : J k (W.alloc o) := h k W _ none hs (World.grownBy_alloc W o none) (fun r e => by cases e)
theorem BoxFree.putObj {Bs B : Nat} {J : Nat → World → Prop} (h : BoxFree Bs B J) {k : Nat} {W : World} {l : Nat} {o : Obj} (o' : Obj) (hs : J k W) (hB : B ≤ l) (hl : W.heap[l]? = some o) (ho : o.isCells = false) : J k (W.putObj l o') :=
  h k W _ (some l) hs (grownBy_putObj' W l o') (fun r e => by cases e; exact .inr ⟨hB, o, hl, ho⟩)
theorem BoxFree.and {Bs B : Nat} {I I' : Nat → World → Prop} (h : BoxFree Bs B I) (h' : BoxFree Bs B I') : BoxFree Bs B (fun s W => I s W ∧ I' s W) := fun s W W' row hs hg hr => ⟨h s W W' row hs.1 hg hr, h' s W W' row hs.2 hg hr⟩

/-- The box lies as it lay. -/
def KpBox (Bs : Nat) (W W' : World) : Prop := ∀ o : Obj, W.heap[Bs]? = some o → W'.heap[Bs]? = some o
theorem KpBox.trans {Bs : Nat} {A B C : World} (h : KpBox Bs A B) (k : KpBox Bs B C) : KpBox Bs A C := fun o e => k o (h o e)
theorem KpBox.grown {Bs : Nat} {W W' : World} {row : Option Nat} (hg : W.grownBy W' row) (hr : row ≠ some Bs) : KpBox Bs W W' := fun o e => (hg.block Bs (Array.getElem?_eq_some_iff.1 e).1 (fun e' => hr e'.symm)).trans e
theorem KpBox.below {Bs n : Nat} {W W' : World} (hb : Below n W W') (hn : Bs < n) : KpBox Bs W W' := fun o e => (hb.block Bs hn).trans e

/-- An iterator that hands over N things, each told by its number, and keeps what is left in the box Bs. -/
def SeqBox (F : Fence) (n : Nat) (P : Program) (g : Nat) (lb : Array Value) (encs : Nat → Array Value) (Bs N : Nat) (w : World) : Prop :=
  ∀ (l : Nat) (J Jx : Nat → World → Prop) (W : World), Below w.heap.size w W → BoxFree Bs W.heap.size J →
    (∀ k W1, J k W1 → k < N → YieldAt F (n - 1) P l (encs k) W1 fun e W' => (e = .returned (.bool true) ∧ J (k + 1) W' ∧ KpBox Bs W1 W') ∨ (e = .returned (.bool false) ∧ Jx (k + 1) W')) →
    J 0 W → CallsIn F n P g (#[.func (.yield l) #[] #[]] ++ lb) W fun e W' => (∃ v, e = .returned v) ∧ (J N W' ∨ ∃ k, k ≤ N ∧ Jx k W')

/-- How a round ends: it goes on, or it returns. -/
def boxPost (Bs B : Nat) (I Ix : Nat → World → Prop) (k : Nat) (W : World) : Exit → Act → World → Prop
  | .normal, _, W' => KeepsFrom B W W' ∧ KpBox Bs W W' ∧ I k W'
  | .ret, _, W' => KeepsFrom B W W' ∧ Ix k W'
  | _, _, _ => False

theorem wpIn_rangeFunc_box {g : Operand} {ps : Array Tmp} {assign body : Code} {Q : Exit → Act → World → Prop} {a : Act} {w : World}
    (hro : F.round = none) (h1 : 1 ≤ n) {gf : Nat} {lb : Array Value} (hg : a.eval g = .func (.func gf) #[] lb) (hFg : F.fn gf) (eg : ∀ args w, (callFunc gf args).run P w = .ok (.enter gf args) w)
    {encs : Nat → Array Value} {Bs N : Nat} {w0 : World} (hseq : SeqBox F (n - 1) P gf lb encs Bs N w0) (hBs : Bs < w.heap.size)
    (hb0 : Below w0.heap.size w0 w) (hps : ∀ x, (encs x).size = ps.size)
    (I Ix : Nat → World → Prop) (hI : BoxFree Bs w.heap.size I) (hIx : OwnFrom w.heap.size Ix) (h0 : I 0 w) (a₁ : Nat → Act)
    (hassign : ∀ (l : Nat) (x : Nat) (W : World) (K : Act → World → Prop), K (a₁ x) W →
      assign.wpIn (F.inRound l) (n - 1 - 1) P (Exit.then K (fun _ _ _ => False)) { tmps := (ps.zip (encs x)).foldl (fun t (p, v) => t.setIfInBounds p v) a.tmps, defers := [] } W)
    (hbody : ∀ (l : Nat) (x : Nat) (W : World), I x W → x < N → body.wpIn (F.inRound l) (n - 1 - 1) P (boxPost Bs w.heap.size I Ix (x + 1) W) (a₁ x) W)
    (hdone : ∀ (D : Nat) (W : World), w.heap.size ≤ D → I N W → W.heap[D]? = some (.deferred (some [])) → Q .normal { a with defers := { target := .collected D, args := #[] } :: a.defers } W)
    (hstop : ∀ (D : Nat) (k : Nat) (W : World), w.heap.size ≤ D → k ≤ N → Ix k W → W.heap[D]? = some (.deferred (some [])) → Code.ret.wpIn F n P Q { a with defers := { target := .collected D, args := #[] } :: a.defers } W) :
    (Code.rangeFunc g ps assign body).wpIn F n P Q a w := by
  refine wpIn_rangeFunc ?_
  intro fn hfn
  rw [hro]
  obtain ⟨R, hR⟩ : ∃ R : LoopState → Option Code → Loop, R = fun st pe => { state := st, pending := pe, fn := fn, tmps := a.tmps, params := ps, assign := assign, body := body, defers := w.heap.size } := ⟨_, rfl⟩
  obtain ⟨V, hV⟩ : ∃ V, (w.alloc (.deferred (some []))).alloc (.loop (R .ready none)) = V := ⟨_, rfl⟩
  have hz : V.heap.size = w.heap.size + 1 + 1 := by rw [← hV]; simp
  have hL : V.heap[w.heap.size + 1]? = some (.loop (R .ready none)) := by
    have h := World.alloc_heap_new (w.alloc (.deferred (some []))) (.loop (R .ready none))
    rw [World.size_alloc] at h
    rw [← hV]; exact h
  have hD : V.heap[w.heap.size]? = some (.deferred (some [])) := by
    rw [← hV, heap_alloc_old _ _ _ (by simp)]; exact World.alloc_heap_new w _
  have hIV : I 0 V := by rw [← hV]; exact hI.alloc (hI.alloc h0 _) _
  have hbV : Below w0.heap.size w0 V := by
    have hA : Below w.heap.size w (w.alloc (.deferred (some []))) := (Below.refl _ _).alloc (Nat.le_refl _) _
    have hB : Below w.heap.size w V := by rw [← hV]; exact hA.alloc hA.size _
    exact hb0.trans (hB.mono hb0.size)
  refine ⟨w.heap.size + 1, [{ target := .collected w.heap.size, args := #[] }], V, { target := .fn (.func gf) lb, args := #[.func (.yield (w.heap.size + 1)) #[] #[]] }, V, gf,
    #[.func (.yield (w.heap.size + 1)) #[] #[]] ++ lb, V, ?_, ?_, ?_, ?_, fun _ => h1, ?_⟩
  · rw [← hV, hR]; exact run_enterLoop_outer _ _ _ _ _
  · simp only [resolve, hg]
    simp [go_sem]
  · intro f hf
    simp [Target.leads] at hf
    subst hf
    exact hFg
  · simp [invoke, go_sem, eg]
  · refine (hseq (w.heap.size + 1) (fun k W => I k W ∧ W.heap[w.heap.size + 1]? = some (.loop (R .ready none)) ∧ W.heap[w.heap.size]? = some (.deferred (some [])))
      (fun k W => Ix k W ∧ W.heap[w.heap.size + 1]? = some (.loop (R .done (some .ret))) ∧ W.heap[w.heap.size]? = some (.deferred (some []))) V hbV ?_ ?_ ⟨hIV, hL, hD⟩).mono ?_
    · intro k A B row hs hgr hr
      have far : ∀ j, j < w.heap.size + 1 + 1 → w.heap.size ≤ j → some j ≠ row := fun j hj hj2 e => by
        rcases hr j e.symm with h | ⟨h, _⟩ <;> omega
      exact ⟨hI k A B row hs.1 hgr (fun r e => by
        rcases hr r e with h | ⟨h, o⟩
        · exact .inl h
        · exact .inr ⟨by omega, o⟩), (hgr.block _ (Array.getElem?_eq_some_iff.1 hs.2.1).1 (far _ (by omega) (by omega))).trans hs.2.1, (hgr.block _ (Array.getElem?_eq_some_iff.1 hs.2.2).1 (far _ (by omega) (by omega))).trans hs.2.2⟩
    · rintro k W ⟨hi, hl, hd⟩ hlen
      have hlt : w.heap.size + 1 < W.heap.size := (Array.getElem?_eq_some_iff.1 hl).1
      have hy := run_yield (P := P) (args := encs k) hl (by rw [hR]; exact hps k)
      rw [hR] at hy
      refine ⟨fn, _, assign, body, hy, roundIn_of_wpIn hfn (hassign _ k W _ ⟨_, run_beginRound hl (by rw [hR]), ?_⟩)⟩
      obtain ⟨U, hU⟩ : ∃ U, W.putObj (w.heap.size + 1) (.loop { R .ready none with state := .busy }) = U := ⟨_, rfl⟩
      have hlU : U.heap[w.heap.size + 1]? = some (.loop { R .ready none with state := .busy }) := by rw [← hU]; exact World.putObj_heap_same hlt
      have hdU : U.heap[w.heap.size]? = some (.deferred (some [])) := by rw [← hU]; exact (World.putObj_heap_other (by omega)).trans hd
      have hiU : I k U := by rw [← hU]; exact hI.putObj _ hi (by omega) hl rfl
      have kU : KpBox Bs W U := by rw [← hU]; exact KpBox.grown (grownBy_putObj' W _ _) (fun e => by cases e; omega)
      rw [hU]
      refine wpIn_mono (hbody _ k U hiU hlen) ?_
      intro e a3 Z hp
      cases e with
      | normal =>
        obtain ⟨hk, hkp, hi3⟩ := hp
        have hl3 := hk.same _ _ (by omega) hlU rfl
        have hd3 := hk.same _ _ (Nat.le_refl _) hdU rfl
        have hr3 := run_endRound (P := P) none hl3
        refine ⟨_, _, hr3, .inl ⟨rfl, ⟨hI.putObj _ hi3 (by omega) hl3 rfl, ?_, ?_⟩, ?_⟩⟩
        · rw [World.putObj_heap_same (Array.getElem?_eq_some_iff.1 hl3).1, hR]; rfl
        · exact (World.putObj_heap_other (by omega)).trans hd3
        · exact (kU.trans hkp).trans (KpBox.grown (grownBy_putObj' Z _ _) (fun e => by cases e; omega))
      | ret =>
        obtain ⟨hk, hi3⟩ := hp
        have hl3 := hk.same _ _ (by omega) hlU rfl
        have hd3 := hk.same _ _ (Nat.le_refl _) hdU rfl
        have hr3 := run_endRound (P := P) (some .ret) hl3
        refine ⟨_, _, hr3, .inr ⟨rfl, hIx.putObj _ hi3 (by omega) hl3 rfl, ?_, ?_⟩⟩
        · rw [World.putObj_heap_same (Array.getElem?_eq_some_iff.1 hl3).1, hR]; rfl
        · exact (World.putObj_heap_other (by omega)).trans hd3
      | _ => exact hp.elim
    · rintro e W2 ⟨⟨v, rfl⟩, (⟨hi, hl, hd⟩ | ⟨k, hk, hi, hl, hd⟩)⟩
      · have h := run_endLoop (P := P) hl (by rw [hR]; simp)
        rw [hR] at h
        refine ⟨none, _, h, ?_⟩
        exact hdone w.heap.size _ (Nat.le_refl _) (hI.putObj _ hi (by omega) hl rfl) ((World.putObj_heap_other (by omega)).trans hd)
      · have h := run_endLoop (P := P) hl (by rw [hR]; simp)
        rw [hR] at h
        refine ⟨some .ret, _, h, ?_⟩
        exact hstop w.heap.size k _ (Nat.le_refl _) hk (hIx.putObj _ hi (by omega) hl rfl) ((World.putObj_heap_other (by omega)).trans hd)
end
end Go.Proofs.YtbclmafplaipaaaDoor
