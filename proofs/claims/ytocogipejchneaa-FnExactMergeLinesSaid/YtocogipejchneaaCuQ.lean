/-
  The program's DutyInAll and RoundingGap.
-/
import Derived.Test.YtocogipejchneaaCuM
namespace Go.Proofs.Ytocogipejchneaa
open Go Go.RowKit
set_option linter.unusedVariables false

set_option maxHeartbeats 400000 in
theorem ikinds_zero (a : Option Addr) (cap : Nat) (v : Value) (cs : List Quad) (L : Nat → Lit) (w : World) :
    Calls Try.prog 21 #[v, .slice a 0 cap] w fun e w' => ∃ D : DataW Unit, e = .returned (.map (some w.heap.size)) ∧ w'.ownsMap Try.prog 54 R3 w.heap.size 0 D ∧ KSums cs [] L 0 D ∧ Below w.heap.size w w' := by
  have HD : Hid ((w.alloc (.map #[] 0)).ownsMap Try.prog 54 R3 w.heap.size 0 (.map []) ∧ Below w.heap.size w (w.alloc (.map #[] 0))) := Lib.hid ⟨World.ownsMap_made w _ _ _, (Below.refl _ _).alloc (Nat.le_refl _) _⟩
  have hmm := @run_makeMap Try.prog
  go_enter Try.func21, Try.ntmps21
  go_wp2_with fail
  clear hmm
  refine wp_loop_rounds 1 ?_
  rw [rounds_succ]
  go_wp2_with fail
  go_ret
  exact ⟨.map [], rfl, HD.out.1, KSums.zero cs [] L, HD.out.2⟩
theorem ikinds_any (v u : Value) (cs ls : List Quad) (L : Nat → Lit) (h : vldF cs ls = true) (hfl : FitsL ls) (hL : ∀ j, j < cs.length → keyOf Try.prog 54 (keyV (cs.getD j (0, 0, 0, 0)) j) = some (L j)) (hinj : ∀ i j, i < cs.length → j < cs.length → L i = L j → i = j) (w : World) (hv : ReadsC w v cs) (hu : ReadsL w u ls) :
    Calls Try.prog 21 #[v, u] w fun e w' => ∃ D : DataW Unit, e = .returned (.map (some w.heap.size)) ∧ w'.ownsMap Try.prog 54 R3 w.heap.size ls.length D ∧ KSums cs ls L ls.length D ∧ Below w.heap.size w w' := by
  obtain ⟨a, cap, rfl, hc⟩ := hu
  by_cases h0 : ls = []
  · subst h0
    exact ikinds_zero a cap v cs L w
  · obtain ⟨b, rfl, hcl⟩ := hc h0
    exact ikinds_row b ls.length cap v cs ls L rfl h hfl hL hinj w hv hcl

theorem sumP_in {p : Nat → Bool} {f : Nat → Int} {B : Int} {n : Nat} (hB : 0 ≤ B) (h : ∀ j, j < n → 0 ≤ f j ∧ f j ≤ B) : 0 ≤ sumP p f n ∧ sumP p f n ≤ B * n := by
  induction n with
  | zero => simp [sumP]
  | succ n ih =>
    have h1 := ih (fun j hj => h j (by omega))
    have h2 := h n (by omega)
    rw [sumP, show B * ((n + 1 : Nat) : Int) = B * n + B from by rw [Int.natCast_add, Int.mul_add]; simp]
    split <;> omega
/-- What a class is charged for all its lines. -/
def chg (cs ls : List Quad) (how : Int) (j : Nat) : Int := chargeR (cs.getD j (0, 0, 0, 0)) (q2 ls j ls.length) (q3 ls j ls.length) how
/-- The classes that are done: present, and no longer left. -/
def dn (ls : List Quad) (L : Nat → Lit) (left : Lit → Bool) (j : Nat) : Bool := decide (0 < q0 ls j ls.length) && !left (L j)
theorem dn_start {cs ls : List Quad} {L : Nat → Lit} {D : DataW Unit} {how : Int} (h : KSums cs ls L ls.length D) : sumP (dn ls L (Maps.has D)) (chg cs ls how) cs.length = 0 :=
  sumP_none (fun j hj => by unfold dn; rw [h.has_ j hj]; simp)
theorem dn_end {cs ls : List Quad} {L : Nat → Lit} {left : Lit → Bool} {how : Int} (h : ∀ kl, left kl = false) : sumP (dn ls L left) (chg cs ls how) cs.length = allTo cs ls how cs.length :=
  sumP_all cs.length (fun j hj => by unfold dn; rw [h]; simp)
theorem dn_step {cs ls : List Quad} {L : Nat → Lit} {left : Lit → Bool} {how : Int} {i : Nat} (hi : i < cs.length) (hp : 0 < q0 ls i ls.length) (hl : left (L i) = true) (hk : WideAt.IsKeyLit (L i)) (hinj : ∀ i j, i < cs.length → j < cs.length → L i = L j → i = j) :
    sumP (dn ls L (fun z => left z && !z.sameKey (L i))) (chg cs ls how) cs.length = sumP (dn ls L left) (chg cs ls how) cs.length + chg cs ls how i := by
  refine sumP_more hi ?_ ?_ (fun j hj hne => ?_)
  · unfold dn; rw [hl]; simp
  · show (decide (0 < q0 ls i ls.length) && !(left (L i) && !(L i).sameKey (L i))) = true
    rw [hl, WideAt.sameKey_self hk]; simp [hp]
  · show (decide (0 < q0 ls j ls.length) && !(left (L j) && !(L j).sameKey (L i))) = (decide (0 < q0 ls j ls.length) && !left (L j))
    rw [Maps.sameKey_ne (fun e => hne (hinj _ _ hj hi e))]; simp

theorem ranges_below {w w' : World} {P : Program} {k : TypeId} {R : Value → Option (DataW Unit × List MemPlace)} {b r n m cnt : Nat} {D : DataW Unit} {left : Lit → Bool} (h : w.ranges P k R b r n D left cnt) (hb : Below m w w') (h1 : b < m) (h2 : r < m) : w'.ranges P k R b r n D left cnt := by
  obtain ⟨es, clock, since, seen, c0, g1, g2, g3, g4, g5, rest⟩ := h
  exact ⟨es, clock, since, seen, c0, by rw [hb.block b h1]; exact g1, g2, g3, g4, by rw [hb.block r h2]; exact g5, rest⟩

end Go.Proofs.Ytocogipejchneaa
