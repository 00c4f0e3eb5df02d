/-
  The iterator of arrivals lane by lane.
-/
import Derived.Test.YtlempmahkeilpaaArL
namespace Go.Proofs.Ytlempmahkeilpaa
open Go Go.RowKit Go.Shelf
set_option linter.unusedVariables false
attribute [local go_sem] Oper.semAt_some

/-- Times that are told. -/
abbrev Tm : Type := {T : List Nat // TOk T}
/-- What the iterator reads. -/
def KpW (Bq Bh : Nat) (v : Value) (L : List Lan) (W : World) : Prop := W.cell? ⟨Bq, 0, none⟩ = some (.func (.func 56) #[] #[]) ∧ W.cell? ⟨Bh, 0, none⟩ = some v ∧ ReadsLa W v L
theorem grown_setRow (w : World) (g : Nat) (cs : Array Value) : w.grownBy (w.setRow g cs) (some g) :=
  ⟨rfl, rfl, rfl, by simp [World.setRow], fun k hk hne => by simp only [World.setRow]; rw [Array.getElem?_modify, if_neg (fun e => hne (by rw [e]))]⟩
theorem grown_belowI {w w' : World} (h : Below w.heap.size w w') (row : Option Nat) : w.grownBy w' row := ⟨h.os, h.tape, h.output, h.size, fun k hk _ => h.block k hk⟩
theorem BlkT.setRow_same {w : World} {B : Nat} {T U : List Nat} (h : BlkT w B T) : BlkT (w.setRow B (tw U)) B U := setRow_heapT w B (tw U) (tw T) _ (0, 0) h
theorem BlkT.setRow_other {w : World} {B C : Nat} {T : List Nat} {cs : Array Value} (h : BlkT w B T) (hne : B ≠ C) : BlkT (w.setRow C cs) B T :=
  ((grown_setRow w C cs).block B (BlkA.lt h) (by simpa using hne)).trans h
/-- All that come have come. -/
def SeqS (st : List Nat → List Nat) (A : List Nat) (xs : List Tm) : Prop := ∃ k, xs.map (·.1) = (List.range k).map (atK st A) ∧ orT (atK st A k) (seenK st A k) = seenK st A k

set_option maxRecDepth 100000 in
set_option maxHeartbeats 2000000 in
theorem walk1_in (n : Nat) (hn : 4 ≤ n) (l Bq Bh Bf : Nat) (v : Value) (L : List Lan) (T : List Nat) (hT : TOk T) (hL : OkHops L) (hlen : L.length ≤ 1048576) (J : List Tm → World → Prop) (W : World) (hJ : UpFrom W.heap.size J) (hKp : ∀ pre W1, J pre W1 → KpW Bq Bh v L W1)
    (hY : ∀ pre x W1, J pre W1 → pre.length < 8 * 2 ^ room → YieldAt Fence.wide (n - 1) Try.prog l #[tv x.1] W1 fun e W' => e = .returned (.bool true) ∧ J (pre ++ [x]) W' ∧ KeepsUp W.heap.size W1 W')
    (hBf : BlkT W Bf T) (h0 : J [] W) :
    CallsIn Fence.wide n Try.prog 98 #[.func (.yield l) #[] #[], .pointer (some ⟨Bq, 0, none⟩), .pointer (some ⟨Bh, 0, none⟩), .pointer (some ⟨Bf, 0, none⟩)] W fun e W' => (∃ v, e = .returned v) ∧ ∃ xs, SeqS (onw L) (onw L T) xs ∧ J xs W' := by
  have hn1 : 1 ≤ n := by omega
  have hro : Fence.wide.round = none := rfl
  have hFF : ∀ f, Fence.wide.fn f := fun _ => trivial
  have hst : ∀ U, TOk U → TOk (onw L U) := fun U h => onw_ok h
  obtain ⟨k1, k2, k3⟩ := hKp [] W h0
  have b1 : Below W.heap.size W (W.alloc (.cells (tw t0) 76)) := (Below.refl _ _).alloc (Nat.le_refl _) _
  have HBF := Lib.hid (hBf.alloc (.cells (tw t0) 76))
  have HV := Lib.hid (k3.below b1)
  have HBS : Hid (BlkT (W.alloc (.cells (tw t0) 76)) W.heap.size t0) := Lib.hid (BlkA.new rfl _ _)
  have HJ0 := Lib.hid (hJ.alloc h0 (.cells (tw t0) 76))
  have HB1 := Lib.hid b1
  have HJ := Lib.hid hJ
  have HY := Lib.hid hY
  have HKP := Lib.hid hKp
  have HT := Lib.hid hT
  have HLT := Lib.hid hT.len
  have HL := Lib.hid hL
  obtain ⟨W1, e1⟩ : ∃ V, W.alloc (.cells (tw t0) 76) = V := ⟨_, rfl⟩
  rw [e1] at HBF HV HBS HJ0 HB1
  have hs1 : W1.heap.size = W.heap.size + 1 := by rw [← e1]; simp
  rw [tw_zero] at e1
  have g1 : W1.cell? ⟨Bq, 0, none⟩ = some (.func (.func 56) #[] #[]) := (HB1.out.cell (p := ⟨Bq, 0, none⟩) (World.block_lt_of_cell? W _ k1)).trans k1
  have g2 : W1.cell? ⟨Bh, 0, none⟩ = some v := (HB1.out.cell (p := ⟨Bh, 0, none⟩) (World.block_lt_of_cell? W _ k2)).trans k2
  rw [← e1] at g1 g2
  have E1 := Lib.hid e1
  clear hJ hKp hY hBf h0 k1 k2 k3 b1 hT hL e1
  refine callsIn_of_wp Try.func98 rfl (hFF _) ?_ hro
  simp only [Try.ntmps98, List.size_toArray, List.length_cons, List.length_nil, Nat.reduceAdd, Nat.reduceSub, Array.replicate_succ, Array.replicate_zero, List.push_toArray, List.append_toArray, List.nil_append, List.cons_append]
  gi_wp2_with (refine wpListIn_load_row (o := ⟨some 9, _, _, _, _, _⟩) rfl 76 (.tmp 3) rfl Bf rfl 76 (tw T) (0, 0) _ (by rw [E1.out]; exact HBF.out) (show Try.prog.underlying 76 = some (.array 8 74) by kernel_rfl) rfl (tw_info HLT.out) ?_)
  rw [E1.out]
  refine ((callsIn_wide (n := n - 1)).2 (ionward_any v L T HT.out HL.out hlen W1 HV.out)).mono ?_
  rintro e W2 ⟨rfl, b2⟩
  have hst : ∀ U, TOk U → TOk (onw L U) := fun U h => onw_ok h
  have hA0 : TOk (onw L T) := onw_ok HT.out
  obtain ⟨A0, hA⟩ : ∃ A, onw L T = A := ⟨_, rfl⟩
  rw [hA] at hA0 ⊢
  have HAE := Lib.hid hA
  have HST := Lib.hid hst
  have HA0 := Lib.hid hA0
  obtain ⟨W3, e3⟩ : ∃ V, W2.alloc (.cells (tw t0) 76) = V := ⟨_, rfl⟩
  have hs2 : W1.heap.size ≤ W2.heap.size := b2.size
  have HN3 : Hid (BlkT W3 W2.heap.size t0) := Lib.hid (by rw [← e3]; exact BlkA.new rfl _ _)
  have HB3 : Hid (Below W1.heap.size W1 W3) := Lib.hid (by rw [← e3]; exact b2.alloc hs2 _)
  rw [tw_zero] at e3
  have E3 := Lib.hid e3
  clear hA hst hA0 e3 b2 g1 g2
  gi_wp2_with (refine wpListIn_store_row (o := ⟨none, _, _, _, _, _⟩) rfl 76 (.tmp 6) (.tmp 10) rfl W2.heap.size (tw A0) rfl rfl 76 (tw t0) (by rw [E3.out]; exact HN3.out) (tw_info HA0.out.len) (by rw [tw_size, tw_size, HA0.out.len, t0_ok.len]) (tw_ones _) ?_)
  rw [E3.out]
  obtain ⟨W4, e4⟩ : ∃ V, W3.setRow W2.heap.size (tw A0) = V := ⟨_, rfl⟩
  have HN4 : Hid (BlkT W4 W2.heap.size A0) := Lib.hid (by rw [← e4]; exact HN3.out.setRow_same)
  have HS4 : Hid (BlkT W4 W.heap.size t0) := Lib.hid (by rw [← e4]; exact BlkT.setRow_other (BlkA.below HBS.out HB3.out) (by omega))
  have HJ4 : Hid (J [] W4) := Lib.hid (by
    rw [← e4]
    exact HJ.out [] W3 _ _ (HJ.out [] W1 W3 none HJ0.out (grown_belowI HB3.out none) (fun r e => by cases e)) (grown_setRow W3 W2.heap.size (tw A0)) (fun r e => by cases e; omega))
  rw [e4]
  clear e4
  rw [show ∀ (a : Act), a.put none undef = a from fun _ => rfl]
  gi_loopw [6] (fun x wr => ∃ (k : Nat) (pre : List Tm) (Ba : Nat), x = .pointer (some ⟨Ba, 0, none⟩) ∧ pre.map (·.1) = (List.range k).map (atK (onw L) A0) ∧ W.heap.size < Ba ∧ BlkT wr Ba (atK (onw L) A0 k) ∧ BlkT wr W.heap.size (seenK (onw L) A0 k) ∧ J pre wr ∧ k ≤ sumT (seenK (onw L) A0 k)) (fun x wr => 8 * 2 ^ room - rankT' wr W.heap.size)
  case atStart => exact ⟨0, [], W2.heap.size, rfl, rfl, by omega, HN4.out, HS4.out, HJ4.out, Nat.zero_le _⟩
  case round =>
    obtain ⟨k, pre, Ba, rfl, hpre, hBa, hba, hbs, hJp, hk⟩ := hrel
    have hokA : TOk (atK (onw L) A0 k) := atK_ok HST.out HA0.out k
    have hokS : TOk (seenK (onw L) A0 k) := seenK_ok HST.out HA0.out k
    have hgrow : orT (atK (onw L) A0 k) (seenK (onw L) A0 k) ≠ seenK (onw L) A0 k → sumT (seenK (onw L) A0 k) < sumT (seenK (onw L) A0 (k + 1)) := fun h => seenK_grows HST.out HA0.out h
    have hrank := rankT'_of hokS hbs
    have hlt := sumT_lt hokS
    have hlt2 := sumT_lt (seenK_ok HST.out HA0.out (k + 1))
    have hpl : pre.length = k := by have h := congrArg List.length hpre; simpa using h
    have HSE : Hid (orT (atK (onw L) A0 k) (seenK (onw L) A0 k) = seenK (onw L) A0 k → SeqS (onw L) A0 pre) := Lib.hid (fun h => ⟨k, hpre, h⟩)
    have HMAP : Hid (∀ x : Tm, x.1 = atK (onw L) A0 k → (pre ++ [x]).map (·.1) = (List.range (k + 1)).map (atK (onw L) A0)) := Lib.hid (fun x hx => by rw [List.map_append, hpre, List.range_succ, List.map_append, List.map_singleton, List.map_singleton, hx])
    have hA1 : atK (onw L) A0 (k + 1) = onw L (atK (onw L) A0 k) := rfl
    have hS1 : seenK (onw L) A0 (k + 1) = orT (seenK (onw L) A0 k) (atK (onw L) A0 k) := rfl
    have hokS1 := seenK_ok HST.out HA0.out (k + 1)
    obtain ⟨A1, hA1'⟩ : ∃ X, atK (onw L) A0 (k + 1) = X := ⟨_, rfl⟩
    obtain ⟨S1, hS1'⟩ : ∃ X, seenK (onw L) A0 (k + 1) = X := ⟨_, rfl⟩
    rw [hA1'] at hA1
    rw [hS1'] at hS1 hgrow hlt2 hokS1
    obtain ⟨A, hA⟩ : ∃ A, atK (onw L) A0 k = A := ⟨_, rfl⟩
    obtain ⟨S, hS⟩ : ∃ S, seenK (onw L) A0 k = S := ⟨_, rfl⟩
    rw [hA] at hokA hgrow HSE HMAP hba hA1 hS1
    rw [hS] at hokS hgrow hbs HSE hrank hlt hk hS1
    have HOKA := Lib.hid hokA
    have HOKS := Lib.hid hokS
    have HBA := Lib.hid hba
    have HBSN := Lib.hid hbs
    have HJP := Lib.hid hJp
    have HGR := Lib.hid hgrow
    have HRK := Lib.hid hrank
    have HLTS := Lib.hid hlt
    have HLT2 := Lib.hid hlt2
    have HK := Lib.hid hk
    have HPL := Lib.hid hpl
    have HA1 := Lib.hid hA1
    have HS1 := Lib.hid hS1
    have HA1' := Lib.hid hA1'
    have HS1' := Lib.hid hS1'
    have HOKS1 := Lib.hid hokS1
    have hg := guard_times
    clear hpre hokA hokS hba hbs hJp hgrow hrank hlt hlt2 hk hpl hA1 hS1 hA1' hS1' hA hS hokS1
    by_cases hend : orT A S = S
    · have heq : ∀ Z, (Op.equalIn 10000 76 (tv (orT A S)) (tv S)).run Try.prog Z = .ok true Z := fun Z => by rw [times_eq _ _ (orT_ok HOKA.out HOKS.out) HOKS.out, decide_eq_true hend]
      have HSEQ := Lib.hid (HSE.out hend)
      clear hend
      gi_wp2_with fail
      refine wpIn_region_class (fun V => BlkT V Ba A ∧ BlkT V W.heap.size S ∧ Below wr.heap.size wr V) rfl (by kernel_rfl) (by kernel_rfl) ⟨BlkA.drew HBA.out, BlkA.drew HBSN.out, (Below.refl _ _).drew⟩ ?_
      refine quietIn_load_row (o := ⟨some 11, _, _, _, _, _⟩) rfl 76 (.tmp 6) rfl Ba rfl 76 (tw A) _ (fun V h => h.1) (show Try.prog.underlying 76 = some (.array 8 74) by kernel_rfl) rfl (tw_info HOKA.out.len) ?_
      refine quietIn_load_row (o := ⟨some 12, _, _, _, _, _⟩) rfl 76 (.tmp 5) rfl W.heap.size rfl 76 (tw S) _ (fun V h => h.2.1) (show Try.prog.underlying 76 = some (.array 8 74) by kernel_rfl) rfl (tw_info HOKS.out.len) ?_
      refine wpQuietIn_step (by quiet_asked_in) (fun K hK => ?_)
      go_simp
      refine ⟨tv (orT A S), fun V h1 h2 h3 => ((callsIn_wide (n := n - 1)).2 (itor_any A S HOKA.out HOKS.out V)).mono (fun e w' hh => ⟨hh.1, BlkA.below h1 hh.2, BlkA.below h2 hh.2, blink h3 hh.2⟩), hK _ ?_⟩
      clear hK K
      refine quietIn_load_row (o := ⟨some 14, _, _, _, _, _⟩) rfl 76 (.tmp 5) rfl W.heap.size rfl 76 (tw S) _ (fun V h => h.2.1) (show Try.prog.underlying 76 = some (.array 8 74) by kernel_rfl) rfl (tw_info HOKS.out.len) ?_
      refine wpQuietIn_step (by quiet_asked_in) (fun K hK => ?_)
      go_simp
      refine ⟨.bool false, fun V _ _ _ => rfl, hK _ ?_⟩
      clear hK K
      refine wpQuietIn_nil ?_
      rintro V ⟨h1, h2, h3⟩
      have HJV := Lib.hid (HJ.out pre wr V none HJP.out (grown_belowI h3 none) (fun r e => by cases e))
      clear h1 h2 h3
      gi_wp2_with fail
      go_end0
      exact ⟨⟨_, rfl⟩, pre, by rw [HAE.out]; exact HSEQ.out, HJV.out⟩
    · have heq : ∀ Z, (Op.equalIn 10000 76 (tv (orT A S)) (tv S)).run Try.prog Z = .ok false Z := fun Z => by rw [times_eq _ _ (orT_ok HOKA.out HOKS.out) HOKS.out, decide_eq_false hend]
      have HEND := Lib.hid hend
      clear hend
      gi_wp2_with fail
      refine wpIn_region_class (fun V => BlkT V Ba A ∧ BlkT V W.heap.size S ∧ Below wr.heap.size wr V) rfl (by kernel_rfl) (by kernel_rfl) ⟨BlkA.drew HBA.out, BlkA.drew HBSN.out, (Below.refl _ _).drew⟩ ?_
      refine quietIn_load_row (o := ⟨some 11, _, _, _, _, _⟩) rfl 76 (.tmp 6) rfl Ba rfl 76 (tw A) _ (fun V h => h.1) (show Try.prog.underlying 76 = some (.array 8 74) by kernel_rfl) rfl (tw_info HOKA.out.len) ?_
      refine quietIn_load_row (o := ⟨some 12, _, _, _, _, _⟩) rfl 76 (.tmp 5) rfl W.heap.size rfl 76 (tw S) _ (fun V h => h.2.1) (show Try.prog.underlying 76 = some (.array 8 74) by kernel_rfl) rfl (tw_info HOKS.out.len) ?_
      refine wpQuietIn_step (by quiet_asked_in) (fun K hK => ?_)
      go_simp
      refine ⟨tv (orT A S), fun V h1 h2 h3 => ((callsIn_wide (n := n - 1)).2 (itor_any A S HOKA.out HOKS.out V)).mono (fun e w' hh => ⟨hh.1, BlkA.below h1 hh.2, BlkA.below h2 hh.2, blink h3 hh.2⟩), hK _ ?_⟩
      clear hK K
      refine quietIn_load_row (o := ⟨some 14, _, _, _, _, _⟩) rfl 76 (.tmp 5) rfl W.heap.size rfl 76 (tw S) _ (fun V h => h.2.1) (show Try.prog.underlying 76 = some (.array 8 74) by kernel_rfl) rfl (tw_info HOKS.out.len) ?_
      refine wpQuietIn_step (by quiet_asked_in) (fun K hK => ?_)
      go_simp
      refine ⟨.bool true, fun V _ _ _ => rfl, hK _ ?_⟩
      clear hK K
      refine wpQuietIn_nil ?_
      rintro V ⟨h1, h2, h3⟩
      have HJV := Lib.hid (HJ.out pre wr V none HJP.out (grown_belowI h3 none) (fun r e => by cases e))
      have HA5 := Lib.hid h1
      have HS5 := Lib.hid h2
      obtain ⟨fn, tmps, assign, body, hyl, hR⟩ := HY.out pre ⟨A, HOKA.out⟩ V HJV.out (by rw [HPL.out]; have := HK.out; have := HLTS.out; omega)
      have hmap := HMAP.out ⟨A, HOKA.out⟩ rfl
      obtain ⟨ys, hys⟩ : ∃ ys : List Tm, pre ++ [⟨A, HOKA.out⟩] = ys := ⟨_, rfl⟩
      rw [hys] at hR hmap
      have HMAPY := Lib.hid hmap
      simp only at hyl
      clear h1 h2 h3 hmap hys
      gi_wp2_with (refine wpListIn_load_row (o := ⟨some 21, _, _, _, _, _⟩) rfl 76 (.tmp 6) rfl Ba rfl 76 (tw A) (0, 0) _ HA5.out (show Try.prog.underlying 76 = some (.array 8 74) by kernel_rfl) rfl (tw_info HOKA.out.len) ?_)
      refine hR.mono ?_
      rintro e W6 ⟨rfl, hJ6, hk6⟩
      have HA6 : Hid (BlkT W6 Ba A) := Lib.hid (hk6.same _ _ (by omega) HA5.out)
      have HS6 : Hid (BlkT W6 W.heap.size S) := Lib.hid (hk6.same _ _ (Nat.le_refl _) HS5.out)
      have HJ6 := Lib.hid hJ6
      clear hyl hR hJ6 hk6
      gi_wp2_with (first
        | (refine wpListIn_load_row (o := ⟨some 24, _, _, _, _, _⟩) rfl 76 (.tmp 5) rfl W.heap.size rfl 76 (tw S) (0, 0) _ HS6.out (show Try.prog.underlying 76 = some (.array 8 74) by kernel_rfl) rfl (tw_info HOKS.out.len) ?_)
        | (refine wpListIn_load_row (o := ⟨some 25, _, _, _, _, _⟩) rfl 76 (.tmp 6) rfl Ba rfl 76 (tw A) (0, 0) _ HA6.out (show Try.prog.underlying 76 = some (.array 8 74) by kernel_rfl) rfl (tw_info HOKA.out.len) ?_))
      refine ((callsIn_wide (n := n - 1)).2 (itor_any S A HOKS.out HOKA.out W6)).mono ?_
      rintro e W7 ⟨rfl, b7⟩
      rw [← HS1.out]
      have HS7 : Hid (BlkT W7 W.heap.size S) := Lib.hid (BlkA.below HS6.out b7)
      have a7 : BlkT W7 Ba A := BlkA.below HA6.out b7
      have j7 : J ys W7 := HJ.out ys W6 W7 none HJ6.out (grown_belowI b7 none) (fun r e => by cases e)
      obtain ⟨X1, x1⟩ : ∃ X, W7.setRow W.heap.size (tw S1) = X := ⟨_, rfl⟩
      have a8 : BlkT X1 Ba A := by rw [← x1]; exact a7.setRow_other (by omega)
      have s8 : BlkT X1 W.heap.size S1 := by rw [← x1]; exact HS7.out.setRow_same
      have j8 : J ys X1 := by rw [← x1]; exact HJ.out ys W7 _ _ j7 (grown_setRow _ _ _) (fun r e => by cases e; exact Nat.le_refl _)
      have hx1s : X1.heap.size = W7.heap.size := by rw [← x1]; simp [World.setRow]
      have hz8 : W.heap.size < W7.heap.size := by rw [← hx1s]; exact BlkA.lt s8
      obtain ⟨X2, x2⟩ : ∃ X, X1.alloc (.cells (tw t0) 76) = X := ⟨_, rfl⟩
      have n9 : BlkT X2 W7.heap.size t0 := by rw [← x2, ← hx1s]; exact BlkA.new rfl _ _
      have s9 : BlkT X2 W.heap.size S1 := by rw [← x2]; exact BlkA.alloc s8 _
      have j9 : J ys X2 := by rw [← x2]; exact HJ.out.alloc j8 _
      obtain ⟨X3, x3⟩ : ∃ X, X2.setRow W7.heap.size (tw A) = X := ⟨_, rfl⟩
      have n10 : BlkT X3 W7.heap.size A := by rw [← x3]; exact n9.setRow_same
      have s10 : BlkT X3 W.heap.size S1 := by rw [← x3]; exact s9.setRow_other (by omega)
      have j10 : J ys X3 := by rw [← x3]; exact HJ.out ys X2 _ _ j9 (grown_setRow _ _ _) (fun r e => by cases e; omega)
      obtain ⟨g1, g2, g3⟩ := HKP.out ys X3 j10
      rw [tw_zero] at x2
      have HX1 := Lib.hid x1
      have HX2 := Lib.hid x2
      have HX3 := Lib.hid x3
      have HA8 := Lib.hid a8
      have HN9 := Lib.hid n9
      have HN10 := Lib.hid n10
      have HS10 := Lib.hid s10
      have HJ10 := Lib.hid j10
      have HG3 := Lib.hid g3
      rw [← x3, ← x2, ← x1] at g1 g2
      clear x1 x2 x3 hx1s a7 j7 a8 s8 j8 n9 s9 j9 n10 s10 j10 g3 b7
      gi_wp2_with (first
        | (refine wpListIn_store_row (o := ⟨none, _, _, _, _, _⟩) rfl 76 (.tmp 5) (.tmp 26) rfl W.heap.size (tw S1) rfl rfl 76 (tw S) HS7.out (tw_info HOKS1.out.len) (by rw [tw_size, tw_size, HOKS1.out.len, HOKS.out.len]) (tw_ones _) ?_)
        | (refine wpListIn_load_row (o := ⟨some 27, _, _, _, _, _⟩) rfl 76 (.tmp 6) rfl Ba rfl 76 (tw A) (0, 0) _ (by rw [HX1.out]; exact HA8.out) (show Try.prog.underlying 76 = some (.array 8 74) by kernel_rfl) rfl (tw_info HOKA.out.len) ?_)
        | (refine wpListIn_store_row (o := ⟨none, _, _, _, _, _⟩) rfl 76 (.tmp 6) (.tmp 27) rfl _ (tw A) rfl rfl 76 (tw t0) (by rw [HX1.out, HX2.out]; exact HN9.out) (tw_info HOKA.out.len) (by rw [tw_size, tw_size, HOKA.out.len, t0_ok.len]) (tw_ones _) ?_)
        | (refine wpListIn_load_row (o := ⟨some 18, _, _, _, _, _⟩) rfl 76 (.tmp 6) rfl _ rfl 76 (tw A) (0, 0) _ (by rw [HX1.out, HX2.out, HX3.out]; exact HN10.out) (show Try.prog.underlying 76 = some (.array 8 74) by kernel_rfl) rfl (tw_info HOKA.out.len) ?_))
      rw [HX1.out, HX2.out, HX3.out]
      refine ((callsIn_wide (n := n - 1)).2 (ionward_any v L A HOKA.out HL.out hlen X3 HG3.out)).mono ?_
      rintro e W8 ⟨rfl, b8⟩
      rw [← HA1.out]
      have HOKA1 : Hid (TOk A1) := Lib.hid (by rw [HA1.out]; exact HST.out A HOKA.out)
      have HN11 : Hid (BlkT W8 W7.heap.size A) := Lib.hid (BlkA.below HN10.out b8)
      have HS11 : Hid (BlkT W8 W.heap.size S1) := Lib.hid (BlkA.below HS10.out b8)
      have HJ11 : Hid (J ys W8) := Lib.hid (HJ.out ys X3 W8 none HJ10.out (grown_belowI b8 none) (fun r e => by cases e))
      clear g1 g2 b8
      gi_wp2_with (refine wpListIn_store_row (o := ⟨none, _, _, _, _, _⟩) rfl 76 (.tmp 6) (.tmp 19) rfl W7.heap.size (tw A1) rfl rfl 76 (tw A) HN11.out (tw_info HOKA1.out.len) (by rw [tw_size, tw_size, HOKA1.out.len, HOKA.out.len]) (tw_ones _) ?_)
      try rw [show ∀ (a : Act), a.put none undef = a from fun _ => rfl]
      have s12 : BlkT (W8.setRow W7.heap.size (tw A1)) W.heap.size S1 := HS11.out.setRow_other (by omega)
      go_roundw
      case rel => exact ⟨k + 1, ys, W7.heap.size, rfl, HMAPY.out, hz8, by rw [HA1'.out]; exact HN11.out.setRow_same, by rw [HS1'.out]; exact s12, HJ.out ys W8 _ _ HJ11.out (grown_setRow _ _ _) (fun r e => by cases e; omega), by rw [HS1'.out]; have h1 := HGR.out HEND.out; have h2 := HK.out; omega⟩
      case measure =>
        rw [rankT'_of HOKS1.out s12, HRK.out]
        have h1 := HGR.out HEND.out
        have h2 := HLT2.out
        omega
end Go.Proofs.Ytlempmahkeilpaa
