/-
  The walk of FnExactTakeFrom: program and model answer the same at every stock and every counts; neither writes into its arguments, and the answer is new memory.
-/
import Derived.Test.YtgbckddojfajjabToI
import Derived.Test.YtgbckddojfajjabMarkP
import Derived.Test.YtgbckddojfajjabTakeS
namespace Go.Proofs.Ytgbckddojfajjab.fnExactTakeFrom
open Go Go.RowKit
set_option linter.unusedVariables false

theorem OwnP.kept {T : TypeId} {B : Nat} {w w' : World} {v : Value} {xs : List (Int × Int)} {row : Option Nat} (h : OwnP T B w v xs) (hg : w.grownBy w' row) (hne : v.ownBlock = none ∨ v.ownBlock ≠ row) : OwnP T B w' v xs := World.ownsRow.kept h hg hne
theorem OwnP.block {T : TypeId} {B : Nat} {w : World} {v : Value} {xs : List (Int × Int)} (h : OwnP T B w v xs) : ∀ k, v.ownBlock = some k → B ≤ k ∧ k < w.heap.size := World.ownsRow.lt h
theorem cellsP {w : World} {g n cap : Nat} {ps : List (Int × Int)} (h : ReadsP w (.slice (some ⟨g, 0, none⟩) n cap) ps) : CellsP w g ps := by
  obtain ⟨a, c, e, hb⟩ := h
  injection e with e1 e2 e3
  intro i hi
  obtain ⟨b, eb, hc⟩ := hb (by intro e; subst e; simp at hi)
  rw [eb] at e1
  injection e1 with e1
  injection e1 with e1
  subst e1
  exact hc i hi
theorem cellsI {w : World} {g n cap : Nat} {xs : List Int} (h : ReadsI w (.slice (some ⟨g, 0, none⟩) n cap) xs) : Cells w g xs := by
  obtain ⟨a, c, e, hb⟩ := h
  injection e with e1 e2 e3
  intro i hi
  obtain ⟨b, eb, hc⟩ := hb (by intro e; subst e; simp at hi)
  rw [eb] at e1
  injection e1 with e1
  injection e1 with e1
  subst e1
  exact hc i hi
theorem stake_at (b b2 len cap cap2 n : Nat) (ps : List (Int × Int)) (cs : List Int) (hl : ps.length = len) (hn : cs.length = n) (hp : len ≤ 1048576) (hcl : n ≤ 1048576) (hi16 : I16 ps) (w0 : World) (hc0 : CellsP w0 b ps) (hd0 : Cells w0 b2 cs) :
    Calls Try.prog 28 #[.slice (some ⟨b, 0, none⟩) len cap, .slice (some ⟨b2, 0, none⟩) n cap2] w0 (RetRowP 49 w0.heap.size w0 (takeRes ps cs) (codeT ps cs)) := by
  subst hl
  exact stake_row b b2 cap cap2 n ps cs hn hp hcl hi16 w0 hc0 hd0
theorem itake_at (b b2 len cap cap2 n : Nat) (ps : List (Int × Int)) (cs : List Int) (hl : ps.length = len) (hn : cs.length = n) (hp : len ≤ 1048576) (hcl : n ≤ 1048576) (hi16 : I16 ps) (w0 : World) (hc0 : CellsP w0 b ps) (hd0 : Cells w0 b2 cs) :
    Calls Try.prog 30 #[.slice (some ⟨b, 0, none⟩) len cap, .slice (some ⟨b2, 0, none⟩) n cap2] w0 (RetRowP 49 w0.heap.size w0 (takeRes ps cs) (codeT ps cs)) := by
  subst hl
  exact itake_row b b2 cap cap2 n ps cs hn hp hcl hi16 w0 hc0 hd0

set_option maxHeartbeats 8000000 in
set_option maxRecDepth 100000 in
theorem walk (a : Option Addr) (len cap : Nat) (ps : List (Int × Int)) (c : Option Addr) (n cap2 : Nat) (z : List Int) (w : World) (hr2 : IsRowP w a len cap ps ∧ I16 ps) (hs : IsRow .i64 w c n cap2 z) :
    Calls Try.prog 8 #[.slice a len cap, .slice c n cap2] w fun e w' => e = .returned (.bool true) ∧ Below w.heap.size w w' := by
  obtain ⟨hr, hi16⟩ := hr2
  by_cases hm2 : n ≤ 1048576
  · by_cases hm : len ≤ 1048576
    · have t0 : decide ((1048576 : Int) < (n : Int)) = false := by simp; omega
      have t1 : decide ((1048576 : Int) - (len : Int) < 0) = false := by simp; omega
      obtain ⟨xs, hxs⟩ : ∃ xs, z.take n = xs := ⟨_, rfl⟩
      have hxl : xs.length = n := by rw [← hxs]; exact hs.len_le
      have HX := Lib.hid hxs
      have HL := Lib.hid hr.len_eq
      have HL2 := Lib.hid hxl
      have HI := Lib.hid hi16
      have HPL : Hid (ps.length ≤ 1048576) := Lib.hid (by rw [hr.len_eq]; exact hm)
      have HXL : Hid (xs.length ≤ 1048576) := Lib.hid (by rw [hxl]; exact hm2)
      have hpb : ps.length ≤ 1048576 := HPL.out
      have hxb : xs.length ≤ 1048576 := HXL.out
      have htl : (takeRes ps xs).length ≤ 1048576 := Nat.le_trans (takeRes_len ps xs) hpb
      obtain ⟨rs, hrs⟩ : ∃ rs, takeRes ps xs = rs := ⟨_, rfl⟩
      obtain ⟨cd, hcd⟩ : ∃ cd, codeT ps xs = cd := ⟨_, rfl⟩
      rw [hrs] at htl
      have HS1 := fun b b2 ca cb w0 h1 h2 => hrs ▸ hcd ▸ stake_at b b2 len ca cb n ps xs HL.out HL2.out hm hm2 HI.out w0 h1 h2
      have HS2 := fun b b2 ca cb w0 h1 h2 => hrs ▸ hcd ▸ itake_at b b2 len ca cb n ps xs HL.out HL2.out hm hm2 HI.out w0 h1 h2
      have HS := Lib.hid HS1
      have HT := Lib.hid HS2
      clear hxs hxl hi16 hrs hcd HS1 HS2
      go_enter Try.func8, Try.ntmps8
      go_wp2_with fail
      refine (szStamp_any a len cap hm _).mono ?_
      rintro e w1 ⟨rfl, rfl⟩
      go_wp2_with fail
      refine (toStampS_any a len cap ps _ hr hm).mono ?_
      rintro e w1 ⟨rfl, o1, b1⟩
      go_wp2_with fail
      refine (toI_as c n cap2 z xs HX _ (hs.below b1) hm2).mono ?_
      rintro e w2 ⟨rfl, o2, b2⟩
      have c2 := blink b1 b2
      go_wp2_with fail
      refine (HS.out _ _ _ _ _ (cellsP (o1.reads.below b2)) (cellsI o2.reads)).mono ?_
      rintro e w3 ⟨v0, rfl, s3, b3⟩
      have c3 := blink c2 b3
      have l3 := OwnP.block s3
      go_wp2_with fail
      refine (toStampS_any a len cap ps _ (hr.below c3) hm).mono ?_
      rintro e w4 ⟨rfl, o4, b4⟩
      have c4 := blink c3 b4
      have s4 := s3.below b4
      have h34 : w3.heap.size < w4.heap.size := (OwnP.block o4 _ rfl).2
      go_wp2_with fail
      refine (toI_as c n cap2 z xs HX _ (hs.below c4) hm2).mono ?_
      rintro e w5 ⟨rfl, q5, b5⟩
      have c5 := blink c4 b5
      have s5 := s4.below b5
      have o5 := o4.below b5
      have h45 : w4.heap.size < w5.heap.size := (OwnI.block q5 _ rfl).2
      have hs3 : w.heap.size ≤ w3.heap.size := c3.size
      have hs2 : w2.heap.size ≤ w3.heap.size := b3.size
      go_wp2_with fail
      refine (HT.out _ _ _ _ _ (cellsP o5.reads) (cellsI q5.reads)).mono ?_
      rintro e w6 ⟨g0, rfl, g6, b6⟩
      have c6 := blink c5 b6
      have s6 := s5.below b6
      have o6 := o5.below b6
      have q6 := q5.below b6
      have lg := OwnP.block g6
      go_wp2_with fail
      refine (eqStampS_any _ _ rs rs _ g6.reads s6.reads htl htl).mono ?_
      rintro e w7 ⟨rfl, b7⟩
      rw [eqPs_true rfl]
      have c7 := blink c6 b7
      have s7 := s6.below b7
      have g7 := g6.below b7
      have o7 := o6.below b7
      have q7 := q6.below b7
      go_wp2_with fail
      refine (toStampS_any a len cap ps _ (hr.below c7) hm).mono ?_
      rintro e w8 ⟨rfl, o8, b8⟩
      have c8 := blink c7 b8
      have s8 := s7.below b8
      have g8 := g7.below b8
      have o8' := o7.below b8
      have q8 := q7.below b8
      go_wp2_with fail
      refine (eqStampS_any _ _ ps ps _ o8'.reads o8.reads HPL.out HPL.out).mono ?_
      rintro e w9 ⟨rfl, b9⟩
      rw [eqPs_true rfl]
      have c9 := blink c8 b9
      have s9 := s8.below b9
      have g9 := g8.below b9
      have o9 := o8'.below b9
      have q9 := q8.below b9
      go_wp2_with fail
      refine (toI_as c n cap2 z xs HX _ (hs.below c9) hm2).mono ?_
      rintro e w10 ⟨rfl, r10, b10⟩
      have c10 := blink c9 b10
      have s10 := s9.below b10
      have g10 := g9.below b10
      have o10 := o9.below b10
      have q10 := q9.below b10
      go_wp2_with fail
      refine (eqI_any _ _ xs xs _ q10.reads r10.reads HXL.out HXL.out).mono ?_
      rintro e w11 ⟨rfl, b11⟩
      rw [eqB_true rfl]
      have c11 := blink c10 b11
      have s11 := s10.below b11
      have g11 := g10.below b11
      have o11 := o10.below b11
      have q11 := q10.below b11
      go_wp2_with fail
      refine (markP_any _ _ _ ps _ _ o11 (by omega) (by omega) HPL.out).mono ?_
      rintro e w12 ⟨rfl, o12, k12⟩
      have s12 := OwnP.kept s11 k12 (apart_low (B := w3.heap.size) (fun k hk => (l3 k hk).2) (fun k hk => by simp [Value.ownBlock] at hk; omega))
      have g12 := OwnP.kept g11 k12 (apart_high (B := w4.heap.size) (fun k hk => by have := (lg k hk).1; omega) (fun k hk => by simp [Value.ownBlock] at hk; omega))
      have q12 := q11.kept k12 (apart_high (B := w4.heap.size) (fun k hk => by simp [Value.ownBlock] at hk; omega) (fun k hk => by simp [Value.ownBlock] at hk; omega))
      have c12 : Below w.heap.size w w12 := c11.grown k12 c11.size (fun k hk => by simp [Value.ownBlock] at hk; omega)
      go_wp2_with fail
      refine (mark_any _ _ xs _ _ q12 (by omega) (by omega) HXL.out).mono ?_
      rintro e w13 ⟨rfl, q13, k13⟩
      have s13 := OwnP.kept s12 k13 (apart_low (B := w3.heap.size) (fun k hk => (l3 k hk).2) (fun k hk => by simp [Value.ownBlock] at hk; omega))
      have g13 := OwnP.kept g12 k13 (apart_high (B := w5.heap.size) (fun k hk => (lg k hk).1) (fun k hk => by simp [Value.ownBlock] at hk; omega))
      have c13 : Below w.heap.size w w13 := c12.grown k13 c12.size (fun k hk => by simp [Value.ownBlock] at hk; omega)
      go_wp2_with fail
      refine (eqStampS_any _ _ rs rs _ g13.reads s13.reads htl htl).mono ?_
      rintro e w14 ⟨rfl, b14⟩
      rw [eqPs_true rfl]
      have c14 := blink c13 b14
      have s14 := s13.below b14
      have g14 := g13.below b14
      go_wp2_with fail
      refine (markP_any _ _ _ rs _ _ g14 (by omega) (by omega) htl).mono ?_
      rintro e w15 ⟨rfl, g15, k15⟩
      have s15 := OwnP.kept s14 k15 (apart_low (B := w3.heap.size) (fun k hk => (l3 k hk).2) (fun k hk => by have := (lg k hk).1; omega))
      have c15 : Below w.heap.size w w15 := c14.grown k15 c14.size (fun k hk => by have := (lg k hk).1; omega)
      go_wp2_with fail
      refine (heldP_any _ _ _ _ g15.reads (by omega) (by omega) htl).mono ?_
      rintro e w16 ⟨rfl, b16⟩
      have c16 := blink c15 b16
      have s16 := s15.below b16
      have g16 := g15.below b16
      go_wp2_with fail
      refine (toStampS_any a len cap ps _ (hr.below c16) hm).mono ?_
      rintro e w17 ⟨rfl, o17, b17⟩
      have c17 := blink c16 b17
      have s17 := s16.below b17
      have g17 := g16.below b17
      go_wp2_with fail
      refine (toI_as c n cap2 z xs HX _ (hs.below c17) hm2).mono ?_
      rintro e w18 ⟨rfl, r18, b18⟩
      have c18 := blink c17 b18
      have s18 := s17.below b18
      have g18 := g17.below b18
      have o18 := o17.below b18
      go_wp2_with fail
      refine (HT.out _ _ _ _ _ (cellsP o18.reads) (cellsI r18.reads)).mono ?_
      rintro e w19 ⟨h0, rfl, h19, b19⟩
      have c19 := blink c18 b19
      have s19 := s18.below b19
      have g19 := g18.below b19
      go_wp2_with fail
      refine (eqStampS_any _ _ rs rs _ h19.reads s19.reads htl htl).mono ?_
      rintro e w20 ⟨rfl, b20⟩
      rw [eqPs_true rfl]
      have c20 := blink c19 b20
      have g20 := g19.below b20
      go_wp2_with fail
      refine (heldP_any _ _ _ _ g20.reads (by omega) (by omega) htl).mono ?_
      rintro e w21 ⟨rfl, b21⟩
      go_wp2_with fail
      go_ret
      exact ⟨rfl, blink c20 b21⟩
    · have t0 : decide ((1048576 : Int) < (n : Int)) = false := by simp; omega
      have hb : len ≤ 9223372036854775807 := by
        rcases hr with ⟨_, rfl, _, _⟩ | ⟨x, _, h1, h2, _⟩
        · omega
        · unfold maxLen at h2; omega
      have HB := Lib.hid hb
      clear hb
      go_enter Try.func8, Try.ntmps8
      go_wp2_with fail
      refine (szStamp_big a len cap hm HB.out _).mono ?_
      rintro e w1 ⟨rfl, rfl⟩
      go_wp2_with fail
      go_ret
      exact ⟨rfl, Below.refl _ _⟩
  · have t0 : decide ((1048576 : Int) < (n : Int)) = true := by simp; omega
    go_enter Try.func8, Try.ntmps8
    go_wp2_with fail
    go_ret
    exact ⟨rfl, Below.refl _ _⟩
end Go.Proofs.Ytgbckddojfajjab.fnExactTakeFrom
