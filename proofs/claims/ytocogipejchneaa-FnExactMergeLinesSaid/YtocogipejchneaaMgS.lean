/-
  Lines merged by classes: the model.
-/
import Derived.Test.YtocogipejchneaaMgP
import Derived.Test.YtocogipejchneaaCuB
import Derived.Test.YtocogipejchneaaTLine
namespace Go.Proofs.Ytocogipejchneaa
open Go Go.RowKit
set_option linter.unusedVariables false

def RetMg (B : Nat) (w : World) (ps : List Quad) (c : Int) (e : Ending) (w' : World) : Prop := ∃ v, e = .returned (.tuple #[v, .int .i64 c]) ∧ OwnL 44 B w' v ps ∧ Below w.heap.size w w'
theorem own_isG {w : World} {B n k : Nat} {T : TypeId} {v : Value} {xs : List Value} (h : w.ownsRow B T n v k xs) : ∃ a c, v = .slice a k c := by
  rcases h.2 with ⟨rfl, h0⟩ | ⟨g, cap, cur, rfl, _⟩
  · exact ⟨none, 0, by rw [h0]⟩
  · exact ⟨_, _, rfl⟩
theorem ownG_empty {w : World} {B : Nat} (hB : B ≤ w.heap.size) : OwnL 44 B (w.alloc (.cells #[] 44)) (.slice (some ⟨w.heap.size, 0, none⟩) 0 0) [] := by
  refine ⟨by simp [flatL, flatE], .inr ⟨w.heap.size, _, _, rfl, hB, heap_alloc_new w _, Nat.le_refl _, by unfold maxLen; omega, by simp, by simp [flatL, flatE]⟩⟩
theorem newG {w : World} {x0 x1 x2 x3 : Value} {T : TypeId} : ∀ j u, ([x0, x1, x2, x3] : List Value)[j]? = some u → (w.alloc (.cells #[x0, x1, x2, x3] T)).cell? (Addr.add ⟨w.heap.size, 0, none⟩ j) = some u := by
  intro j u hj
  have e := cell_of_row (w.alloc (.cells #[x0, x1, x2, x3] T)) w.heap.size j _ T (0, 0) (heap_alloc_new w _)
  rw [show Addr.add ⟨w.heap.size, 0, none⟩ j = ⟨w.heap.size, j, none⟩ by unfold Addr.add; split <;> simp_all, e]
  simpa using hj
theorem onesG {x0 x1 x2 x3 : Int} : ∀ u ∈ ([Value.int .i8 x0, .int .i16 x1, .int .i32 x2, .int .i32 x3] : List Value), u.oneCell' = true := by
  intro u hu
  simp at hu
  rcases hu with rfl | rfl | rfl | rfl <;> rfl
theorem w8G {n : Nat} (h : n ≤ 8) : IntKind.i8.wrap (n : Int) = (n : Int) := by simp only [IntKind.wrap, IntKind.bits, IntKind.signed]; simp; omega
theorem w16G {x : Int} (h0 : 0 ≤ x) (h : x ≤ 10000) : IntKind.i16.wrap x = x := by simp only [IntKind.wrap, IntKind.bits, IntKind.signed]; simp; omega
theorem w32G {x : Int} (h0 : 0 ≤ x) (h : x ≤ 10000000) : IntKind.i32.wrap x = x := by simp only [IntKind.wrap, IntKind.bits, IntKind.signed]; simp; omega

set_option maxHeartbeats 1600000 in
set_option maxRecDepth 100000 in
theorem smg_any (v u : Value) (cs ls : List Quad) (w : World) (hv : ReadsC w v cs) (hu : ReadsL w u ls) (hfc : FitsC cs) (hfl : FitsL ls) (hx : cs.length ≤ 1048576) (hy : ls.length ≤ 1048576) :
    Calls Try.prog 6 #[v, u] w (RetMg w.heap.size w (mgR cs ls) (mgC cs ls)) := by
  obtain ⟨o0, ho0, oz0, oz1, oz2⟩ := info_parts infoR_L
  have ho1 := ownG_empty (w := w) (B := w.heap.size) (Nat.le_refl _)
  have b1 : Below w.heap.size w (w.alloc (.cells #[] 44)) := (Below.refl _ _).alloc (Nat.le_refl _) _
  obtain ⟨W1, hW1⟩ : ∃ W, w.alloc (.cells #[] 44) = W := ⟨_, rfl⟩
  have HW1 := Lib.hid hW1
  rw [hW1] at ho1 b1
  have HO1 := Lib.hid ho1
  have HB1 := Lib.hid b1
  have HVL := Lib.hid (sokF_any v u cs ls W1 (hv.below b1) (hu.below b1) hfc hfl hx hy)
  have HU := Lib.hid hu
  obtain ⟨a, ccap, rfl, _⟩ := hv
  obtain ⟨nc, hnc⟩ : ∃ n, cs.length = n := ⟨_, rfl⟩
  have HNC := Lib.hid hnc
  rw [hnc] at HVL ⊢
  cases hvf : vldF cs ls with
  | false =>
    obtain ⟨e1, e2⟩ := mg_inv hvf
    rw [e1, e2]
    rw [hvf] at HVL
    clear hu hW1 ho1 b1 hvf e1 e2 hnc
    go_enter Try.func6, Try.ntmps6
    go_wp2_with fail
    rw [HW1.out]
    refine HVL.out.mono ?_
    rintro e w2 ⟨rfl, b2⟩
    have HB2 := Lib.hid (blink HB1.out b2)
    have HO2 := Lib.hid (HO1.out.below b2)
    clear b2 HVL
    go_wp2_with fail
    go_ret2
    exact ⟨_, rfl, HO2.out, HB2.out⟩
  | true =>
  rw [hvf] at HVL
  have hnc8 : nc ≤ 8 := by rw [← hnc]; exact (vldC_spec (vldF_spec hvf).1).1.2
  have HLIM0 : Hid (∀ j, j < nc → mgBad ls j → mgR cs ls = [] ∧ mgC cs ls = 3) := Lib.hid (fun j hj hb => mg_lim hvf (mg_bad hvf (by omega) hb))
  have HYES : Hid ((∀ j, j < nc → ¬ mgBad ls j) → mgR cs ls = mgT ls nc ∧ mgC cs ls = 0) := Lib.hid (fun hb => by
    have h := mg_yes hvf (mg_good hvf (fun j hj => hb j (by omega)))
    rw [hnc] at h
    exact h)
  have HSUM := Lib.hid (fun c W h => ssum_any u cs ls c hvf W h)
  have HQS := Lib.hid (fun c => qs_all hvf c)
  obtain ⟨rr, hrr⟩ : ∃ r, mgR cs ls = r := ⟨_, rfl⟩
  obtain ⟨rc, hrc⟩ : ∃ r, mgC cs ls = r := ⟨_, rfl⟩
  rw [hrr, hrc] at HLIM0 HYES ⊢
  clear hu hW1 ho1 b1 hvf hrr hrc hnc
  go_enter Try.func6, Try.ntmps6
  go_wp2_with fail
  rw [HW1.out]
  refine HVL.out.mono ?_
  rintro e w2 ⟨rfl, b2⟩
  have HB2 := Lib.hid (blink HB1.out b2)
  have HO2 := Lib.hid (HO1.out.below b2)
  clear b2 HVL
  go_wp2_with fail
  go_loopw [6, 7] (fun ov iv wr => ∃ k : Nat, k ≤ nc ∧ iv = .int .i64 k ∧ OwnL 44 w.heap.size wr ov (mgT ls k) ∧ (∀ j, j < k → ¬ mgBad ls j) ∧ Below w.heap.size w wr) (fun _ i _ => nc - (intOf i).toNat)
  case atStart => exact ⟨0, Nat.zero_le _, rfl, HO2.out, (fun j hj => absurd hj (by omega)), HB2.out⟩
  case round =>
    obtain ⟨k, hk, rfl, ho, hgood, hb⟩ := hrel
    have HO := Lib.hid ho
    have HG := Lib.hid hgood
    have HB := Lib.hid hb
    have hwr : w.heap.size ≤ wr.heap.size := hb.size
    obtain ⟨la, lc, hlv⟩ := own_isG ho
    have hml := mgT_len ls k
    obtain ⟨m, hm⟩ : ∃ m, (mgT ls k).length = m := ⟨_, rfl⟩
    rw [hm] at hlv hml
    have HM := Lib.hid hm
    subst hlv
    by_cases hlt : k < nc
    · have hkn : (k : Int) < (nc : Int) := by omega
      have HSM := Lib.hid (HSUM.out (k : Int) wr (HU.out.below hb))
      obtain ⟨⟨a0, b0⟩, ⟨a1, b1⟩, ⟨a2, b2⟩, a3, b3⟩ := HQS.out (k : Int)
      have HLIM : Hid ((q0 ls k ls.length ≠ 0 ∧ ¬ (q1 ls k ls.length ≤ 1000 ∧ q2 ls k ls.length ≤ 1000000 ∧ q3 ls k ls.length ≤ 1000000)) → rr = [] ∧ rc = 3) := Lib.hid (fun h => HLIM0.out k hlt h)
      have HGB : Hid (¬ (q0 ls k ls.length ≠ 0 ∧ ¬ (q1 ls k ls.length ≤ 1000 ∧ q2 ls k ls.length ≤ 1000000 ∧ q3 ls k ls.length ≤ 1000000)) → ∀ j, j < k + 1 → ¬ mgBad ls j) := Lib.hid (fun h j hj => by
        by_cases e : j = k
        · rw [e]; exact h
        · exact HG.out j (by omega))
      have HSK : Hid (q0 ls k ls.length = 0 → mgT ls (k + 1) = mgT ls k) := Lib.hid (fun h => mgT_skip h)
      have HAD : Hid (¬ q0 ls k ls.length = 0 → mgT ls (k + 1) = mgT ls k ++ [((k : Int), q1 ls k ls.length, q2 ls k ls.length, q3 ls k ls.length)]) := Lib.hid (fun h => mgT_add h)
      have HSM2 : Hid (Calls Try.prog 16 #[u, .int .i64 (k : Int)] wr fun e w' => e = .returned (.agg #[.int .i64 (q0 ls k ls.length), .int .i64 (q1 ls k ls.length), .int .i64 (q2 ls k ls.length), .int .i64 (q3 ls k ls.length)]) ∧ Below wr.heap.size wr w') := Lib.hid HSM.out
      obtain ⟨x0, hx0⟩ : ∃ x, q0 ls k ls.length = x := ⟨_, rfl⟩
      obtain ⟨x1, hx1⟩ : ∃ x, q1 ls k ls.length = x := ⟨_, rfl⟩
      obtain ⟨x2, hx2⟩ : ∃ x, q2 ls k ls.length = x := ⟨_, rfl⟩
      obtain ⟨x3, hx3⟩ : ∃ x, q3 ls k ls.length = x := ⟨_, rfl⟩
      rw [hx0] at HLIM HGB HSK HAD HSM2 a0 b0
      rw [hx1] at HLIM HGB HAD HSM2 a1 b1
      rw [hx2] at HLIM HGB HAD HSM2 a2 b2
      rw [hx3] at HLIM HGB HAD HSM2 a3 b3
      clear ho hgood hb hm hx0 hx1 hx2 hx3 HSM
      go_wp2_with fail
      refine HSM2.out.mono ?_
      rintro e w4 ⟨rfl, b4⟩
      have HBR := Lib.hid b4
      have HB4 := Lib.hid (HB.out.trans (b4.mono hwr))
      have hs4 : w.heap.size ≤ w4.heap.size := HB4.out.size
      clear b4 HSM2
      by_cases h0 : x0 = 0
      · have t0 : ((x0 : Int) == 0) = true := by rw [h0]; rfl
        have HGN := Lib.hid (HGB.out (fun h => h.1 h0))
        have HON : Hid (OwnL 44 w.heap.size (w4.alloc (.cells #[.int .i64 x0, .int .i64 x1, .int .i64 x2, .int .i64 x3] 38)) (.slice la m lc) (mgT ls (k + 1))) := Lib.hid (by rw [HSK.out h0]; exact (HO.out.below HBR.out).below ((Below.refl _ _).alloc (Nat.le_refl _) _))
        have HBN := Lib.hid (HB4.out.alloc hs4 (.cells #[.int .i64 x0, .int .i64 x1, .int .i64 x2, .int .i64 x3] 38))
        subst h0
        clear HLIM HGB HSK HAD
        go_wp2_with fail
        go_roundw
        case rel => exact ⟨k + 1, by omega, by go_num, HON.out, HGN.out, HBN.out⟩
        case measure => simp [intOf]; omega
      have t0 : ((x0 : Int) == 0) = false := by rw [beq_eq_false_iff_ne]; exact h0
      by_cases h1 : 1000 < x1
      · have u1 : decide ((1000 : Int) < x1) = true := decide_eq_true (by omega)
        have u1' : decide (x1 > (1000 : Int)) = true := decide_eq_true (by omega)
        have HL := Lib.hid (HLIM.out ⟨h0, by omega⟩)
        obtain ⟨e1, e2⟩ := HL.out
        subst e1; subst e2
        have HE := Lib.hid (ownG_empty (w := w4.alloc (.cells #[.int .i64 x0, .int .i64 x1, .int .i64 x2, .int .i64 x3] 38)) (B := w.heap.size) (by simp; omega))
        have HE2 := Lib.hid (((HB4.out.alloc hs4 (.cells #[.int .i64 x0, .int .i64 x1, .int .i64 x2, .int .i64 x3] 38))).alloc (by simp; omega) (.cells #[] 44))
        rw [World.size_alloc] at HE
        clear HL HLIM
        go_wp2_with fail
        go_ret2
        exact ⟨_, rfl, HE.out, HE2.out⟩
      have u1 : decide ((1000 : Int) < x1) = false := decide_eq_false (by omega)
      have u1' : decide (x1 > (1000 : Int)) = false := decide_eq_false (by omega)
      by_cases h2 : x2 ≤ 1000000
      rotate_left
      · have i2 : inB x2 0 1000000 = false := decide_eq_false (by omega)
        have HL := Lib.hid (HLIM.out ⟨h0, by omega⟩)
        obtain ⟨e1, e2⟩ := HL.out
        subst e1; subst e2
        have HE := Lib.hid (ownG_empty (w := w4.alloc (.cells #[.int .i64 x0, .int .i64 x1, .int .i64 x2, .int .i64 x3] 38)) (B := w.heap.size) (by simp; omega))
        have HE2 := Lib.hid (((HB4.out.alloc hs4 (.cells #[.int .i64 x0, .int .i64 x1, .int .i64 x2, .int .i64 x3] 38))).alloc (by simp; omega) (.cells #[] 44))
        rw [World.size_alloc] at HE
        clear HL HLIM
        go_wp2_with fail
        refine (sdecl_any _ _).mono ?_
        rintro e _ ⟨rfl, rfl⟩
        rw [i2]
        go_wp2_with fail
        go_ret2
        exact ⟨_, rfl, HE.out, HE2.out⟩
      have i2 : inB x2 0 1000000 = true := decide_eq_true (by omega)
      by_cases h3 : x3 ≤ 1000000
      rotate_left
      · have i3 : inB x3 0 1000000 = false := decide_eq_false (by omega)
        have HL := Lib.hid (HLIM.out ⟨h0, by omega⟩)
        obtain ⟨e1, e2⟩ := HL.out
        subst e1; subst e2
        have HE := Lib.hid (ownG_empty (w := w4.alloc (.cells #[.int .i64 x0, .int .i64 x1, .int .i64 x2, .int .i64 x3] 38)) (B := w.heap.size) (by simp; omega))
        have HE2 := Lib.hid (((HB4.out.alloc hs4 (.cells #[.int .i64 x0, .int .i64 x1, .int .i64 x2, .int .i64 x3] 38))).alloc (by simp; omega) (.cells #[] 44))
        rw [World.size_alloc] at HE
        clear HL HLIM
        go_wp2_with fail
        refine (sdecl_any _ _).mono ?_
        rintro e _ ⟨rfl, rfl⟩
        rw [i2]
        go_wp2_with fail
        refine (sdecl_any _ _).mono ?_
        rintro e _ ⟨rfl, rfl⟩
        rw [i3]
        go_wp2_with fail
        go_ret2
        exact ⟨_, rfl, HE.out, HE2.out⟩
      have i3 : inB x3 0 1000000 = true := decide_eq_true (by omega)
      have HGN := Lib.hid (HGB.out (fun h => h.2 ⟨by omega, h2, h3⟩))
      have HAN := Lib.hid (HAD.out h0)
      have v0 := w8G (n := k) (by omega)
      have v1 := w16G a1 b1
      have v2 := w32G a2 b2
      have v3 := w32G a3 b3
      have br5 : Below wr.heap.size wr (w4.alloc (.cells #[.int .i64 x0, .int .i64 x1, .int .i64 x2, .int .i64 x3] 38)) := blink HBR.out ((Below.refl _ _).alloc (Nat.le_refl _) _)
      have HOA : Hid (((w4.alloc (.cells #[.int .i64 x0, .int .i64 x1, .int .i64 x2, .int .i64 x3] 38)).alloc (.cells #[.int .i8 (k : Int), .int .i16 x1, .int .i32 x2, .int .i32 x3] 44)).ownsRow w.heap.size 44 4 (.slice la m lc) m (flatL (mgT ls k))) := Lib.hid (by have h := World.ownsRow.alloc (show (w4.alloc (.cells #[.int .i64 x0, .int .i64 x1, .int .i64 x2, .int .i64 x3] 38)).ownsRow w.heap.size 44 4 (.slice la m lc) (mgT ls k).length (flatL (mgT ls k)) from HO.out.below br5) (.cells #[.int .i8 (k : Int), .int .i16 x1, .int .i32 x2, .int .i32 x3] 44); rw [HM.out] at h; exact h)
      have HBAA : Hid (Below w.heap.size w ((w4.alloc (.cells #[.int .i64 x0, .int .i64 x1, .int .i64 x2, .int .i64 x3] 38)).alloc (.cells #[.int .i8 (k : Int), .int .i16 x1, .int .i32 x2, .int .i32 x3] 44))) := Lib.hid ((HB4.out.alloc hs4 _).alloc (by simp; omega) _)
      have HNEW : Hid (∀ j q, ([Value.int .i8 (k : Int), .int .i16 x1, .int .i32 x2, .int .i32 x3] : List Value)[j]? = some q → ((w4.alloc (.cells #[.int .i64 x0, .int .i64 x1, .int .i64 x2, .int .i64 x3] 38)).alloc (.cells #[.int .i8 (k : Int), .int .i16 x1, .int .i32 x2, .int .i32 x3] 44)).cell? (Addr.add ⟨w4.heap.size + 1, 0, none⟩ j) = some q) := Lib.hid (by
        have h := @newG (w4.alloc (.cells #[.int .i64 x0, .int .i64 x1, .int .i64 x2, .int .i64 x3] 38)) (.int .i8 (k : Int)) (.int .i16 x1) (.int .i32 x2) (.int .i32 x3) 44
        rw [World.size_alloc] at h
        exact h)
      clear HLIM HGB HSK HAD br5 h0 h1 h2 h3
      go_wp2_with fail
      refine (sdecl_any _ _).mono ?_
      rintro e _ ⟨rfl, rfl⟩
      rw [i2]
      go_wp2_with fail
      refine (sdecl_any _ _).mono ?_
      rintro e _ ⟨rfl, rfl⟩
      rw [i3]
      go_wp2_with (at_builtin; refine wpList_append_own _ rfl _ _ 26 rfl w.heap.size 44 o0 (.agg #[.int .i8 0, .int .i16 0, .int .i32 0, .int .i32 0]) 4 12 Try.underlying26 ho0 oz0 oz1 oz2 rfl (by decide) _ _ _ rfl HOA.out ⟨w4.heap.size + 1, 0, none⟩ 1 1 [.int .i8 (k : Int), .int .i16 x1, .int .i32 x2, .int .i32 x3] rfl rfl HNEW.out onesG ?c3 ?c4 ?c5 ?_)
      case c3 => unfold maxLen; omega
      case c4 => omega
      case c5 => first | omega | (simp; omega)
      intro v' w9 hown' hgrow _
      have HO9 : Hid (OwnL 44 w.heap.size w9 v' (mgT ls (k + 1))) := Lib.hid (by
        rw [HAN.out]
        unfold OwnL
        rw [List.length_append, HM.out, flatL_append]
        exact hown')
      have HB9 : Hid (Below w.heap.size w w9) := Lib.hid (HBAA.out.grown hgrow (by simp; omega) (fun j e => (HOA.out.lt j e).1))
      clear hown' hgrow
      go_wp2_with fail
      go_roundw
      case rel => exact ⟨k + 1, by omega, by go_num, HO9.out, HGN.out, HB9.out⟩
      case measure => simp [intOf]; omega
    · have hkn : k = nc := by omega
      subst hkn
      obtain ⟨e1, e2⟩ := HYES.out hgood
      subst e1; subst e2
      have tkk : decide ((k : Int) < (k : Int)) = false := decide_eq_false (by omega)
      clear ho hgood hb hm
      go_wp2_with fail
      go_ret2
      exact ⟨_, rfl, HO.out, HB.out⟩
end Go.Proofs.Ytocogipejchneaa
