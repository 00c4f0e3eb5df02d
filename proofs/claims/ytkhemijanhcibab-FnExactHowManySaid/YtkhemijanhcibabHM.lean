/-
  The contract of the model's HowMany.
-/
import Derived.Test.YtkhemijanhcibabCut2
import Derived.Test.YtkhemijanhcibabFits2
namespace Go.Proofs.Ytkhemijanhcibab
open Go Go.RowKit
set_option linter.unusedVariables false

def hmCode (a b c x y z : Int) : Int := if okB a b c = true ∧ okB x y z = true then 0 else 1
def hmRes (a b c x y z : Int) : Int × Tri := if hmCode a b c x y z = 0 then manyOf (x, y, z) (turnsL (lo3 a b c) (mi3 a b c) (hi3 a b c)) else (0, (0, 0, 0))
def RetHM (B : Nat) (w : World) (r : Int × Tri) (k : Int) (e : Ending) (w' : World) : Prop := e = .returned (.tuple #[.int .i64 r.1, .agg #[.int .i8 r.2.1, .int .i8 r.2.2.1, .int .i8 r.2.2.2], .int .i64 k]) ∧ Below B w w'
theorem hm_ok {a b c x y z : Int} (h : okB a b c = true) (g : okB x y z = true) : hmRes a b c x y z = manyOf (x, y, z) (turnsL (lo3 a b c) (mi3 a b c) (hi3 a b c)) ∧ hmCode a b c x y z = 0 := by
  have e : hmCode a b c x y z = 0 := by unfold hmCode; rw [if_pos ⟨h, g⟩]
  exact ⟨by unfold hmRes; rw [if_pos e], e⟩
theorem hm_no {a b c x y z : Int} (h : okB a b c = false ∨ okB x y z = false) : hmRes a b c x y z = (0, (0, 0, 0)) ∧ hmCode a b c x y z = 1 := by
  have e : hmCode a b c x y z = 1 := by unfold hmCode; rw [if_neg (by rcases h with h | h <;> rw [h] <;> simp)]
  exact ⟨by unfold hmRes; rw [e]; rfl, e⟩
theorem ret_hm {B : Nat} {w w' : World} {r : Int × Tri} {k n p q s j : Int} (h : r = (n, (p, q, s)) ∧ k = j) (hb : Below B w w') : RetHM B w r k (.returned (.tuple #[.int .i64 n, .agg #[.int .i8 p, .int .i8 q, .int .i8 s], .int .i64 j])) w' := by
  obtain ⟨rfl, rfl⟩ := h; exact ⟨rfl, hb⟩
theorem div_in {a b : Int} (h0 : 1 ≤ a) (h1 : a ≤ 60) (g0 : 1 ≤ b) : 0 ≤ a / b ∧ a / b ≤ 60 :=
  ⟨Int.ediv_nonneg (by omega) (by omega), Int.le_trans (Int.ediv_le_self b (by omega)) h1⟩
/-- The numbers of rows are small. -/
theorem rows_in {x y z p q r : Int} (hx : 1 ≤ x ∧ x ≤ 60) (hy : 1 ≤ y ∧ y ≤ 60) (hz : 1 ≤ z ∧ z ≤ 60) (h : OkT (p, q, r)) :
    (0 ≤ x / p ∧ x / p ≤ 60) ∧ (0 ≤ y / q ∧ y / q ≤ 60) ∧ (0 ≤ z / r ∧ z / r ≤ 60) ∧ (0 ≤ x / p * (y / q) ∧ x / p * (y / q) ≤ 3600) ∧ (0 ≤ x / p * (y / q) * (z / r) ∧ x / p * (y / q) * (z / r) ≤ 216000) := by
  obtain ⟨p1, _, q1, _, r1, _⟩ := h
  have a1 := div_in hx.1 hx.2 p1
  have a2 := div_in hy.1 hy.2 q1
  have a3 := div_in hz.1 hz.2 r1
  have m1 := mul_in (A := 60) (B := 60) a1.1 a1.2 a2.1 a2.2
  have m2 := mul_in (A := 3600) (B := 60) m1.1 m1.2 a3.1 a3.2
  exact ⟨a1, a2, a3, m1, m2⟩
/-- The walk's own way of writing the number of rows. -/
theorem rows_wrap {x y z p q r : Int} (hx : 1 ≤ x ∧ x ≤ 60) (hy : 1 ≤ y ∧ y ≤ 60) (hz : 1 ≤ z ∧ z ≤ 60) (h : OkT (p, q, r)) :
    wrap64 (wrap64 (wrap64 (IntKind.i8.wrap (x.tdiv p)) * wrap64 (IntKind.i8.wrap (y.tdiv q))) * wrap64 (IntKind.i8.wrap (z.tdiv r))) = x / p * (y / q) * (z / r) := by
  obtain ⟨a1, a2, a3, m1, m2⟩ := rows_in hx hy hz h
  rw [Int.tdiv_eq_ediv_of_nonneg (by omega), Int.tdiv_eq_ediv_of_nonneg (by omega), Int.tdiv_eq_ediv_of_nonneg (by omega),
    IntWalk.i8_in _ ⟨by omega, by omega⟩, IntWalk.i8_in _ ⟨by omega, by omega⟩, IntWalk.i8_in _ ⟨by omega, by omega⟩,
    IntWalk.wrap64_in (x / p) ⟨by omega, by omega⟩, IntWalk.wrap64_in (y / q) ⟨by omega, by omega⟩, IntWalk.wrap64_in (z / r) ⟨by omega, by omega⟩,
    IntWalk.wrap64_in (x / p * (y / q)) ⟨by omega, by omega⟩, IntWalk.wrap64_in _ ⟨by omega, by omega⟩]
theorem manyStep_bd {c : Tri} {s : Int × Tri} {t : Tri} (h : -1 ≤ s.1 ∧ s.1 ≤ 216000) (hx : 1 ≤ c.1 ∧ c.1 ≤ 60) (hy : 1 ≤ c.2.1 ∧ c.2.1 ≤ 60) (hz : 1 ≤ c.2.2 ∧ c.2.2 ≤ 60) (ht : OkT t) : -1 ≤ (manyStep c s t).1 ∧ (manyStep c s t).1 ≤ 216000 := by
  have hr := (rows_in hx hy hz (p := t.1) (q := t.2.1) (r := t.2.2) ht).2.2.2.2
  unfold manyStep
  split
  · exact ⟨by show -1 ≤ rowsOf c t; unfold rowsOf; omega, by show rowsOf c t ≤ 216000; unfold rowsOf; omega⟩
  · exact h
theorem manyOf_bd {c : Tri} (hx : 1 ≤ c.1 ∧ c.1 ≤ 60) (hy : 1 ≤ c.2.1 ∧ c.2.1 ≤ 60) (hz : 1 ≤ c.2.2 ∧ c.2.2 ≤ 60) (l : List Tri) (hl : ∀ t ∈ l, OkT t) : -1 ≤ (manyOf c l).1 ∧ (manyOf c l).1 ≤ 216000 := by
  unfold manyOf
  have h : ∀ (l : List Tri) (s : Int × Tri), (∀ t ∈ l, OkT t) → -1 ≤ s.1 ∧ s.1 ≤ 216000 → -1 ≤ (l.foldl (manyStep c) s).1 ∧ (l.foldl (manyStep c) s).1 ≤ 216000 := by
    intro l
    induction l with
    | nil => intro s _ hs; exact hs
    | cons a l ih => intro s hl hs; rw [List.foldl_cons]; exact ih _ (fun t ht => hl t (List.mem_cons_of_mem _ ht)) (manyStep_bd hs hx hy hz (hl a List.mem_cons_self))
  exact h l _ hl ⟨by simp, by simp⟩

set_option maxHeartbeats 1600000 in
set_option maxRecDepth 100000 in
theorem shm_any (a b c x y z : Int) (w : World) (ha : I8s a b c) (hx : I8s x y z) :
    Calls Try.prog 8 #[.agg #[.int .i8 a, .int .i8 b, .int .i8 c], .agg #[.int .i8 x, .int .i8 y, .int .i8 z]] w (RetHM w.heap.size w (hmRes a b c x y z) (hmCode a b c x y z)) := by
  have HA := Lib.hid ha
  have HB := Lib.hid hx
  clear ha hx
  obtain ⟨v0, e0⟩ : ∃ v, w.alloc (.cells #[.int .i8 a, .int .i8 b, .int .i8 c] 25) = v := ⟨_, rfl⟩
  have s0 : v0.heap.size = w.heap.size + 1 := by rw [← e0]; simp
  have q0 : At3 v0 (w.heap.size) a b c := by rw [← e0]; exact At3.new _ _ _ _ _
  have c0 : Below w.heap.size w v0 := by rw [← e0]; exact (Below.refl _ _).alloc (Nat.le_refl _) _
  obtain ⟨v1, e1⟩ : ∃ v, v0.alloc (.cells #[.int .i8 x, .int .i8 y, .int .i8 z] 25) = v := ⟨_, rfl⟩
  have s1 : v1.heap.size = w.heap.size + 1 + 1 := by rw [← e1]; simp [s0]
  have q1 : At3 v1 (w.heap.size + 1) x y z := by rw [← e1, ← s0]; exact At3.new _ _ _ _ _
  have c1 : Below w.heap.size w v1 := by rw [← e1]; exact c0.alloc (by omega) _
  have q0 : At3 v1 (w.heap.size) a b c := by rw [← e1]; exact q0.alloc _
  obtain ⟨v2, e2⟩ : ∃ v, v1.alloc (.cells #[.int .i8 0, .int .i8 0, .int .i8 0] 25) = v := ⟨_, rfl⟩
  have s2 : v2.heap.size = w.heap.size + 1 + 1 + 1 := by rw [← e2]; simp [s1]
  have k2 : Blk3 v2 (w.heap.size + 1 + 1) 25 0 0 0 := by rw [← e2, ← s1]; exact Blk3.new _ _ _ _ _
  have c2 : Below w.heap.size w v2 := by rw [← e2]; exact c1.alloc (by omega) _
  have q0 : At3 v2 (w.heap.size) a b c := by rw [← e2]; exact q0.alloc _
  have q1 : At3 v2 (w.heap.size + 1) x y z := by rw [← e2]; exact q1.alloc _
  have E := Lib.hid (And.intro e0 (And.intro e1 e2))
  have S2 := Lib.hid s2
  have C2 := Lib.hid c2
  have Q0 := Lib.hid q0
  have Q1 := Lib.hid q1
  have K2 := Lib.hid k2
  clear e0 e1 e2 s0 s1 s2 q0 q1 c0 c1 c2 k2
  obtain ⟨o, ho⟩ : ∃ o, okB a b c = o := ⟨_, rfl⟩
  obtain ⟨p, hp⟩ : ∃ p, okB x y z = p := ⟨_, rfl⟩
  have HO := Lib.hid ho
  have HP := Lib.hid hp
  clear ho hp
  cases o
  · have HR := Lib.hid (hm_no (a := a) (b := b) (c := c) (x := x) (y := y) (z := z) (.inl HO.out))
    go_enter Try.func8, Try.ntmps8
    go_wp2_with fail
    rw [E.out.1, E.out.2.1, E.out.2.2]
    refine (sok_any a b c _ HA.out).mono ?_
    rintro e w3 ⟨rfl, b2⟩
    rw [HO.out]
    have R0 := Q0.out.below b2
    have R1 := Q1.out.below b2
    have KK := Lib.hid (K2.out.below b2 K2.out.lt)
    have B := Lib.hid (blink C2.out b2)
    clear b2
    have m0 := R0.1
    have m1 := R0.2.1
    have m2 := R0.2.2
    have n0 := R1.1
    have n1 := R1.2.1
    have n2 := R1.2.2
    have r0 := KK.out.at3.1
    have r1 := KK.out.at3.2.1
    have r2 := KK.out.at3.2.2
    have f0 := KK.out.frozen 0
    have f1 := KK.out.frozen 1
    have f2 := KK.out.frozen 2
    go_wp2_with fail
    clear r0 r1 r2
    obtain ⟨Wf, eW⟩ : ∃ Wf, ((w3.setCell ⟨w.heap.size + 1 + 1, 0, none⟩ (.int .i8 0)).setCell ⟨w.heap.size + 1 + 1, 1, none⟩ (.int .i8 0)).setCell ⟨w.heap.size + 1 + 1, 2, none⟩ (.int .i8 0) = Wf := ⟨_, rfl⟩
    rw [eW]
    have kf : Blk3 Wf (w.heap.size + 1 + 1) 25 0 0 0 := by rw [← eW]; exact KK.out.store
    have bf : Below w.heap.size w Wf := by rw [← eW]; exact ((B.out.setCell (by show w.heap.size ≤ w.heap.size + 1 + 1; omega) _).setCell (by show w.heap.size ≤ w.heap.size + 1 + 1; omega) _).setCell (by show w.heap.size ≤ w.heap.size + 1 + 1; omega) _
    have r0 := kf.at3.1
    have r1 := kf.at3.2.1
    have r2 := kf.at3.2.2
    exact bodyPost_ret (v := .tuple #[.int .i64 0, .agg #[.int .i8 0, .int .i8 0, .int .i8 0], .int .i64 1]) (by simp [results, Try.results8, go_sem, r0, r1, r2]) rfl (ret_hm HR.out bf)
  · cases p
    · have HR := Lib.hid (hm_no (a := a) (b := b) (c := c) (x := x) (y := y) (z := z) (.inr HP.out))
      go_enter Try.func8, Try.ntmps8
      go_wp2_with fail
      rw [E.out.1, E.out.2.1, E.out.2.2]
      refine (sok_any a b c _ HA.out).mono ?_
      rintro e w3 ⟨rfl, b2⟩
      rw [HO.out]
      have R0 := Q0.out.below b2
      have R1 := Q1.out.below b2
      have KK := Lib.hid (K2.out.below b2 K2.out.lt)
      have B := Lib.hid (blink C2.out b2)
      clear b2
      have m0 := R0.1
      have m1 := R0.2.1
      have m2 := R0.2.2
      have n0 := R1.1
      have n1 := R1.2.1
      have n2 := R1.2.2
      have r0 := KK.out.at3.1
      have r1 := KK.out.at3.2.1
      have r2 := KK.out.at3.2.2
      have f0 := KK.out.frozen 0
      have f1 := KK.out.frozen 1
      have f2 := KK.out.frozen 2
      go_wp2_with fail
      refine (sok_any x y z _ HB.out).mono ?_
      rintro e w4 ⟨rfl, b2⟩
      rw [HP.out]
      have R0 := R0.below b2
      have R1 := R1.below b2
      have KK := Lib.hid (KK.out.below b2 KK.out.lt)
      have B := Lib.hid (blink B.out b2)
      clear b2 m0 m1 m2 n0 n1 n2 r0 r1 r2 f0 f1 f2
      have m0 := R0.1
      have m1 := R0.2.1
      have m2 := R0.2.2
      have n0 := R1.1
      have n1 := R1.2.1
      have n2 := R1.2.2
      have r0 := KK.out.at3.1
      have r1 := KK.out.at3.2.1
      have r2 := KK.out.at3.2.2
      have f0 := KK.out.frozen 0
      have f1 := KK.out.frozen 1
      have f2 := KK.out.frozen 2
      go_wp2_with fail
      clear r0 r1 r2
      obtain ⟨Wf, eW⟩ : ∃ Wf, ((w4.setCell ⟨w.heap.size + 1 + 1, 0, none⟩ (.int .i8 0)).setCell ⟨w.heap.size + 1 + 1, 1, none⟩ (.int .i8 0)).setCell ⟨w.heap.size + 1 + 1, 2, none⟩ (.int .i8 0) = Wf := ⟨_, rfl⟩
      rw [eW]
      have kf : Blk3 Wf (w.heap.size + 1 + 1) 25 0 0 0 := by rw [← eW]; exact KK.out.store
      have bf : Below w.heap.size w Wf := by rw [← eW]; exact ((B.out.setCell (by show w.heap.size ≤ w.heap.size + 1 + 1; omega) _).setCell (by show w.heap.size ≤ w.heap.size + 1 + 1; omega) _).setCell (by show w.heap.size ≤ w.heap.size + 1 + 1; omega) _
      have r0 := kf.at3.1
      have r1 := kf.at3.2.1
      have r2 := kf.at3.2.2
      exact bodyPost_ret (v := .tuple #[.int .i64 0, .agg #[.int .i8 0, .int .i8 0, .int .i8 0], .int .i64 1]) (by simp [results, Try.results8, go_sem, r0, r1, r2]) rfl (ret_hm HR.out bf)
    · have HR := Lib.hid (hm_ok HO.out HP.out)
      obtain ⟨x1, x2, y1, y2, z1, z2⟩ := okB_spec HP.out
      have hbd := of_decide_eq_true HO.out
      have hord := ord3 a b c
      obtain ⟨ts, hts⟩ : ∃ ts, turnsL (lo3 a b c) (mi3 a b c) (hi3 a b c) = ts := ⟨_, rfl⟩
      have hokt : ∀ t ∈ ts, OkT t := by rw [← hts]; exact turnsL_ok (by omega) hord.1 hord.2 hbd.2
      have hlen : 1 ≤ ts.length ∧ ts.length ≤ 6 := by rw [← hts]; exact turnsL_len _ _ _
      have HTS := Lib.hid hts
      have HOK := Lib.hid hokt
      clear hbd hord hts hokt
      go_enter Try.func8, Try.ntmps8
      go_wp2_with fail
      rw [E.out.1, E.out.2.1, E.out.2.2]
      refine (sok_any a b c _ HA.out).mono ?_
      rintro e w3 ⟨rfl, b2⟩
      rw [HO.out]
      have R0 := Q0.out.below b2
      have R1 := Q1.out.below b2
      have KK := Lib.hid (K2.out.below b2 K2.out.lt)
      have B := Lib.hid (blink C2.out b2)
      clear b2
      have m0 := R0.1
      have m1 := R0.2.1
      have m2 := R0.2.2
      have n0 := R1.1
      have n1 := R1.2.1
      have n2 := R1.2.2
      have r0 := KK.out.at3.1
      have r1 := KK.out.at3.2.1
      have r2 := KK.out.at3.2.2
      have f0 := KK.out.frozen 0
      have f1 := KK.out.frozen 1
      have f2 := KK.out.frozen 2
      go_wp2_with fail
      refine (sok_any x y z _ HB.out).mono ?_
      rintro e w4 ⟨rfl, b2⟩
      rw [HP.out]
      have R0 := R0.below b2
      have R1 := R1.below b2
      have KK := Lib.hid (KK.out.below b2 KK.out.lt)
      have B := Lib.hid (blink B.out b2)
      clear b2 m0 m1 m2 n0 n1 n2 r0 r1 r2 f0 f1 f2
      have m0 := R0.1
      have m1 := R0.2.1
      have m2 := R0.2.2
      have n0 := R1.1
      have n1 := R1.2.1
      have n2 := R1.2.2
      have r0 := KK.out.at3.1
      have r1 := KK.out.at3.2.1
      have r2 := KK.out.at3.2.2
      have f0 := KK.out.frozen 0
      have f1 := KK.out.frozen 1
      have f2 := KK.out.frozen 2
      go_wp2_with fail
      refine (sturns_any a b c _).mono ?_
      rintro e w5 ⟨v, rfl, o3, b3⟩
      rw [HTS.out] at o3
      obtain ⟨g, cap, hv, hgB, hgw, hlc, hcm, hcl, hfz⟩ : ∃ g cap, v = .slice (some ⟨g, 0, none⟩) ts.length cap ∧ w4.heap.size ≤ g ∧ g < w5.heap.size ∧ ts.length ≤ cap ∧ cap ≤ maxLen ∧ CellsB w5 g ts ∧ (∀ j, w5.frozen? ⟨g, j, none⟩ = false) := by
        rcases o3.cases with ⟨_, h⟩ | h
        · rw [h] at hlen; simp at hlen
        · exact h
      subst hv
      have R0 := R0.below b3
      have R1 := R1.below b3
      have KK := Lib.hid (KK.out.below b3 KK.out.lt)
      have B := Lib.hid (blink B.out b3)
      have hsz : w.heap.size + 1 + 1 < w5.heap.size := KK.out.lt
      obtain ⟨w6, e6⟩ : ∃ V, w5.alloc (.cells #[.int .i8 0, .int .i8 0, .int .i8 0] 25) = V := ⟨_, rfl⟩
      have g6 : Blk3 w6 w5.heap.size 25 0 0 0 := by rw [← e6]; exact Blk3.new _ _ _ _ _
      have hcl6 : CellsB w6 g ts := by rw [← e6]; exact hcl.below ((Below.refl _ _).alloc (Nat.le_refl _) _)
      have R1' := R1.alloc (.cells #[.int .i8 0, .int .i8 0, .int .i8 0] 25)
      rw [e6] at R1'
      have KK6 : Hid (Blk3 w6 (w.heap.size + 1 + 1) 25 0 0 0) := Lib.hid (by rw [← e6]; exact KK.out.alloc _)
      have B6 : Hid (Below w.heap.size w w6) := Lib.hid (by rw [← e6]; exact B.out.alloc (by omega) _)
      have s6 : w6.heap.size = w5.heap.size + 1 := by rw [← e6]; simp
      have HCL := Lib.hid hcl
      have HR1 := Lib.hid R1
      have G6 := Lib.hid g6
      have S6 := Lib.hid s6
      have E6 := Lib.hid e6
      have B56 : Hid (Below w5.heap.size w5 w6) := Lib.hid (by rw [← e6]; exact (Below.refl _ _).alloc (Nat.le_refl _) _)
      obtain ⟨len, hl⟩ : ∃ len, ts.length = len := ⟨_, rfl⟩
      rw [hl] at hlen hlc
      rw [hl]
      have HL := Lib.hid hl
      obtain ⟨l1, l6⟩ := hlen
      clear o3 b3 hl hcl hcl6 hfz hcm e6 g6 s6 R0 R1 R1' m0 m1 m2 n0 n1 n2 r0 r1 r2 f0 f1 f2
      go_wp2_with fail
      rw [E6.out]
      go_loopw [9, 10] (fun ms i wr => ∃ k : Nat, k ≤ len ∧ i = .int .i64 k ∧ ms = .int .i64 (manyOf (x, y, z) (ts.take k)).1 ∧ Blk3 wr w5.heap.size 25 (manyOf (x, y, z) (ts.take k)).2.1 (manyOf (x, y, z) (ts.take k)).2.2.1 (manyOf (x, y, z) (ts.take k)).2.2.2 ∧ Below w5.heap.size w5 wr) (fun _ i _ => len - (intOf i).toNat)
      case atStart => exact ⟨0, by omega, rfl, rfl, G6.out, B56.out⟩
      case round =>
        obtain ⟨k, hk, rfl, rfl, hbk, hnx⟩ := hrel
        by_cases hlt : k < len
        · have hkt : k < ts.length := by have := HL.out; omega
          obtain ⟨c0, c1, c2⟩ := HCL.out.below hnx k hkt
          have hokk : OkT (ts.getD k (0, 0, 0)) := HOK.out _ (by rw [List.getD, List.getElem?_eq_getElem hkt]; exact List.getElem_mem _)
          have hsn : manyOf (x, y, z) (ts.take (k + 1)) = manyStep (x, y, z) (manyOf (x, y, z) (ts.take k)) (ts.getD k (0, 0, 0)) := by
            rw [List.take_succ_eq_append_getElem hkt, manyOf_snoc]
            simp [List.getD, hkt]
          have hpb := manyOf_bd (c := (x, y, z)) ⟨x1, x2⟩ ⟨y1, y2⟩ ⟨z1, z2⟩ (ts.take k) (fun t ht => HOK.out t (List.mem_of_mem_take ht))
          obtain ⟨t, ht⟩ : ∃ t, ts.getD k (0, 0, 0) = t := ⟨_, rfl⟩
          obtain ⟨s, hs⟩ : ∃ s, manyOf (x, y, z) (ts.take k) = s := ⟨_, rfl⟩
          rw [ht] at c0 c1 c2 hokk hsn
          rw [hs] at hsn hpb hbk
          rw [hs]
          obtain ⟨ta, tb, tc⟩ := t
          have HGK := Lib.hid ht
          obtain ⟨sm, s0, s1, s2⟩ := s
          have hri := rows_in ⟨x1, x2⟩ ⟨y1, y2⟩ ⟨z1, z2⟩ hokk
          obtain ⟨p1, p2, q1, q2, r1, r2⟩ := hokk
          obtain ⟨⟨d1, d2⟩, ⟨d3, d4⟩, ⟨d5, d6⟩, ⟨d7, d8⟩, ⟨d9, d10⟩⟩ := hri
          obtain ⟨hm1, hm2⟩ := hpb
          unfold manyStep rowsOf at hsn
          have hwv := rows_wrap ⟨x1, x2⟩ ⟨y1, y2⟩ ⟨z1, z2⟩ (p := ta) (q := tb) (r := tc) ⟨p1, p2, q1, q2, r1, r2⟩
          simp only at p1 p2 q1 q2 r1 r2 hm1 hm2 hsn hbk c0 c1 c2
          obtain ⟨v, hv⟩ : ∃ v, x / ta * (y / tb) * (z / tc) = v := ⟨_, rfl⟩
          rw [hv] at d9 d10 hsn hwv
          have HWV := Lib.hid hwv
          have HKT := Lib.hid hkt
          clear hv hwv
          have R1 := HR1.out.below (hnx.mono (Nat.le_refl _))
          have n0 := R1.1
          have n1 := R1.2.1
          have n2 := R1.2.2
          have HBK := Lib.hid hbk
          have r3 := hbk.at3.1
          have r4 := hbk.at3.2.1
          have r5 := hbk.at3.2.2
          have f0 := hbk.frozen 0
          have f1 := hbk.frozen 1
          have f2 := hbk.frozen 2
          have HSN := Lib.hid hsn
          have HN := Lib.hid hnx
          have hki : (k : Int) < (len : Int) := by omega
          clear hsn hnx hs ht hkt hbk R1
          go_wp2_with fail
          go_quiet (fail)
          rw [HWV.out]
          obtain ⟨wd, ed, hkd, hnd⟩ : ∃ W, wr.drewN nq = W ∧ Blk3 W w5.heap.size 25 s0 s1 s2 ∧ Below w5.heap.size w5 W := ⟨_, rfl, HBK.out.drewN _, below_drewN HN.out _⟩
          rw [ed]
          have HKD := Lib.hid hkd
          have HND := Lib.hid hnd
          clear ed c0 c1 c2 r3 r4 r5 f0 f1 f2 n0 n1 n2
          obtain ⟨c0, c1, c2⟩ := HCL.out.below hnd k HKT.out
          have hgk := HGK.out
          rw [hgk] at c0 c1 c2
          simp only at c0 c1 c2
          have r3 := hkd.at3.1
          have r4 := hkd.at3.2.1
          have r5 := hkd.at3.2.2
          have f0 := hkd.frozen 0
          have f1 := hkd.frozen 1
          have f2 := hkd.frozen 2
          clear hkd hnd hgk
          by_cases h1 : sm < v
          · have t1 : decide (sm < v) = true := decide_eq_true h1
            have HS2 : Hid (manyOf (x, y, z) (ts.take (k + 1)) = (v, ta, tb, tc)) := Lib.hid (by rw [HSN.out, if_pos h1])
            have HKS : Hid (Blk3 (((wd.setCell ⟨w5.heap.size, 0, none⟩ (.int .i8 ta)).setCell ⟨w5.heap.size, 1, none⟩ (.int .i8 tb)).setCell ⟨w5.heap.size, 2, none⟩ (.int .i8 tc)) w5.heap.size 25 ta tb tc) := Lib.hid HKD.out.store
            have HNS : Hid (Below w5.heap.size w5 (((wd.setCell ⟨w5.heap.size, 0, none⟩ (.int .i8 ta)).setCell ⟨w5.heap.size, 1, none⟩ (.int .i8 tb)).setCell ⟨w5.heap.size, 2, none⟩ (.int .i8 tc))) := Lib.hid (((HND.out.setCell (Nat.le_refl w5.heap.size) _).setCell (Nat.le_refl w5.heap.size) _).setCell (Nat.le_refl w5.heap.size) _)
            go_wp2_with fail
            go_roundw
            case rel => exact ⟨k + 1, by omega, by go_num, by rw [HS2.out], by rw [HS2.out]; exact HKS.out, HNS.out⟩
            case measure => simp [intOf]; omega
          · have t1 : decide (sm < v) = false := decide_eq_false h1
            have HS2 : Hid (manyOf (x, y, z) (ts.take (k + 1)) = (sm, s0, s1, s2)) := Lib.hid (by rw [HSN.out, if_neg h1])
            go_wp2_with fail
            go_roundw
            case rel => exact ⟨k + 1, by omega, by go_num, by rw [HS2.out], by rw [HS2.out]; exact HKD.out, HND.out⟩
            case measure => simp [intOf]; omega
        · obtain rfl : k = len := by omega
          have HE : Hid (manyOf (x, y, z) (ts.take k) = manyOf (x, y, z) ts) := Lib.hid (by rw [← HL.out, List.take_length])
          have HRE : Hid (hmRes a b c x y z = manyOf (x, y, z) ts ∧ hmCode a b c x y z = 0) := Lib.hid (by rw [HR.out.1, HTS.out]; exact ⟨rfl, HR.out.2⟩)
          have HBE : Hid (Below w.heap.size w wr) := Lib.hid (blink B.out hnx)
          have HKE := Lib.hid (KK.out.below hnx hsz)
          rw [HE.out] at hbk
          rw [HE.out]
          obtain ⟨s, hs⟩ : ∃ s, manyOf (x, y, z) ts = s := ⟨_, rfl⟩
          have HSS := Lib.hid hs
          rw [hs] at hbk
          rw [hs]
          obtain ⟨sm, s0, s1, s2⟩ := s
          simp only at hbk
          have r0 := HKE.out.at3.1
          have r1 := HKE.out.at3.2.1
          have r2 := HKE.out.at3.2.2
          have f0 := HKE.out.frozen 0
          have f1 := HKE.out.frozen 1
          have f2 := HKE.out.frozen 2
          have r3 := hbk.at3.1
          have r4 := hbk.at3.2.1
          have r5 := hbk.at3.2.2
          clear hnx hs hbk
          go_wp2_with fail
          go_region
          clear r0 r1 r2 r3 r4 r5 f0 f1 f2
          obtain ⟨Wf, eW⟩ : ∃ Wf, (((wr.setCell ⟨w.heap.size + 1 + 1, 0, none⟩ (.int .i8 s0)).setCell ⟨w.heap.size + 1 + 1, 1, none⟩ (.int .i8 s1)).setCell ⟨w.heap.size + 1 + 1, 2, none⟩ (.int .i8 s2)).drew = Wf := ⟨_, rfl⟩
          rw [eW]
          have kf : Blk3 Wf (w.heap.size + 1 + 1) 25 s0 s1 s2 := by rw [← eW]; exact HKE.out.store
          have bf : Below w.heap.size w Wf := by rw [← eW]; exact (((HBE.out.setCell (by show w.heap.size ≤ w.heap.size + 1 + 1; omega) _).setCell (by show w.heap.size ≤ w.heap.size + 1 + 1; omega) _).setCell (by show w.heap.size ≤ w.heap.size + 1 + 1; omega) _).drew
          have r0 := kf.at3.1
          have r1 := kf.at3.2.1
          have r2 := kf.at3.2.2
          have HRF : Hid (hmRes a b c x y z = (sm, (s0, s1, s2)) ∧ hmCode a b c x y z = 0) := Lib.hid ⟨HRE.out.1.trans HSS.out, HRE.out.2⟩
          clear eW kf
          have HBF := Lib.hid bf
          clear bf
          go_wp2_with fail
          exact bodyPost_ret (v := .tuple #[.int .i64 sm, .agg #[.int .i8 s0, .int .i8 s1, .int .i8 s2], .int .i64 0]) (by simp [results, Try.results8, go_sem, r0, r1, r2]) rfl (ret_hm HRF.out HBF.out)
end Go.Proofs.Ytkhemijanhcibab
