/-
  The program's CheckPiles.
-/
import Derived.Test.YtgdekplkadnmpaaCpP
import Derived.Test.YtgdekplkadnmpaaBlk
import Derived.Test.YtgdekplkadnmpaaToJ
import Derived.Deep.RegionHeld3
import Derived.Laws.EntriesVeiled
import Derived.Laws.NewBlocks
namespace Go.Proofs.Ytgdekplkadnmpaa
open Go Go.RowKit
set_option linter.unusedVariables false

abbrev insF (Bl : Nat) : Value := .func (.func 22) #[] #[.pointer (some ⟨Bl, 0, none⟩)]
abbrev nstF (Bi : Nat) : Value := .func (.func 24) #[] #[.pointer (some ⟨Bi, 0, none⟩)]

set_option maxHeartbeats 2000000 in
theorem nesting_any (a : Option Addr) (len cap : Nat) (w : World) : Calls Try.prog 16 #[.slice a len cap] w fun e w' => e = .returned (.tuple #[insF w.heap.size, nstF (w.heap.size + 1)]) ∧ Below w.heap.size w w' ∧ BlkA w' w.heap.size 27 #[.slice a len cap] ∧ BlkA w' (w.heap.size + 1) 41 #[insF w.heap.size] := by
  have hb : Below w.heap.size w ((w.alloc (.cells #[.slice a len cap] 27)).alloc (.cells #[insF w.heap.size] 41)) := ((Below.refl _ _).alloc (Nat.le_refl _) _).alloc (by simp) _
  have B1 : BlkA ((w.alloc (.cells #[.slice a len cap] 27)).alloc (.cells #[insF w.heap.size] 41)) w.heap.size 27 #[.slice a len cap] := (BlkA.new rfl _ _).alloc _
  have B2 : BlkA ((w.alloc (.cells #[.slice a len cap] 27)).alloc (.cells #[insF w.heap.size] 41)) (w.heap.size + 1) 41 #[insF w.heap.size] := BlkA.new (by simp) _ _
  have HB := Lib.hid hb
  have HB1 := Lib.hid B1
  have HB2 := Lib.hid B2
  clear hb B1 B2
  go_enter Try.func16, Try.ntmps16
  go_wp2_with fail
  refine bodyPost_ret (v := .tuple #[insF w.heap.size, nstF (w.heap.size + 1)]) (by simp [results, Try.results16, go_sem]) rfl ?_
  exact ⟨rfl, HB.out, HB1.out, HB2.out⟩

set_option maxHeartbeats 4000000 in
set_option maxRecDepth 100000 in
theorem ins_any2 (Bl b len cap i j : Nat) (ps : List Tri) (hl : ps.length = len) (h10 : len ≤ 10) (hi : i < len) (hj : j < len) (w : World) (hB : w.cell? ⟨Bl, 0, none⟩ = some (.slice (some ⟨b, 0, none⟩) len cap)) (hc : CellsB w b ps) :
    Calls Try.prog 22 #[.int .i64 i, .int .i64 j, .pointer (some ⟨Bl, 0, none⟩)] w fun e w' => e = .returned (.bool (insB (tAt ps i) (tAt ps j))) ∧ Below w.heap.size w w' := by
  obtain ⟨c0, c1, c2⟩ := hc i (by omega)
  obtain ⟨d0, d1, d2⟩ := hc j (by omega)
  have HE : Hid (insB (tAt ps i) (tAt ps j) = fitB (ps.getD i (0, 0, 0)).1 (ps.getD i (0, 0, 0)).2.1 (ps.getD i (0, 0, 0)).2.2 (ps.getD j (0, 0, 0)).1 (ps.getD j (0, 0, 0)).2.1 (ps.getD j (0, 0, 0)).2.2) := Lib.hid rfl
  obtain ⟨p, hp⟩ : ∃ p, ps.getD i (0, 0, 0) = p := ⟨_, rfl⟩
  obtain ⟨q, hq⟩ : ∃ q, ps.getD j (0, 0, 0) = q := ⟨_, rfl⟩
  rw [hp] at c0 c1 c2 HE
  rw [hq] at d0 d1 d2 HE
  obtain ⟨x0, x1, x2⟩ := p
  obtain ⟨y0, y1, y2⟩ := q
  simp only at c0 c1 c2 d0 d1 d2 HE
  rw [HE.out]
  have hil : (i : Int) < (len : Int) := by omega
  have hjl : (j : Int) < (len : Int) := by omega
  have hi0 : (0 : Int) ≤ (i : Int) := by omega
  have hj0 : (0 : Int) ≤ (j : Int) := by omega
  have SD : w.drew.cell? ⟨Bl, 0, none⟩ = some (.slice (some ⟨b, 0, none⟩) len cap) ∧ w.drew.cell? ⟨b, i * 3, none⟩ = some (.int .i8 x0) ∧ w.drew.cell? ⟨b, i * 3 + 1, none⟩ = some (.int .i8 x1) ∧ w.drew.cell? ⟨b, i * 3 + 2, none⟩ = some (.int .i8 x2) ∧ w.drew.cell? ⟨b, j * 3, none⟩ = some (.int .i8 y0) ∧ w.drew.cell? ⟨b, j * 3 + 1, none⟩ = some (.int .i8 y1) ∧ w.drew.cell? ⟨b, j * 3 + 2, none⟩ = some (.int .i8 y2) := ⟨hB, c0, c1, c2, d0, d1, d2⟩
  have hcl : ∀ (o : Nat) (u : Value), w.cell? ⟨b, o, none⟩ = some u → b < w.heap.size := fun o u h => World.block_lt_of_cell? w _ h
  have hbs := hcl _ _ c0
  have hBs : Bl < w.heap.size := World.block_lt_of_cell? w _ hB
  clear hc hp hq hl hcl
  go_enter Try.func22, Try.ntmps22
  go_wp2_with fail
  go_region_held3 (fun v => v.cell? ⟨Bl, 0, none⟩ = some (.slice (some ⟨b, 0, none⟩) len cap) ∧ v.cell? ⟨b, i * 3, none⟩ = some (.int .i8 x0) ∧ v.cell? ⟨b, i * 3 + 1, none⟩ = some (.int .i8 x1) ∧ v.cell? ⟨b, i * 3 + 2, none⟩ = some (.int .i8 x2) ∧ v.cell? ⟨b, j * 3, none⟩ = some (.int .i8 y0) ∧ v.cell? ⟨b, j * 3 + 1, none⟩ = some (.int .i8 y1) ∧ v.cell? ⟨b, j * 3 + 2, none⟩ = some (.int .i8 y2)) (first | (with_reducible exact zS) | (with_reducible exact SD))
    (((with_reducible refine (ifit_any x0 x1 x2 y0 y1 y2 w.drew).mono ?_); rintro e z ⟨rfl, bz⟩; have zS : z.cell? ⟨Bl, 0, none⟩ = some (.slice (some ⟨b, 0, none⟩) len cap) ∧ z.cell? ⟨b, i * 3, none⟩ = some (.int .i8 x0) ∧ z.cell? ⟨b, i * 3 + 1, none⟩ = some (.int .i8 x1) ∧ z.cell? ⟨b, i * 3 + 2, none⟩ = some (.int .i8 x2) ∧ z.cell? ⟨b, j * 3, none⟩ = some (.int .i8 y0) ∧ z.cell? ⟨b, j * 3 + 1, none⟩ = some (.int .i8 y1) ∧ z.cell? ⟨b, j * 3 + 2, none⟩ = some (.int .i8 y2) := ⟨(bz.cell (p := ⟨Bl, 0, none⟩) hBs).trans SD.1, (bz.cell (p := ⟨b, i * 3, none⟩) hbs).trans c0, (bz.cell (p := ⟨b, i * 3 + 1, none⟩) hbs).trans c1, (bz.cell (p := ⟨b, i * 3 + 2, none⟩) hbs).trans c2, (bz.cell (p := ⟨b, j * 3, none⟩) hbs).trans d0, (bz.cell (p := ⟨b, j * 3 + 1, none⟩) hbs).trans d1, (bz.cell (p := ⟨b, j * 3 + 2, none⟩) hbs).trans d2⟩))
  have HBZ := Lib.hid ((Below.refl w.heap.size w).drew.trans bz)
  clear zS bz SD
  go_wp2_with fail
  go_ret
  exact ⟨rfl, HBZ.out⟩

set_option maxHeartbeats 2000000 in
set_option maxRecDepth 100000 in
theorem nst_any (Bi Bl b len cap i j : Nat) (ps : List Tri) (hl : ps.length = len) (h10 : len ≤ 10) (hi : i < len) (hj : j < len) (w : World) (hI : w.cell? ⟨Bi, 0, none⟩ = some (insF Bl)) (hB : w.cell? ⟨Bl, 0, none⟩ = some (.slice (some ⟨b, 0, none⟩) len cap)) (hc : CellsB w b ps) :
    Calls Try.prog 24 #[.int .i64 i, .int .i64 j, .pointer (some ⟨Bi, 0, none⟩)] w fun e w' => e = .returned (.bool (nstB ps i j)) ∧ Below w.heap.size w w' := by
  have HC1 := Lib.hid (ins_any2 Bl b len cap i j ps hl h10 hi hj w hB hc)
  have HC2 : Hid (∀ W, Below w.heap.size w W → Calls Try.prog 22 #[.int .i64 j, .int .i64 i, .pointer (some ⟨Bl, 0, none⟩)] W fun e w' => e = .returned (.bool (insB (tAt ps j) (tAt ps i))) ∧ Below W.heap.size W w') := Lib.hid (fun W hW =>
    ins_any2 Bl b len cap j i ps hl h10 hj hi W ((hW.cell (p := ⟨Bl, 0, none⟩) (World.block_lt_of_cell? w _ hB)).trans hB) (hc.below hW))
  have HIW : Hid (∀ W, Below w.heap.size w W → W.cell? ⟨Bi, 0, none⟩ = some (insF Bl)) := Lib.hid (fun W hW => (hW.cell (p := ⟨Bi, 0, none⟩) (World.block_lt_of_cell? w _ hI)).trans hI)
  have HE : Hid (nstB ps i j = (insB (tAt ps i) (tAt ps j) || insB (tAt ps j) (tAt ps i))) := Lib.hid rfl
  rw [HE.out]
  obtain ⟨p, hp⟩ : ∃ p, insB (tAt ps i) (tAt ps j) = p := ⟨_, rfl⟩
  obtain ⟨q, hq⟩ : ∃ q, insB (tAt ps j) (tAt ps i) = q := ⟨_, rfl⟩
  rw [hp] at HC1
  rw [hq] at HC2
  rw [hp, hq]
  clear hc hB hp hq hl HE
  go_enter Try.func24, Try.ntmps24
  go_wp2_with fail
  refine HC1.out.mono ?_
  rintro e w2 ⟨rfl, b2⟩
  have HB2 := Lib.hid b2
  have i2 := HIW.out w2 b2
  clear b2
  cases p
  · go_wp2_with fail
    refine (HC2.out w2 HB2.out).mono ?_
    rintro e w3 ⟨rfl, b3⟩
    have HB3 := Lib.hid (blink HB2.out b3)
    clear b3
    go_wp2_with fail
    go_ret
    exact ⟨rfl, HB3.out⟩
  · go_wp2_with fail
    go_ret
    exact ⟨rfl, HB2.out⟩

set_option maxHeartbeats 4000000 in
set_option maxRecDepth 100000 in
theorem joins_any (Bi Bl b g len cap capq k : Nat) (x : Int) (ps : List Tri) (qs : List Int) (hl : ps.length = len) (hql : qs.length = len) (h10 : len ≤ 10) (hk : k < len) (hx : qs.getD k 0 = x) (w : World) (hI : w.cell? ⟨Bi, 0, none⟩ = some (insF Bl)) (hB : w.cell? ⟨Bl, 0, none⟩ = some (.slice (some ⟨b, 0, none⟩) len cap)) (hc : CellsB w b ps) (hq : Cells w g qs) :
    Calls Try.prog 17 #[.slice (some ⟨g, 0, none⟩) k capq, .int .i64 x, nstF Bi] w fun e w' => e = .returned (.bool (pldB ps qs k)) ∧ Below w.heap.size w w' := by
  have HN : Hid (∀ (i : Nat) W, i < k → Below w.heap.size w W → Calls Try.prog 24 #[.int .i64 i, .int .i64 k, .pointer (some ⟨Bi, 0, none⟩)] W fun e w' => e = .returned (.bool (nstB ps i k)) ∧ Below W.heap.size W w') := Lib.hid (fun i W hi hW =>
    nst_any Bi Bl b len cap i k ps hl h10 (by omega) hk W ((hW.cell (p := ⟨Bi, 0, none⟩) (World.block_lt_of_cell? w _ hI)).trans hI) ((hW.cell (p := ⟨Bl, 0, none⟩) (World.block_lt_of_cell? w _ hB)).trans hB) (hc.below hW))
  have HQ := Lib.hid hq
  have HX := Lib.hid hx
  have HQL := Lib.hid hql
  clear hI hB hc hq hx hl hql
  go_enter Try.func17, Try.ntmps17
  go_wp2_with fail
  go_loopw [14] (fun i wr => ∃ m : Nat, m ≤ k ∧ i = .int .i64 m ∧ getTo ps qs k m ∧ Below w.heap.size w wr) (fun i _ => k - (intOf i).toNat)
  case atStart => exact ⟨0, Nat.zero_le _, rfl, getTo.zero ps qs k, Below.refl _ _⟩
  case round =>
    obtain ⟨m, hm, rfl, hg, hnx⟩ := hrel
    have HG := Lib.hid hg
    have HB := Lib.hid hnx
    by_cases hlt : m < k
    · have hml : (m : Int) < (k : Int) := by omega
      have cq := (HQ.out.below hnx) m (by rw [HQL.out]; omega)
      have HNK := Lib.hid (HN.out m wr hlt hnx)
      have HON : Hid (getsOn ps qs k m ↔ (qs.getD m 0 = x → nstB ps m k = true)) := Lib.hid (by unfold getsOn; rw [HX.out])
      obtain ⟨y, hy⟩ : ∃ y, qs.getD m 0 = y := ⟨_, rfl⟩
      rw [hy] at cq HON
      obtain ⟨r, hr⟩ : ∃ r, nstB ps m k = r := ⟨_, rfl⟩
      rw [hr] at HNK HON
      clear hy hr hg hnx
      by_cases e : y = x
      · have t1 : (y == x) = true := by simp [e]
        cases r
        · have HF : Hid (pldB ps qs k = false) := Lib.hid (pldB_bad hlt (fun h => by have := HON.out.1 h e; cases this))
          clear e
          go_wp2_with fail
          refine HNK.out.mono ?_
          rintro e w2 ⟨rfl, b2⟩
          have HB2 := Lib.hid (blink HB.out b2)
          clear b2
          go_wp2_with fail
          go_ret
          exact ⟨ret_bool HF.out.symm, HB2.out⟩
        · have HS := Lib.hid (HG.out.succ (HON.out.2 (fun _ => rfl)))
          clear e
          go_wp2_with fail
          refine HNK.out.mono ?_
          rintro e w2 ⟨rfl, b2⟩
          have HB2 := Lib.hid (blink HB.out b2)
          clear b2
          go_wp2_with fail
          go_roundw
          case rel => exact ⟨m + 1, by omega, by go_num, HS.out, HB2.out⟩
          case measure => simp [intOf]; omega
      · have t1 : (y == x) = false := by simp [e]
        have HS := Lib.hid (HG.out.succ (HON.out.2 (fun h => absurd h e)))
        clear e
        go_wp2_with fail
        go_roundw
        case rel => exact ⟨m + 1, by omega, by go_num, HS.out, HB.out⟩
        case measure => simp [intOf]; omega
    · have hk' : m = k := by omega
      have hml : ¬ (m : Int) < (k : Int) := by omega
      have HT : Hid (pldB ps qs k = true) := Lib.hid (pldB_true (hk' ▸ HG.out))
      clear hk' hg hnx
      go_wp2_with fail
      go_ret
      exact ⟨ret_bool HT.out.symm, HB.out⟩

set_option maxHeartbeats 4000000 in
set_option maxRecDepth 100000 in
theorem icp_any (v : Value) (gq lq : Nat) (ps : List Tri) (qs : List Int) (w : World) (hv : ReadsB w v ps) (hu : ReadsI w (.slice (some ⟨gq, 0, none⟩) lq lq) qs) (hfit : All8 ps) (hx : ps.length ≤ 1048576) (hy : qs.length ≤ 1048576) :
    Calls Try.prog 8 #[v, .slice (some ⟨gq, 0, none⟩) lq lq] w fun e w' => e = .returned (.tuple #[.bool (cpB ps qs), .int .i64 (cpC ps)]) ∧ Below w.heap.size w w' := by
  have HV := Lib.hid hv
  have HU := Lib.hid hu
  have HCK := Lib.hid (ivldX_any v ps w hv hfit hx)
  obtain ⟨a, cap, rfl, ha⟩ := hv
  have HLQ : Hid (qs.length = lq) := Lib.hid (by obtain ⟨_, _, e, _⟩ := hu; injection e with e1 e2 e3; exact e2.symm)
  have hc : qs ≠ [] → Cells w gq qs := fun h => by
    obtain ⟨a2, cap2, e, h2⟩ := hu
    obtain ⟨b2, rfl, h3⟩ := h2 h
    injection e with e1 e2 e3
    injection e1 with e1
    injection e1 with e1
    rw [e1]; exact h3
  have HA := Lib.hid ha
  have HC := Lib.hid hc
  obtain ⟨len, hlen⟩ : ∃ n, ps.length = n := ⟨_, rfl⟩
  have HL := Lib.hid hlen
  rw [hlen] at HV HCK hx ⊢
  rw [HLQ.out] at hy
  clear ha hc hlen hu
  cases hvl : vldX ps
  · have HF := Lib.hid (cpB_inv (qs := qs) hvl)
    have HCD : Hid (cpC ps = 1) := Lib.hid (by unfold cpC; rw [hvl]; rfl)
    rw [hvl] at HCK
    clear hvl
    go_enter Try.func8, Try.ntmps8
    go_wp2_with fail
    refine HCK.out.mono ?_
    rintro e w2 ⟨rfl, b2⟩
    have HB2 := Lib.hid b2
    clear b2
    go_wp2_with fail
    go_ret2
    exact ⟨ret_bcP HF.out.symm HCD.out.symm, HB2.out⟩
  · have HCD : Hid (cpC ps = 0) := Lib.hid (by unfold cpC; rw [hvl]; rfl)
    have h10 : len ≤ 10 := by rw [← HL.out]; exact (vldX_spec hvl).1
    have HVL := Lib.hid hvl
    rw [hvl] at HCK
    clear hvl
    by_cases hle : lq = len
    · subst hle
      go_enter Try.func8, Try.ntmps8
      go_wp2_with fail
      refine HCK.out.mono ?_
      rintro e w2 ⟨rfl, b2⟩
      have HB2 := Lib.hid b2
      clear b2
      go_wp2_with fail
      refine (nesting_any _ _ _ w2).mono ?_
      rintro e w3 ⟨rfl, b3, B1, B2⟩
      have HB3 := Lib.hid (blink HB2.out b3)
      have H1 := Lib.hid B1
      have H2 := Lib.hid B2
      clear b3 B1 B2
      go_wp2_with fail
      go_loopw [25] (fun i wr => ∃ k : Nat, k ≤ lq ∧ i = .int .i64 k ∧ rowTo ps qs k ∧ Below w3.heap.size w3 wr) (fun i _ => lq - (intOf i).toNat)
      case atStart => exact ⟨0, Nat.zero_le _, rfl, rowTo.zero ps qs, Below.refl _ _⟩
      case round =>
        obtain ⟨k, hk, rfl, hg, hnx⟩ := hrel
        have HG := Lib.hid hg
        have HB := Lib.hid hnx
        by_cases hlt : k < lq
        · have hkl : (k : Int) < (lq : Int) := by omega
          have hk0 : (0 : Int) ≤ (k : Int) := by omega
          obtain ⟨b, rfl, hcb⟩ := HA.out (by intro e; have := HL.out; rw [e] at this; simp at this; omega)
          have hcq := HC.out (by intro e; have := HLQ.out; rw [e] at this; simp at this; omega)
          have hbw := blink HB3.out hnx
          have cq := (hcq.below hbw) k (by rw [HLQ.out]; exact hlt)
          have HJ : Hid (∀ x, qs.getD k 0 = x → Calls Try.prog 17 #[.slice (some ⟨gq, 0, none⟩) k lq, .int .i64 x, nstF (w2.heap.size + 1)] wr fun e w' => e = .returned (.bool (pldB ps qs k)) ∧ Below wr.heap.size wr w') := Lib.hid (fun x hx =>
            joins_any (w2.heap.size + 1) w2.heap.size b gq lq cap lq k x ps qs HL.out HLQ.out h10 hlt hx wr ((H2.out.below hnx).at 0) ((H1.out.below hnx).at 0) (hcb.below hbw) (hcq.below hbw))
          have HON : Hid (rowOn ps qs k ↔ (0 ≤ qs.getD k 0 ∧ qs.getD k 0 ≤ 9) ∧ pldB ps qs k = true) := Lib.hid Iff.rfl
          obtain ⟨x, hxx⟩ : ∃ x, qs.getD k 0 = x := ⟨_, rfl⟩
          have HJX := Lib.hid (HJ.out x hxx)
          rw [hxx] at cq HON
          obtain ⟨r, hr⟩ : ∃ r, pldB ps qs k = r := ⟨_, rfl⟩
          rw [hr] at HJX HON
          have HBAD : Hid (¬ rowOn ps qs k → cpB ps qs = false) := Lib.hid (fun h => cpB_bad (by rw [HLQ.out]; exact hlt) h)
          clear hxx hr hg hnx hcb hcq hbw HJ
          by_cases h0 : x < 0
          · have t0 : decide (x < 0) = true := decide_eq_true h0
            have HF := Lib.hid (HBAD.out (fun h => by have := (HON.out.1 h).1.1; omega))
            have HBF := Lib.hid (blink HB3.out HB.out)
            go_wp2_with fail
            go_ret2
            exact ⟨ret_bcP HF.out.symm HCD.out.symm, HBF.out⟩
          have t0 : decide (x < 0) = false := decide_eq_false h0
          by_cases h9 : 10 ≤ x
          · have t9 : decide (10 ≤ x) = true := decide_eq_true h9
            have HF := Lib.hid (HBAD.out (fun h => by have := (HON.out.1 h).1.2; omega))
            have HBF := Lib.hid (blink HB3.out HB.out)
            go_wp2_with fail
            go_ret2
            exact ⟨ret_bcP HF.out.symm HCD.out.symm, HBF.out⟩
          have t9 : decide (10 ≤ x) = false := decide_eq_false h9
          have h99 : ¬ x ≥ 10 := h9
          cases r
          · have HF := Lib.hid (HBAD.out (fun h => by have := (HON.out.1 h).2; cases this))
            go_wp2_with fail
            refine HJX.out.mono ?_
            rintro e w5 ⟨rfl, b5⟩
            have HBF := Lib.hid (blink HB3.out (blink HB.out b5))
            clear b5
            go_wp2_with fail
            go_ret2
            exact ⟨ret_bcP HF.out.symm HCD.out.symm, HBF.out⟩
          · have HS := Lib.hid (HG.out.succ (HON.out.2 ⟨⟨by omega, by omega⟩, rfl⟩))
            go_wp2_with fail
            refine HJX.out.mono ?_
            rintro e w5 ⟨rfl, b5⟩
            have HB5 := Lib.hid (blink HB.out b5)
            clear b5
            go_wp2_with fail
            go_roundw
            case rel => exact ⟨k + 1, by omega, by go_num, HS.out, HB5.out⟩
            case measure => simp [intOf]; omega
        · have hk' : k = lq := by omega
          have hkl : ¬ (k : Int) < (lq : Int) := by omega
          have HT : Hid (cpB ps qs = true) := Lib.hid (cpB_all HVL.out (by rw [HL.out, HLQ.out]) (by rw [HLQ.out, ← hk']; exact HG.out))
          have HBF := Lib.hid (blink HB3.out hnx)
          clear hk' hg hnx
          go_wp2_with fail
          go_ret2
          exact ⟨ret_bcP HT.out.symm HCD.out.symm, HBF.out⟩
    · have HF : Hid (cpB ps qs = false) := Lib.hid (cpB_len (by rw [HL.out, HLQ.out]; exact hle))
      have t1 : ((lq : Int) == (len : Int)) = false := by simp; omega
      have t2 : ((lq : Int) != (len : Int)) = true := by simp; omega
      clear hle
      go_enter Try.func8, Try.ntmps8
      go_wp2_with fail
      refine HCK.out.mono ?_
      rintro e w2 ⟨rfl, b2⟩
      have HB2 := Lib.hid b2
      clear b2
      go_wp2_with fail
      go_ret2
      exact ⟨ret_bcP HF.out.symm HCD.out.symm, HB2.out⟩
end Go.Proofs.Ytgdekplkadnmpaa
