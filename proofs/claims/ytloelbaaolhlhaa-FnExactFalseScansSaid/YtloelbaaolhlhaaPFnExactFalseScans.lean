/-
  'FnExactFalseScans' answers true at every input, and leaves all memory that was there as it was. Conditions: none beyond the row's own.
-/
import Derived.Test.YtloelbaaolhlhaaRows
import Derived.ProofKit
import Derived.OpenShut
import Derived.ShutString
import Derived.ChangeOld
import Derived.Below
import Derived.Deep.SlicePairs
import Derived.Lib.SmallJoins
import Derived.Test.YtloelbaaolhlhaaONet
import Derived.Test.YtloelbaaolhlhaaOScan
import Derived.Test.YtloelbaaolhlhaaTkJ
import Derived.Test.YtloelbaaolhlhaaRScan
import Derived.Test.YtloelbaaolhlhaaBlk
import Derived.Laws.AppendOwnNone
import Derived.Test.YtloelbaaolhlhaaScP
import Derived.Test.YtloelbaaolhlhaaRel
import Derived.Test.YtloelbaaolhlhaaScS
import Derived.Test.YtloelbaaolhlhaaNtL
import Derived.Test.YtloelbaaolhlhaaKeepO
import Derived.Test.YtloelbaaolhlhaaNtA
import Derived.Test.YtloelbaaolhlhaaTScan
import Derived.Test.YtloelbaaolhlhaaToI
import Derived.Test.YtloelbaaolhlhaaEScan
import Derived.Test.YtloelbaaolhlhaaMScan
/-
  The program's CheckScans and FirstBadScan.
-/
namespace Go.Proofs.Ytloelbaaolhlhaa
open Go Go.RowKit
set_option linter.unusedVariables false

theorem KeptBut.setCell {M : Nat} {w w' : World} (h : KeptBut M w w') (p : Addr) (u : Value) (hp : p.block = M) : KeptBut M w (w'.setCell p u) :=
  ⟨h.1.setCell (by rw [hp]; exact Nat.le_refl _) u, by have := h.2.1; simpa using this, fun b hb hne => (heap_setCell_other w' p b u (by rw [hp]; exact hne)).trans (h.2.2 b hb hne)⟩

set_option maxHeartbeats 1000000 in
set_option maxRecDepth 100000 in
theorem itrk_any (st sy : Int) (v : Value) (ps : List Lan) (w : World) (hok : okNet st sy ps) (hv : ReadsLa w v ps) :
    Calls Try.prog 74 #[netV st sy v] w fun e w' => ∃ au cu M, e = .returned (trkV au (hopsL sy ps).length cu M) ∧ ReadsLa w' (.slice au (hopsL sy ps).length cu) (hopsL sy ps) ∧ ownsT w' M 0 (.map []) ∧ w.heap.size ≤ M ∧ Below w.heap.size w w' := by
  have HOK := Lib.hid hok
  have hb1 : Below w.heap.size w ((w.alloc (.cells #[.int .i8 st, .int .i16 sy, v] 35)).alloc (.cells #[.slice none 0 0, .map none] 109)) := ((Below.refl _ _).alloc (Nat.le_refl _) _).alloc (by simp) _
  have BN : BlkA ((w.alloc (.cells #[.int .i8 st, .int .i16 sy, v] 35)).alloc (.cells #[.slice none 0 0, .map none] 109)) w.heap.size 35 #[.int .i8 st, .int .i16 sy, v] := (BlkA.new rfl _ _).alloc _
  have BT : BlkA ((w.alloc (.cells #[.int .i8 st, .int .i16 sy, v] 35)).alloc (.cells #[.slice none 0 0, .map none] 109)) (w.heap.size + 1) 109 #[.slice none 0 0, .map none] := BlkA.new (by simp) _ _
  obtain ⟨W1, hW⟩ : ∃ W, ((w.alloc (.cells #[.int .i8 st, .int .i16 sy, v] 35)).alloc (.cells #[.slice none 0 0, .map none] 109)) = W := ⟨_, rfl⟩
  rw [hW] at hb1 BN BT
  have HW := Lib.hid hW
  have HV1 := Lib.hid (hv.below hb1)
  have HB1 := Lib.hid hb1
  have HBT := Lib.hid BT
  have n0 := BN.at 0
  have n1 := BN.at 1
  have n2 := BN.at 2
  obtain ⟨l, hl⟩ : ∃ l, (hopsL sy ps).length = l := ⟨_, rfl⟩
  have HLN := Lib.hid hl
  rw [hl]
  clear hW hb1 BN BT hok hv hl
  go_enter Try.func74, Try.ntmps74
  go_wp2_with fail
  rw [HW.out]
  go_wp2_with fail
  refine (ihops_any st sy v ps W1 HOK.out HV1.out).mono ?_
  rintro e w3 ⟨u, rfl, o3, b3⟩
  have hfar : ∃ au cu, u = .slice au (hopsL sy ps).length cu ∧ (hopsL sy ps ≠ [] → ∃ b, au = some ⟨b, 0, none⟩ ∧ W1.heap.size ≤ b ∧ CellsLa w3 b (hopsL sy ps)) := by
    rcases o3.cases with ⟨rfl, h0⟩ | ⟨g, cap, rfl, hB, _, _, _, hc, _⟩
    · exact ⟨none, 0, by rw [h0]; rfl, fun h => absurd h0 h⟩
    · exact ⟨_, cap, rfl, fun _ => ⟨g, rfl, hB, hc⟩⟩
  obtain ⟨au, cu, rfl, hfc⟩ := hfar
  have HFC := Lib.hid hfc
  rw [HLN.out]
  have hs1 : W1.heap.size = w.heap.size + 1 + 1 := by rw [← HW.out]; simp
  have hs13 : W1.heap.size ≤ w3.heap.size := b3.size
  have hk4 : KeptBut (w.heap.size + 1) w3 (w3.alloc (.map #[] 0)) := KeptBut.of_below ((Below.refl _ _).alloc (Nat.le_refl _) _) (by omega)
  have hb4 : Below w3.heap.size w3 (w3.alloc (.map #[] 0)) := (Below.refl _ _).alloc (Nat.le_refl _) _
  have hm4 : ownsT (w3.alloc (.map #[] 0)) w3.heap.size 0 (.map []) := World.ownsMap_made w3 _ _ _
  have BT4 := (HBT.out.below b3).below hb4
  obtain ⟨W4, hW4⟩ : ∃ W, w3.alloc (.map #[] 0) = W := ⟨_, rfl⟩
  rw [hW4] at hb4 hm4 BT4 hk4
  have HW4 := Lib.hid hW4
  have HB4 := Lib.hid (blink (blink HB1.out b3) hb4)
  have HM4 := Lib.hid hm4
  have HK4 := Lib.hid hk4
  have HBT4 := Lib.hid BT4
  have t0 := BT4.at 0
  have t1 := BT4.at 1
  have f0 := BlkA.frozen BT4 0
  have f1 := BlkA.frozen BT4 1
  have hs3 : w.heap.size ≤ w3.heap.size := (blink HB1.out b3).size
  have hmm := run_makeMap (P := Try.prog) 107 w3
  rw [HW4.out] at hmm
  clear o3 hfc hb4 hm4 BT4 hk4 hW4 b3
  go_wp2_with fail
  clear hmm
  have hkf := (HK4.out.setCell ⟨w.heap.size + 1, 0, none⟩ (.slice au l cu) rfl).setCell ⟨w.heap.size + 1, 1, none⟩ (.map (some w3.heap.size)) rfl
  have hbf : Below w.heap.size w ((W4.setCell ⟨w.heap.size + 1, 0, none⟩ (.slice au l cu)).setCell ⟨w.heap.size + 1, 1, none⟩ (.map (some w3.heap.size))) := (HB4.out.setCell (by simp) _).setCell (by simp) _
  have hof : ownsT ((W4.setCell ⟨w.heap.size + 1, 0, none⟩ (.slice au l cu)).setCell ⟨w.heap.size + 1, 1, none⟩ (.map (some w3.heap.size))) w3.heap.size 0 (.map []) := (HM4.out.setCell (a := ⟨w.heap.size + 1, 0, none⟩) (by simp; omega) _).setCell (a := ⟨w.heap.size + 1, 1, none⟩) (by simp; omega) _
  have hcf : BlkA ((W4.setCell ⟨w.heap.size + 1, 0, none⟩ (.slice au l cu)).setCell ⟨w.heap.size + 1, 1, none⟩ (.map (some w3.heap.size))) (w.heap.size + 1) 109 #[.slice au l cu, .map (some w3.heap.size)] := by
    have h := (HBT4.out.set 0 (.slice au l cu)).set 1 (.map (some w3.heap.size))
    simpa using h
  obtain ⟨W5, hW5⟩ : ∃ W, ((W4.setCell ⟨w.heap.size + 1, 0, none⟩ (.slice au l cu)).setCell ⟨w.heap.size + 1, 1, none⟩ (.map (some w3.heap.size))) = W := ⟨_, rfl⟩
  rw [hW5] at hkf hbf hof hcf ⊢
  have c0 := hcf.at 0
  have c1 := hcf.at 1
  clear t0 t1 f0 f1 hW5
  refine bodyPost_ret (v := trkV au l cu w3.heap.size) (by simp [results, Try.results74, go_sem, c0, c1]) rfl ⟨au, cu, _, rfl, ?_, hof, hs3, hbf⟩
  refine ⟨au, cu, by rw [HLN.out], fun hne => ?_⟩
  obtain ⟨b, e, hb, hc⟩ := HFC.out hne
  have hne2 : b ≠ w.heap.size + 1 := by omega
  refine ⟨b, e, fun i hi => ?_⟩
  obtain ⟨h0, h1, h2, h3⟩ := hc i hi
  exact ⟨hkf.cell hne2 h0, hkf.cell hne2 h1, hkf.cell hne2 h2, hkf.cell hne2 h3⟩
end Go.Proofs.Ytloelbaaolhlhaa
/-
  slices.Grow at nil, and slices.Concat of two views, at scans.
-/
namespace Go.Proofs.Ytloelbaaolhlhaa
open Go Go.RowKit
set_option linter.unusedVariables false

theorem run_append_zeros {P : Program} {w : World} (t k ty e : TypeId) (i : TypeInfo) (z : Value) (n : Nat) (ht : P.underlying t = some (.slice e)) (hk : P.underlying k = some (.int .i64)) (hi : P.info? e = some i) (hz : i.zero = some z) (hs : 0 < i.size)
    (h0 : 0 < n) (h63 : n ≤ 100000) (hb : i.bytes ≤ 1000) :
    (Builtin.append_ #[t, k] ty #[.slice none 0 0, .int .i64 n]).run P w =
      .ok (.slice (some ⟨w.heap.size, 0, none⟩) n (grownCap w n 0 e)) (w.drew.alloc (.cells (Builtin.zeroCells z.cells n ++ Builtin.zeroCells z.cells (grownCap w n 0 e - n)) e)) := by
  have hn : n ≠ 0 := by omega
  have hns : n * i.size ≠ 0 := Nat.mul_ne_zero hn (by omega)
  have hb2 : n * i.bytes ≤ 100000000 := Nat.mul_le_mul h63 hb
  have hw : IntKind.i64.wrap (n : Int) = (n : Int) := IntWalk.i64_in _ (by omega)
  have h48 : ¬ (281474976710656 < Builtin.nextslicecap n 0 * i.bytes) := by rw [nextslicecap_zero h0]; omega
  have h48' : ¬ ((281474976710656 : Int) < (n : Int) * (i.bytes : Int)) := by
    have : (n : Int) * (i.bytes : Int) = ((n * i.bytes : Nat) : Int) := by simp
    rw [this]; omega
  have hneg : ¬ ((n : Int) < 0) := by omega
  have h63' : ¬ (9223372036854775807 < (n : Int)) := by omega
  simp [Builtin.append_, run_underlying ht, run_underlying hk, sizeOf, typeInfo, zeroValue, hi, hz, Builtin.firstCells, hn, hns, hw, h48, h48', hneg, h63', Question.forced, newRow, grownCap, asInt, asIntOf]

theorem wpList_append_zeros {P : Program} {ops : Array Oper} {rest : List Oper} {o : Oper} {a : Act} {w : World} {Q : Exit → Act → World → Prop} (hgd : o.guard = none) (s x : Operand) (t k : TypeId)
    (ho : o.op = .call { callee := .builtin .append, args := #[s, x], argTypes := #[t, k] })
    (e : TypeId) (i : TypeInfo) (z : Value) (n : Nat) (ht : P.underlying t = some (.slice e)) (hk : P.underlying k = some (.int .i64)) (hi : P.info? e = some i) (hz : i.zero = some z) (hs : 0 < i.size)
    (h0 : 0 < n) (h63 : n ≤ 100000) (hb : i.bytes ≤ 1000) (hes : a.eval s = .slice none 0 0) (hex : a.eval x = .int .i64 n)
    (h : wpList P ops Q rest (a.put o.dst (.slice (some ⟨w.heap.size, 0, none⟩) n (grownCap w n 0 e))) (w.drew.alloc (.cells (Builtin.zeroCells z.cells n ++ Builtin.zeroCells z.cells (grownCap w n 0 e - n)) e))) : wpList P ops Q (o :: rest) a w := by
  refine wpList_plain hgd fun K hK => ?_
  have hr := run_append_zeros (P := P) (w := w) t k o.type e i z n ht hk hi hz hs h0 h63 hb
  unfold Oper.wp execOp
  simp only [ho, resolve, invoke, builtin, Sem.run_bind, Sem.run_pure, Result.andThen_ok, List.map_toArray, List.map_cons, List.map_nil, hes, hex, hr]
  exact hK _ _ h

theorem infoC_Sc : (Try.prog.info? 37).map (fun i => (i.zero, i.size, i.bytes)) = some (some (.agg #[.int .i8 0, .int .i16 0]), 2, 4) := by kernel_rfl

set_option maxHeartbeats 600000 in
set_option maxRecDepth 100000 in
theorem igrow_any (n : Nat) (hn : n ≤ 1000) (w : World) :
    Calls Try.prog 123 #[.slice none 0 0, .int .i64 n] w fun e w' => ∃ v, e = .returned v ∧ OwnSc 37 w.heap.size w' v [] ∧ Below w.heap.size w w' := by
  obtain ⟨i0, hi, hz0, hz1, hz2⟩ := info_parts infoC_Sc
  by_cases h0 : n = 0
  · subst h0
    go_enter Try.func123, Try.ntmps123
    go_wp2_with fail
    go_ret
    exact ⟨_, rfl, World.ownsRow_nil _ _ _ _, Below.refl _ _⟩
  · have hp : 0 < n := by omega
    have hpi : (0 : Int) < (n : Int) := by omega
    have hni : (n : Int) ≤ 1000 := by omega
    go_enter Try.func123, Try.ntmps123
    go_wp2_with (at_builtin; refine wpList_append_zeros rfl _ _ 55 3 rfl 37 i0 (.agg #[.int .i8 0, .int .i16 0]) n Try.underlying55 Try.underlying3 hi hz0 (by omega) hp (by omega) (by omega) rfl rfl ?_)
    have hc := grownCap_ge w n 0 37
    have hmx := grownCap_le_maxLen w n 0 37 (by unfold maxLen; omega)
    obtain ⟨cp, hcp⟩ : ∃ c, grownCap w n 0 37 = c := ⟨_, rfl⟩
    rw [hcp] at hc hmx ⊢
    have hsz : (Builtin.zeroCells #[Value.int .i8 0, .int .i16 0] n ++ Builtin.zeroCells #[Value.int .i8 0, .int .i16 0] (cp - n)).size = cp * 2 := by
      simp [Builtin.zeroCells]; omega
    have hown := World.ownsRow_made (base := w.heap.size) (e := 37) (size := 2) w _ cp (Nat.le_refl _) hmx hsz
    go_ret
    exact ⟨_, rfl, hown, ((Below.refl _ _).alloc (Nat.le_refl _) _).drew⟩

/-- A slice, wherever it points, whose elements can be read. -/
def ViewSc (w : World) (u : Value) (xs : List (Int × Int)) : Prop := ∃ (ad : Addr) (c : Nat), u = .slice (some ad) xs.length c ∧ ∀ j v, (flatSc xs)[j]? = some v → w.cell? (ad.add j) = some v
theorem ViewSc.below {w w' : World} {u : Value} {xs : List (Int × Int)} (h : ViewSc w u xs) (hb : Below w.heap.size w w') : ViewSc w' u xs := by
  obtain ⟨ad, c, rfl, hc⟩ := h
  exact ⟨ad, c, rfl, fun j v hj => (hb.cell (World.block_lt_of_cell? w _ (hc j v hj))).trans (hc j v hj)⟩
theorem flatV_ones (ps : List (Int × Int)) : ∀ u ∈ flatSc ps, u.oneCell' = true := by
  intro u hu
  obtain ⟨p, _, hm⟩ := List.mem_flatMap.1 (show u ∈ ps.flatMap encSc from hu)
  simp [encSc] at hm
  rcases hm with rfl | rfl <;> rfl
/-- An append of a view to a row of the call's own. -/
theorem wpList_append_view {ops : Array Oper} {rest : List Oper} {o : Oper} {a : Act} {w : World} {Q : Exit → Act → World → Prop} (hgd : o.guard = none) (s x : Operand)
    (ho : o.op = .call { callee := .builtin .append, args := #[s, x], argTypes := #[55, 55] }) (B : Nat) (v u : Value) (zs ys : List (Int × Int)) (hes : a.eval s = v) (hex : a.eval x = u)
    (hown : OwnSc 37 B w v zs) (hview : ViewSc w u ys) (hz : zs.length ≤ 100000) (hy : ys.length ≤ 100000) (hB : B ≤ w.heap.size)
    (h : ∀ v' w', OwnSc 37 B w' v' (zs ++ ys) → w.grownBy w' v.ownBlock → wpList Try.prog ops Q rest (a.put o.dst v') w') : wpList Try.prog ops Q (o :: rest) a w := by
  obtain ⟨i0, hi, hz0, hz1, hz2⟩ := info_parts infoC_Sc
  obtain ⟨ad, c, rfl, hc⟩ := hview
  exact wpList_append_own w hgd _ _ 55 ho B 37 i0 (.agg #[.int .i8 0, .int .i16 0]) 2 4 Try.underlying55 hi hz0 hz1 hz2 rfl (by decide) v zs.length (flatSc zs) hes hown ad ys.length c (flatSc ys) hex (flatSc_length ys) hc (flatV_ones ys) (by unfold maxLen; omega) (by omega) hB (fun v' w' h1 h2 _ => h v' w' (by unfold OwnSc; rw [List.length_append, flatSc_append]; exact h1) h2)

set_option maxHeartbeats 2000000 in
set_option maxRecDepth 100000 in
theorem iconc_any (B : Nat) (u0 u1 : Value) (xs ys : List (Int × Int)) (T : TypeId) (w : World) (hx : xs.length ≤ 100) (hy : ys.length ≤ 100) (h0 : ViewSc w u0 xs) (h1 : ViewSc w u1 ys) (hb : BlkA w B T #[u0, u1]) :
    Calls Try.prog 89 #[.slice (some ⟨B, 0, none⟩) 2 2] w fun e w' => ∃ v, e = .returned v ∧ OwnSc 37 w.heap.size w' v (xs ++ ys) ∧ Below w.heap.size w w' := by
  obtain ⟨i0, hi, hz0, hz1, hz2⟩ := info_parts infoC_Sc
  have HB0 := Lib.hid hb
  have H0 := Lib.hid h0
  have H1 := Lib.hid h1
  obtain ⟨a0, c0, rfl, hv0⟩ := h0
  obtain ⟨a1, c1, rfl, hv1⟩ := h1
  obtain ⟨n, hn⟩ : ∃ n, xs.length = n := ⟨_, rfl⟩
  obtain ⟨m, hm⟩ : ∃ m, ys.length = m := ⟨_, rfl⟩
  have HN := Lib.hid hn
  have HM := Lib.hid hm
  rw [hn] at hx HB0
  rw [hm] at hy HB0
  rw [hn, hm] at hb
  have e0 := hb.at 0
  have e1 := hb.at 1
  obtain ⟨q, hq⟩ : ∃ q, n + m = q := ⟨_, rfl⟩
  have HQ := Lib.hid hq
  have hq2 : q ≤ 200 := by omega
  clear hv0 hv1 hn hm hb hq
  go_enter Try.func89, Try.ntmps89
  go_wp2_with fail
  go_loopw [3, 11] (fun s i wr => ∃ k : Nat, k ≤ 2 ∧ i = .int .i64 k ∧ ((k = 0 ∧ s = .int .i64 0) ∨ (k = 1 ∧ s = .int .i64 n) ∨ (k = 2 ∧ s = .int .i64 (q : Int))) ∧ wr = w) (fun _ i _ => 2 - (intOf i).toNat)
  case atStart => exact ⟨0, by omega, rfl, .inl ⟨rfl, rfl⟩, rfl⟩
  case round =>
    obtain ⟨k, hk, rfl, hks, hwr⟩ := hrel
    have hwr2 := hwr.symm
    clear hwr
    subst hwr2
    rcases hks with ⟨rfl, rfl⟩ | ⟨rfl, rfl⟩ | ⟨rfl, rfl⟩
    · have t1 : (0 : Int) ≤ (n : Int) := by omega
      go_wp2_with fail
      go_roundw
      case rel => exact ⟨1, by omega, by go_num, .inr (.inl ⟨rfl, by go_num⟩), (by first | rfl | trivial)⟩
      case measure => simp [intOf]
    · have t1 : (0 : Int) ≤ (n : Int) + (m : Int) := by omega
      go_wp2_with fail
      go_roundw
      case rel => exact ⟨2, by omega, by go_num, .inr (.inr ⟨rfl, by rw [← HQ.out]; go_num⟩), (by first | rfl | trivial)⟩
      case measure => simp [intOf]
    · have HG := Lib.hid (igrow_any q (by omega) w)
      clear HQ
      go_wp2_with fail
      refine HG.out.mono ?_
      rintro e w2 ⟨v2, rfl, o2, b2⟩
      have HO2 := Lib.hid o2
      have HB2 := Lib.hid b2
      clear o2 b2 HG e0 e1
      go_wp2_with fail
      go_loopw [6, 27] (fun s i wr => ∃ k : Nat, k ≤ 2 ∧ i = .int .i64 k ∧ ((k = 0 ∧ OwnSc 37 w.heap.size wr s []) ∨ (k = 1 ∧ OwnSc 37 w.heap.size wr s xs) ∨ (k = 2 ∧ OwnSc 37 w.heap.size wr s (xs ++ ys))) ∧ Below w.heap.size w wr) (fun _ i _ => 2 - (intOf i).toNat)
      case atStart => exact ⟨0, by omega, rfl, .inl ⟨rfl, HO2.out⟩, HB2.out⟩
      case round =>
        obtain ⟨k, hk, rfl, hks, hnx⟩ := hrel
        have HB := Lib.hid hnx
        have hsz : w.heap.size ≤ wr.heap.size := hnx.size
        have e0 := (HB0.out.below hnx).at 0
        have e1 := (HB0.out.below hnx).at 1
        clear hnx
        rcases hks with ⟨rfl, ho⟩ | ⟨rfl, ho⟩ | ⟨rfl, ho⟩
        · have HO := Lib.hid ho
          have HV := Lib.hid (H0.out.below HB.out)
          rw [HN.out] at HV
          clear ho
          go_wp2_with (at_builtin; refine wpList_append_view rfl _ _ rfl w.heap.size _ _ [] xs rfl rfl HO.out HV.out (by simp) (by rw [HN.out]; omega) hsz ?_)
          intro v' w3 ho' hg'
          have HO' := Lib.hid ho'
          have HB' : Hid (Below w.heap.size w w3) := Lib.hid (HB.out.grown hg' hsz (fun i hi => (HO.out.block i hi).1))
          clear ho' hg' e0 e1
          go_wp2_with fail
          go_roundw
          case rel => exact ⟨1, by omega, by go_num, .inr (.inl ⟨rfl, by simpa using HO'.out⟩), HB'.out⟩
          case measure => simp [intOf]
        · have HO := Lib.hid ho
          have HV := Lib.hid (H1.out.below HB.out)
          rw [HM.out] at HV
          clear ho
          go_wp2_with (at_builtin; refine wpList_append_view rfl _ _ rfl w.heap.size _ _ xs ys rfl rfl HO.out HV.out (by rw [HN.out]; omega) (by rw [HM.out]; omega) hsz ?_)
          intro v' w3 ho' hg'
          have HO' := Lib.hid ho'
          have HB' : Hid (Below w.heap.size w w3) := Lib.hid (HB.out.grown hg' hsz (fun i hi => (HO.out.block i hi).1))
          clear ho' hg' e0 e1
          go_wp2_with fail
          go_roundw
          case rel => exact ⟨2, by omega, by go_num, .inr (.inr ⟨rfl, HO'.out⟩), HB'.out⟩
          case measure => simp [intOf]
        · have HO := Lib.hid ho
          clear ho
          go_wp2_with fail
          go_ret
          exact ⟨_, rfl, HO.out, HB.out⟩
end Go.Proofs.Ytloelbaaolhlhaa
/-
  The scans without which the others are right (plain).
-/
namespace Go.Proofs.Ytloelbaaolhlhaa
open Go Go.RowKit
set_option linter.unusedVariables false

def dropI (cs : List (Int × Int)) (i : Nat) : List (Int × Int) := cs.take i ++ cs.drop (i + 1)
theorem dropI_len (cs : List (Int × Int)) (i : Nat) : (dropI cs i).length ≤ cs.length := by simp [dropI]; omega
theorem ok_mem {st : Int} {cs : List (Int × Int)} (h : OkScTo st cs cs.length) {x : Int × Int} (hx : x ∈ cs) : okSc st x := by
  obtain ⟨i, hi, e⟩ := List.getElem_of_mem hx
  have := h i hi
  simpa [List.getD, hi, e] using this
theorem dropI_ok {st : Int} {cs : List (Int × Int)} (h : OkScTo st cs cs.length) (i : Nat) : OkScTo st (dropI cs i) (dropI cs i).length := fun j hj => by
  have hm : (dropI cs i).getD j (0, 0) ∈ dropI cs i := by simp [List.getD, hj]
  rcases List.mem_append.1 hm with hm | hm
  · exact ok_mem h (List.mem_of_mem_take hm)
  · exact ok_mem h (List.mem_of_mem_drop hm)
noncomputable def fsL (yn : Int) (ps : List Lan) (cs : List (Int × Int)) : Nat → List Int
  | 0 => []
  | k + 1 => if badS yn ps (dropI cs k) < 0 then fsL yn ps cs k ++ [(k : Int)] else fsL yn ps cs k
theorem fsL_len (yn : Int) (ps : List Lan) (cs : List (Int × Int)) : ∀ k, (fsL yn ps cs k).length ≤ k
  | 0 => by simp [fsL]
  | k + 1 => by
    have := fsL_len yn ps cs k
    rw [fsL]; split
    · simp; exact this
    · omega
theorem fsL_yes {yn : Int} {ps : List Lan} {cs : List (Int × Int)} {k : Nat} (h : badS yn ps (dropI cs k) < 0) : fsL yn ps cs (k + 1) = fsL yn ps cs k ++ [(k : Int)] := if_pos h
theorem fsL_no {yn : Int} {ps : List Lan} {cs : List (Int × Int)} {k : Nat} (h : ¬ badS yn ps (dropI cs k) < 0) : fsL yn ps cs (k + 1) = fsL yn ps cs k := if_neg h
noncomputable def fsR (st sy : Int) (ps : List Lan) (cs : List (Int × Int)) : List Int := if csC st sy ps cs = 0 then fsL sy ps cs cs.length else []
theorem fsR_len (st sy : Int) (ps : List Lan) (cs : List (Int × Int)) : (fsR st sy ps cs).length ≤ 1048575 := by
  unfold fsR
  split
  · rename_i h
    have := fsL_len sy ps cs cs.length
    have := (scnC_ok h).2.2
    omega
  · simp
/-- The elements ahead of one, and those behind it, as views. -/
theorem view_take {w : World} {g c : Nat} {cs : List (Int × Int)} (hc : CellsSc w g cs) (i : Nat) (hi : i ≤ cs.length) : ViewSc w (.slice (some ⟨g, 0, none⟩) i c) (cs.take i) := by
  refine ⟨⟨g, 0, none⟩, c, by rw [List.length_take, Nat.min_eq_left hi], fun j v hj => ?_⟩
  have hjl : j < i * 2 := by
    have h := (List.getElem?_eq_some_iff.1 hj).1
    rw [flatSc_length, List.length_take] at h
    omega
  obtain ⟨q, r, rfl, hr⟩ : ∃ q r, j = q * 2 + r ∧ r < 2 := ⟨j / 2, j % 2, by omega, by omega⟩
  have hq : q < (cs.take i).length := by rw [List.length_take]; omega
  have hqc : q < cs.length := by omega
  have eg : (cs.take i).getD q (0, 0) = cs.getD q (0, 0) := by
    simp [List.getD, show q < i by omega]
  obtain ⟨h0, h1⟩ := hc q hqc
  rw [addr_add, Nat.zero_add]
  match r, hr with
  | 0, _ =>
    rw [Nat.add_zero] at hj ⊢
    rw [flatSc_0 _ q hq, eg] at hj
    rw [h0]; exact hj
  | 1, _ =>
    rw [flatSc_1 _ q hq, eg] at hj
    rw [h1]; exact hj
theorem view_drop {w : World} {g c : Nat} {cs : List (Int × Int)} (hc : CellsSc w g cs) (i : Nat) (hi : i ≤ cs.length) : ViewSc w (.slice (some ⟨g, i * 2, none⟩) (cs.length - i) c) (cs.drop i) := by
  refine ⟨⟨g, i * 2, none⟩, c, by rw [List.length_drop], fun j v hj => ?_⟩
  have hjl : j < (cs.length - i) * 2 := by
    have h := (List.getElem?_eq_some_iff.1 hj).1
    rw [flatSc_length, List.length_drop] at h
    exact h
  obtain ⟨q, r, rfl, hr⟩ : ∃ q r, j = q * 2 + r ∧ r < 2 := ⟨j / 2, j % 2, by omega, by omega⟩
  have hq : q < (cs.drop i).length := by rw [List.length_drop]; omega
  have eg : (cs.drop i).getD q (0, 0) = cs.getD (i + q) (0, 0) := by
    simp [List.getD, List.getElem?_drop]
  obtain ⟨h0, h1⟩ := hc (i + q) (by omega)
  rw [addr_add]
  match r, hr with
  | 0, _ =>
    rw [Nat.add_zero] at hj ⊢
    rw [flatSc_0 _ q hq, eg] at hj
    rw [show i * 2 + q * 2 = (i + q) * 2 by omega, h0]; exact hj
  | 1, _ =>
    rw [flatSc_1 _ q hq, eg] at hj
    rw [show i * 2 + (q * 2 + 1) = (i + q) * 2 + 1 by omega, h1]; exact hj
end Go.Proofs.Ytloelbaaolhlhaa
/-
  An append of a view to an empty row that has no room: what lay there stays.
-/
namespace Go.Proofs.Ytloelbaaolhlhaa
open Go Go.RowKit
set_option linter.unusedVariables false

theorem run_append_none {w : World} (ty : TypeId) (B : Nat) (ad : Addr) (c : Nat) : (Builtin.append_ #[55, 55] ty #[.slice (some ⟨B, 0, none⟩) 0 0, .slice (some ad) 0 c]).run Try.prog w = .ok (.slice (some ⟨B, 0, none⟩) 0 0) w := by
  obtain ⟨i0, hi, hz0, hz1, hz2⟩ := info_parts infoC_Sc
  have hu := Try.underlying55
  have hf := run_firstCells_some (P := Try.prog) w 2 0 ad 0 c [] (by simp) (by simp)
  simp [Builtin.append_, run_underlying hu, sizeOf, typeInfo, hi, hz1, Builtin.lenOf, hf, storeCells]

/-- Behind it what lay there is as it was, and the answer is a row of the call's own. -/
theorem wp_append_empty {o : Oper} {a : Act} {W : World} {K : Act → World → Prop} {Q : Exit → Act → World → Prop} (s x : Operand)
    (ho : o.op = .call { callee := .builtin .append, args := #[s, x], argTypes := #[55, 55] }) (base B : Nat) (u : Value) (ys : List (Int × Int)) (hes : a.eval s = .slice (some ⟨B, 0, none⟩) 0 0) (hex : a.eval x = u)
    (hview : ViewSc W u ys) (hy : ys.length ≤ 1000) (hB : base ≤ B) (hblk : BlkA W B 37 #[])
    (h : ∀ v' W', OwnSc 37 base W' v' ys → Below W.heap.size W W' → K (a.put o.dst v') W') : o.wp Try.prog a W K Q := by
  obtain ⟨i0, hi, hz0, hz1, hz2⟩ := info_parts infoC_Sc
  obtain ⟨ad, c, rfl, hc⟩ := hview
  by_cases h0 : ys = []
  · subst h0
    have hr := run_append_none (w := W) o.type B ad c
    unfold Oper.wp execOp
    simp only [ho, resolve, invoke, builtin, Sem.run_bind, Sem.run_pure, Result.andThen_ok, List.map_toArray, List.map_cons, List.map_nil, hes, hex, List.length_nil, hr]
    exact h _ _ ⟨by simp [flatSc, flatE], .inr ⟨B, 0, #[], rfl, hB, hblk, Nat.le_refl _, Nat.zero_le _, rfl, by simp [flatSc, flatE]⟩⟩ (Below.refl _ _)
  · have hp : 0 < ys.length := List.length_pos_iff.2 h0
    have hfit : Builtin.nextslicecap (0 + ys.length) 0 * i0.bytes ≤ 281474976710656 := by rw [Nat.zero_add, nextslicecap_zero hp, hz2]; omega
    have hr := run_append_grow (P := Try.prog) (w := W) 55 o.type 37 i0 (.agg #[.int .i8 0, .int .i16 0]) Try.underlying55 hi hz0 ⟨B, 0, none⟩ 0 0 [] (by simp) (by simp) ad ys.length c (flatSc ys) (by rw [hz1]; exact flatSc_length ys) hc (by omega) (by omega) hfit
    unfold Oper.wp execOp
    simp only [ho, resolve, invoke, builtin, Sem.run_bind, Sem.run_pure, Result.andThen_ok, List.map_toArray, List.map_cons, List.map_nil, hes, hex, hr]
    have hcg := grownCap_ge W (0 + ys.length) 0 37
    have hcm := grownCap_le_maxLen W (0 + ys.length) 0 37 (by unfold maxLen; omega)
    obtain ⟨cp, hcp⟩ : ∃ cp, grownCap W (0 + ys.length) 0 37 = cp := ⟨_, rfl⟩
    rw [hcp] at hcg hcm ⊢
    rw [Nat.zero_add] at hcg ⊢
    have hBw : base ≤ W.heap.size := Nat.le_trans hB (Nat.le_of_lt (BlkA.lt hblk))
    refine h _ _ ⟨flatSc_length ys, .inr ⟨W.heap.size, cp, _, rfl, hBw, heap_alloc_new W.drew _, hcg, hcm, ?_, ?_⟩⟩ ((Below.refl _ _).drew.alloc (Nat.le_refl _) _)
    · have hz4 : (Value.agg #[Value.int .i8 0, .int .i16 0]).cells.size = 2 := rfl
      simp [Builtin.zeroCells, flatSc_length, hz4]; omega
    · simp [flatSc_length]
end Go.Proofs.Ytloelbaaolhlhaa
/-
  The model's FalseScans.
-/
namespace Go.Proofs.Ytloelbaaolhlhaa
open Go Go.RowKit
set_option linter.unusedVariables false

set_option maxHeartbeats 2000000 in
set_option maxRecDepth 100000 in
theorem sfc_any (st sy : Int) (v : Value) (g m : Nat) (ps : List Lan) (cs : List (Int × Int)) (w : World) (hn : FitN st sy ps) (hf : FitsSc cs) (hv : ReadsLa w v ps) (hu : ReadsSc w (.slice (some ⟨g, 0, none⟩) m m) cs) (hx : cs.length ≤ 1048576) :
    Calls Try.prog 47 #[netV st sy v, .slice (some ⟨g, 0, none⟩) m m] w (RetL1 w.heap.size w (fsR st sy ps cs) (csC st sy ps cs)) := by
  obtain ⟨i0, hi, hz0, hz1, hz2⟩ := info_parts info_i64
  have HM : Hid (cs.length = m) := Lib.hid (by obtain ⟨_, _, e, _⟩ := hu; injection e with e1 e2 e3; exact e2.symm)
  have b0 : Below w.heap.size w (w.alloc (.cells #[.int .i8 st, .int .i16 sy, v] 35)) := (Below.refl _ _).alloc (Nat.le_refl _) _
  have BN0 : BlkA (w.alloc (.cells #[.int .i8 st, .int .i16 sy, v] 35)) w.heap.size 35 (netB st sy v) := BlkA.new rfl _ _
  obtain ⟨W0, hW0⟩ : ∃ W, w.alloc (.cells #[.int .i8 st, .int .i16 sy, v] 35) = W := ⟨_, rfl⟩
  rw [hW0] at b0 BN0
  have hs0 : W0.heap.size = w.heap.size + 1 := by rw [← hW0]; simp
  have ho1 : (W0.alloc (.cells #[] 2)).ownsRow W0.heap.size 2 1 (.slice (some ⟨W0.heap.size, 0, none⟩) 0 0) 0 [] := World.ownsRow_made W0 #[] 0 (Nat.le_refl _) (Nat.zero_le _) rfl
  have b1 : Below W0.heap.size W0 (W0.alloc (.cells #[] 2)) := (Below.refl _ _).alloc (Nat.le_refl _) _
  obtain ⟨W1, hW⟩ : ∃ W, W0.alloc (.cells #[] 2) = W := ⟨_, rfl⟩
  rw [hW] at b1 ho1
  have HB0 := Lib.hid b0
  have HB01 := Lib.hid b1
  have HB1 := Lib.hid (blink b0 b1)
  have HBN := Lib.hid BN0
  have HV1 := Lib.hid (hv.below (blink b0 b1))
  have HU1 := Lib.hid (hu.below (blink b0 b1))
  have HUW := Lib.hid hu
  have HVW := Lib.hid hv
  have HCHK := Lib.hid (sscans_any w.heap.size st sy v ps _ cs true W1 hn (hv.below (blink b0 b1)) (hu.below (blink b0 b1)) hf hx (BN0.below b1))
  rw [Bool.true_and] at HCHK
  rw [hs0] at ho1
  have HO1 : Hid (OwnI W0.heap.size W1 (.slice (some ⟨w.heap.size + 1, 0, none⟩) 0 0) []) := Lib.hid (by rw [hs0]; exact ho1)
  rw [← hW0] at hW
  have HW := Lib.hid hW
  clear hW hW0 b0 b1 BN0 hv hu hn hf ho1 hs0
  go_enter Try.func47, Try.ntmps47
  go_wp2_with fail
  rw [HW.out]
  refine HCHK.out.mono ?_
  rintro e w2 ⟨rfl, b2⟩
  have HB2 := Lib.hid (blink HB1.out b2)
  have HB02 := Lib.hid (blink HB01.out b2)
  have HO2 := Lib.hid (HO1.out.below b2)
  obtain ⟨c, hc⟩ : ∃ c, csC st sy ps cs = c := ⟨_, rfl⟩
  have HC := Lib.hid hc
  rw [show scnC st sy ps (scsB st cs) cs.length = csC st sy ps cs from rfl, hc]
  clear b2 HCHK hc HW HV1 HU1
  by_cases hz : c = 0
  rotate_left
  · have HR : Hid (fsR st sy ps cs = []) := Lib.hid (by unfold fsR; rw [HC.out, if_neg hz])
    have t1 : (c != 0) = true := by simp [hz]
    have t0 : (c == 0) = false := by simp [hz]
    clear hz
    go_wp2_with fail
    go_ret2
    exact ⟨_, ret_pair HC.out.symm, by rw [HR.out]; exact HO2.out.mono HB0.out.size, HB2.out⟩
  subst hz
  obtain ⟨hvl, hsb, h12⟩ := scnC_ok HC.out
  have hok := vldN_spec hvl
  have hsc : OkScTo st cs cs.length := of_decide_eq_true hsb
  have HR : Hid (fsR st sy ps cs = fsL sy ps cs cs.length) := Lib.hid (by unfold fsR; rw [if_pos HC.out])
  obtain ⟨sn, yn, rfl, rfl⟩ := net_nat hok
  have HOK := Lib.hid hok
  have HSC := Lib.hid hsc
  rw [HM.out] at HR h12
  clear hvl hsb hok hsc
  go_wp2_with fail
  go_loopw [6, 8] (fun gv i wr => ∃ k : Nat, k ≤ m ∧ i = .int .i64 k ∧ OwnI W0.heap.size wr gv (fsL (yn : Int) ps cs k) ∧ Below W0.heap.size W0 wr) (fun _ i _ => m - (intOf i).toNat)
  case atStart => exact ⟨0, Nat.zero_le _, rfl, HO2.out, HB02.out⟩
  case round =>
    obtain ⟨k, hk, rfl, hown, hnx⟩ := hrel
    obtain ⟨wo, rfl⟩ : ∃ W, W = wr := ⟨_, rfl⟩
    have HNX := Lib.hid hnx
    have HOW := Lib.hid hown
    by_cases hlt : k < m
    · have hkl : (k : Int) < (m : Int) := by omega
      have hk0 : (0 : Int) ≤ (k : Int) := by omega
      have hkm : (k : Int) ≤ (m : Int) := by omega
      have HWR : Hid (IntKind.i64.wrap ((k : Int) + 1) = ((k + 1 : Nat) : Int)) := Lib.hid (by rw [show (k : Int) + 1 = ((k + 1 : Nat) : Int) by omega]; exact IntWalk.i64_in _ (by omega))
      have HBW : Hid (Below w.heap.size w wo) := Lib.hid (blink HB0.out hnx)
      have hgc : CellsSc wo g cs := by
        obtain ⟨a', cap', e, h⟩ := HUW.out
        injection e with e1 e2 e3
        obtain ⟨b', e', h'⟩ := h (by intro e; have := HM.out; rw [e] at this; simp at this; omega)
        rw [← e1] at e'
        injection e' with e'
        injection e' with e'
        subst e'
        exact h'.below HBW.out
      have HGC := Lib.hid hgc
      obtain ⟨ad, had⟩ : ∃ ad, (if m = k + 1 then some (⟨g, 0, none⟩ : Addr) else some ⟨g, (k + 1) * 2, none⟩) = some ad := by
        split
        · exact ⟨_, rfl⟩
        · exact ⟨_, rfl⟩
      have HAD := Lib.hid had
      have HVD : Hid (∀ W, CellsSc W g cs → ViewSc W (.slice (some ad) (m - (k + 1)) (m - (k + 1))) (cs.drop (k + 1))) := Lib.hid (fun W hc => by
        have h := view_drop (c := m - (k + 1)) hc (k + 1) (by rw [HM.out]; omega)
        rw [HM.out] at h
        split at had
        · rename_i e
          obtain ⟨ad', c', e', h'⟩ := h
          have h0 : cs.drop (k + 1) = [] := List.drop_eq_nil_of_le (by rw [HM.out]; omega)
          rw [h0]
          refine ⟨ad, m - (k + 1), by rw [show m - (k + 1) = 0 by omega]; rfl, fun j v hj => by simp [flatSc, flatE] at hj⟩
        · cases had
          exact h)
      clear had
      clear hgc hown hnx
      go_wp2_with fail
      refine wp_region_relL (fun W => Below wo.heap.size wo W) (fun W W' => Below W.heap.size W W') 9 [fun u W => ∃ B, u = Value.slice (some ⟨B, 0, none⟩) 0 0 ∧ wo.heap.size ≤ B ∧ BlkA W B 37 #[], fun u _ => u = Value.slice (some ⟨g, 0, none⟩) m m, fun u _ => u = Value.int .i64 (k : Int), fun u _ => u = Value.slice (some ⟨g, 0, none⟩) k m, fun u W => OwnSc 37 wo.heap.size W u (cs.take k), fun u _ => u = Value.slice (some ⟨g, 0, none⟩) m m, fun u _ => u = Value.int .i64 (k : Int), fun u _ => u = Value.int .i64 ((k + 1 : Nat) : Int), fun u _ => u = Value.slice (some ad) (m - (k + 1)) (m - (k + 1))] (by kernel_rfl) (by kernel_rfl) rfl (Below.refl _ _).drew ?_
      simp only [List.take_succ_cons, List.take_zero, List.drop_succ_cons, List.drop_zero]
      refine wpRel_cons (fun _ _ _ _ hS ⟨B, e, h1, h2⟩ => ⟨B, e, h1, BlkA.below h2 hS⟩) (fun W hC hd => relObl_intro fun K hK => ?_) (fun v22 => ?_)
      · have HK := Lib.hid hK
        have HC := Lib.hid hC
        clear hK hd hC
        go_simp
        exact HK.out _ _ ⟨_, rfl, HC.out.alloc HC.out.size _, (Below.refl _ _).alloc (Nat.le_refl _) _, W.heap.size, rfl, HC.out.size, BlkA.new rfl _ _⟩
      simp only [Act.put, List.setIfInBounds_toArray, List.set_cons_zero, List.set_cons_succ]
      refine wpRel_cons (fun _ _ _ _ _ h => h) (fun W hC hd => relObl_intro fun K hK => ?_) (fun v23 => ?_)
      · have HK := Lib.hid hK
        have HC := Lib.hid hC
        clear hK hd hC
        go_simp
        exact HK.out _ _ ⟨_, rfl, HC.out, Below.refl _ _, rfl⟩
      simp only [Act.put, List.setIfInBounds_toArray, List.set_cons_zero, List.set_cons_succ]
      refine wpRel_cons (fun _ _ _ _ _ h => h) (fun W hC hd => relObl_intro fun K hK => ?_) (fun v24 => ?_)
      · have HK := Lib.hid hK
        have HC := Lib.hid hC
        clear hK hd hC
        go_simp
        exact HK.out _ _ ⟨_, rfl, HC.out, Below.refl _ _, rfl⟩
      simp only [Act.put, List.setIfInBounds_toArray, List.set_cons_zero, List.set_cons_succ]
      refine wpRel_cons (fun _ _ _ _ _ h => h) (fun W hC hd => relObl_intro fun K hK => ?_) (fun v25 => ?_)
      · have HK := Lib.hid hK
        have HC := Lib.hid hC
        obtain rfl : v23 = Value.slice (some ⟨g, 0, none⟩) m m := hd 1 rfl _ rfl
        obtain rfl : v24 = Value.int .i64 (k : Int) := hd 2 rfl _ rfl
        clear hK hd hC
        go_simp
        exact HK.out _ _ ⟨_, rfl, HC.out, Below.refl _ _, rfl⟩
      simp only [Act.put, List.setIfInBounds_toArray, List.set_cons_zero, List.set_cons_succ]
      refine wpRel_cons (fun _ _ _ _ hS h => OwnSc.below h hS) (fun W hC hd => relObl_intro fun K hK => ?_) (fun v26 => ?_)
      · have HK := Lib.hid hK
        have HC := Lib.hid hC
        obtain ⟨B, rfl, hB, hb⟩ := (show ∃ B, v22 = Value.slice (some ⟨B, 0, none⟩) 0 0 ∧ wo.heap.size ≤ B ∧ BlkA W B 37 #[] from hd 0 rfl _ rfl)
        obtain rfl : v25 = Value.slice (some ⟨g, 0, none⟩) k m := hd 3 rfl _ rfl
        refine wp_append_empty (.tmp 22) (.tmp 25) rfl wo.heap.size B _ (cs.take k) rfl rfl (view_take (HGC.out.below hC) k (by rw [HM.out]; omega)) (by rw [List.length_take]; omega) hB hb ?_
        intro v' W' ho' hb'
        exact HK.out _ _ ⟨_, rfl, blink HC.out hb', hb', ho'⟩
      simp only [Act.put, List.setIfInBounds_toArray, List.set_cons_zero, List.set_cons_succ]
      refine wpRel_cons (fun _ _ _ _ _ h => h) (fun W hC hd => relObl_intro fun K hK => ?_) (fun v27 => ?_)
      · have HK := Lib.hid hK
        have HC := Lib.hid hC
        clear hK hd hC
        go_simp
        exact HK.out _ _ ⟨_, rfl, HC.out, Below.refl _ _, rfl⟩
      simp only [Act.put, List.setIfInBounds_toArray, List.set_cons_zero, List.set_cons_succ]
      refine wpRel_cons (fun _ _ _ _ _ h => h) (fun W hC hd => relObl_intro fun K hK => ?_) (fun v28 => ?_)
      · have HK := Lib.hid hK
        have HC := Lib.hid hC
        clear hK hd hC
        go_simp
        exact HK.out _ _ ⟨_, rfl, HC.out, Below.refl _ _, rfl⟩
      simp only [Act.put, List.setIfInBounds_toArray, List.set_cons_zero, List.set_cons_succ]
      refine wpRel_cons (fun _ _ _ _ _ h => h) (fun W hC hd => relObl_intro fun K hK => ?_) (fun v29 => ?_)
      · have HK := Lib.hid hK
        have HC := Lib.hid hC
        obtain rfl : v28 = Value.int .i64 (k : Int) := hd 6 rfl _ rfl
        clear hK hd hC
        go_simp
        exact HK.out _ _ ⟨_, rfl, HC.out, Below.refl _ _, by rw [HWR.out]⟩
      simp only [Act.put, List.setIfInBounds_toArray, List.set_cons_zero, List.set_cons_succ]
      refine wpRel_cons (fun _ _ _ _ _ h => h) (fun W hC hd => relObl_intro fun K hK => ?_) (fun v30 => ?_)
      · have HK := Lib.hid hK
        have HC := Lib.hid hC
        obtain rfl : v27 = Value.slice (some ⟨g, 0, none⟩) m m := hd 5 rfl _ rfl
        obtain rfl : v29 = Value.int .i64 ((k + 1 : Nat) : Int) := hd 7 rfl _ rfl
        have hc1 : (0 : Int) ≤ (k : Int) + 1 := by omega
        have hc2 : (k : Int) + 1 ≤ (m : Int) := by omega
        have had := HAD.out
        clear hK hd hC
        go_simp
        exact HK.out _ _ ⟨_, rfl, HC.out, Below.refl _ _, rfl⟩
      simp only [Act.put, List.setIfInBounds_toArray, List.set_cons_zero, List.set_cons_succ]
      refine wpRel_nil fun W6 hC hd => ?_
      have ho6 : OwnSc 37 wo.heap.size W6 v26 (cs.take k) := hd 4 _ rfl
      obtain rfl : v30 = Value.slice (some ad) (m - (k + 1)) (m - (k + 1)) := hd 8 _ rfl
      have hs6 : wo.heap.size ≤ W6.heap.size := hC.size
      have HO6 := Lib.hid ho6
      have HV6 := Lib.hid (HVD.out W6 (HGC.out.below hC))
      have HC6 := Lib.hid hC
      clear hd hC ho6
      go_wp2_with (at_builtin; refine wpList_append_view rfl _ _ rfl wo.heap.size _ _ (cs.take k) (cs.drop (k + 1)) rfl rfl HO6.out HV6.out (by rw [List.length_take]; omega) (by rw [List.length_drop, HM.out]; omega) hs6 ?_)
      intro v7 w7 ho7 hg7
      have hC7 : Below wo.heap.size wo w7 := HC6.out.grown hg7 hs6 (fun i hi => (HO6.out.block i hi).1)
      have HC7 := Lib.hid hC7
      have hn7 := blink HNX.out hC7
      have hdl := dropI_len cs k
      have HBAD := Lib.hid (sbad_any w.heap.size sn yn v ps v7 (dropI cs k) w7 HOK.out (HVW.out.below (blink HB0.out hn7)) (OwnSc.reads ho7) (dropI_ok HSC.out k) (by rw [HM.out] at hdl; omega) (HBN.out.below hn7))
      obtain ⟨b, hb⟩ : ∃ b, badS (yn : Int) ps (dropI cs k) = b := ⟨_, rfl⟩
      have HYES : Hid (b < 0 → fsL (yn : Int) ps cs (k + 1) = fsL (yn : Int) ps cs k ++ [(k : Int)]) := Lib.hid (fun h => fsL_yes (by rw [hb]; exact h))
      have HNO : Hid (¬ b < 0 → fsL (yn : Int) ps cs (k + 1) = fsL (yn : Int) ps cs k) := Lib.hid (fun h => fsL_no (by rw [hb]; exact h))
      rw [hb] at HBAD
      have hfl := fsL_len (yn : Int) ps cs k
      have HOW7 := Lib.hid (HOW.out.below hC7)
      have HN7 := Lib.hid hn7
      clear ho7 hg7 hC7 hb hdl hn7
      go_wp2_with fail
      refine HBAD.out.mono ?_
      rintro e w8 ⟨rfl, b8⟩
      have HN8 := Lib.hid (blink HN7.out b8)
      have hown : w8.ownsRow W0.heap.size 2 1 _ _ _ := (show OwnI W0.heap.size w8 _ _ from HOW7.out.below b8)
      have hs8 : W0.heap.size ≤ w8.heap.size := HN8.out.size
      clear b8 HBAD
      by_cases hb0 : b < 0
      · have HL := Lib.hid (HYES.out hb0)
        have tb : decide (b < 0) = true := decide_eq_true hb0
        clear HYES HNO hb0
        go_wp2_with (at_builtin; refine wpList_append_own _ rfl _ _ 30 rfl W0.heap.size 2 i0 (.int .i64 0) 1 8 Try.underlying30 hi hz0 hz1 hz2 rfl (by decide) _ _ _ rfl (hown.alloc _) ⟨w8.heap.size, 0, none⟩ 1 1 [.int .i64 (k : Int)] rfl rfl ?c1 ?c2 ?c3 ?c4 ?c5 ?_)
        case c1 =>
          intro j u hj
          match j, hj with
          | 0, hj => simp at hj; subst hj; simp [Addr.add]
        case c2 => intro u hu; simp at hu; subst hu; rfl
        case c3 => unfold maxLen; omega
        case c4 => omega
        case c5 => simp; omega
        intro v' w9 hown' hgrow _
        have HO' : Hid (OwnI W0.heap.size w9 v' (fsL (yn : Int) ps cs (k + 1))) := Lib.hid (by
          unfold OwnI
          rw [HL.out, List.map_append, List.length_append]; exact hown')
        have HN' : Hid (Below W0.heap.size W0 w9) := Lib.hid ((HN8.out.alloc hs8 _).grown hgrow (by simp; omega) (fun i hi => (hown.lt i hi).1))
        clear hown' hgrow hown
        go_wp2
        go_roundw
        case rel => exact ⟨k + 1, by omega, by go_num, HO'.out, HN'.out⟩
        case measure => simp [intOf]; omega
      · have HL := Lib.hid (HNO.out (by omega))
        have tb : decide (b < 0) = false := decide_eq_false hb0
        have HO' : Hid (OwnI W0.heap.size w8 _ (fsL (yn : Int) ps cs (k + 1))) := Lib.hid (by rw [HL.out]; exact hown)
        clear HYES HNO hb0 hown
        go_wp2_with fail
        go_roundw
        case rel => exact ⟨k + 1, by omega, by go_num, HO'.out, HN8.out⟩
        case measure => simp [intOf]; omega
    · have hk' : k = m := by omega
      have HO' : Hid (OwnI W0.heap.size wo _ (fsR (sn : Int) (yn : Int) ps cs)) := Lib.hid (by rw [HR.out, ← hk']; exact hown)
      have HBF : Hid (Below w.heap.size w wo) := Lib.hid (blink HB0.out hnx)
      clear hown hnx hk'
      go_wp2_with fail
      go_ret2
      exact ⟨_, ret_pair HC.out.symm, HO'.out.mono HB0.out.size, HBF.out⟩
end Go.Proofs.Ytloelbaaolhlhaa
/-
  The program's FalseScans.
-/
namespace Go.Proofs.Ytloelbaaolhlhaa
open Go Go.RowKit
set_option linter.unusedVariables false

theorem OwnSc.out {T : TypeId} {B lo hi : Nat} {w w' : World} {v : Value} {ps : List (Int × Int)} (h : OwnSc T B w v ps) (K : KeepsOut lo hi w w') (hd : ∀ k, v.ownBlock = some k → k < lo ∨ hi ≤ k) : OwnSc T B w' v ps := row_out h K hd
theorem KeptBut.grown_far {M : Nat} {w w1 w2 : World} {row : Option Nat} (h : KeptBut M w w1) (hg : w1.grownBy w2 row) (hM : M ≤ w.heap.size) (hr : ∀ k, row = some k → w.heap.size ≤ k) : KeptBut M w w2 :=
  ⟨h.1.grown hg (Nat.le_trans hM h.2.1) (fun k e => Nat.le_trans hM (hr k e)), Nat.le_trans h.2.1 hg.size, fun b hb hne => (hg.block b (Nat.lt_of_lt_of_le hb h.2.1) (fun e => by have := hr b e.symm; omega)).trans (h.2.2 b hb hne)⟩
theorem row_keptBut {M B : Nat} {T : TypeId} {n m : Nat} {w w' : World} {v : Value} {us : List Value} (h : w.ownsRow B T n v m us) (k : KeptBut M w w') (hB : M < B) : w'.ownsRow B T n v m us := by
  refine ⟨h.1, ?_⟩
  rcases h.2 with hn | ⟨g, cap, cur, rfl, hb, hg, rest⟩
  · exact .inl hn
  · exact .inr ⟨g, cap, cur, rfl, hb, by rw [k.2.2 g (Array.getElem?_eq_some_iff.1 hg).1 (by omega)]; exact hg, rest⟩

set_option maxHeartbeats 2000000 in
set_option maxRecDepth 100000 in
theorem ifc_any (st sy : Int) (v : Value) (g m : Nat) (ps : List Lan) (cs : List (Int × Int)) (w : World) (hn : FitN st sy ps) (hf : FitsSc cs) (hv : ReadsLa w v ps) (hu : ReadsSc w (.slice (some ⟨g, 0, none⟩) m m) cs) (hx : cs.length ≤ 1048576) :
    Calls Try.prog 48 #[netV st sy v, .slice (some ⟨g, 0, none⟩) m m] w (RetL1 w.heap.size w (fsR st sy ps cs) (csC st sy ps cs)) := by
  obtain ⟨i0, hi, hz0, hz1, hz2⟩ := info_parts info_i64
  have HN := Lib.hid hn
  have HM : Hid (cs.length = m) := Lib.hid (by obtain ⟨_, _, e, _⟩ := hu; injection e with e1 e2 e3; exact e2.symm)
  have b1 : Below w.heap.size w (w.alloc (.cells #[.int .i8 st, .int .i16 sy, v] 35)) := (Below.refl _ _).alloc (Nat.le_refl _) _
  have BN : BlkA (w.alloc (.cells #[.int .i8 st, .int .i16 sy, v] 35)) w.heap.size 35 #[.int .i8 st, .int .i16 sy, v] := BlkA.new rfl _ _
  obtain ⟨W1, hW⟩ : ∃ W, w.alloc (.cells #[.int .i8 st, .int .i16 sy, v] 35) = W := ⟨_, rfl⟩
  rw [hW] at b1 BN
  have HW := Lib.hid hW
  have HB1 := Lib.hid b1
  have HBN := Lib.hid BN
  have HV1 := Lib.hid (hv.below b1)
  have HUW := Lib.hid hu
  have HCHK := Lib.hid (ichk_any st sy v ps _ (.slice none 0 0) (.slice none 0 0) cs [] [] W1 hn (hv.below b1) (hu.below b1) hf (reads_nil _) (reads_nil _) hx (by simp) (by simp))
  rw [chk_scn] at HCHK
  have n0 := BN.at 0
  have n1 := BN.at 1
  have n2 := BN.at 2
  clear hW b1 BN hv hu hn hf
  go_enter Try.func48, Try.ntmps48
  go_wp2_with fail
  rw [HW.out]
  go_wp2_with fail
  refine HCHK.out.mono ?_
  rintro e w2 ⟨rfl, b2⟩
  have HB2 := Lib.hid (blink HB1.out b2)
  have BN2 := HBN.out.below b2
  have HV2 := Lib.hid (HV1.out.below b2)
  obtain ⟨c, hc⟩ : ∃ c, csC st sy ps cs = c := ⟨_, rfl⟩
  have HC := Lib.hid hc
  rw [show scnC st sy ps (scsB st cs) cs.length = csC st sy ps cs from rfl, hc]
  clear b2 n0 n1 n2 HCHK hc HW HV1 HBN
  by_cases hz : c = 0
  rotate_left
  · have HR : Hid (fsR st sy ps cs = []) := Lib.hid (by unfold fsR; rw [HC.out, if_neg hz])
    have t1 : (c != 0) = true := by simp [hz]
    have t0 : (c == 0) = false := by simp [hz]
    clear hz BN2
    go_wp2_with fail
    go_ret2
    exact ⟨_, ret_pair HC.out.symm, by rw [HR.out]; exact World.ownsRow_nil _ _ _ _, HB2.out⟩
  subst hz
  obtain ⟨hvl, hsb, h12⟩ := scnC_ok HC.out
  have hok := vldN_spec hvl
  have hsc : OkScTo st cs cs.length := of_decide_eq_true hsb
  have HTR := Lib.hid (itrk_any st sy v ps w2 hok HV2.out)
  have HR : Hid (fsR st sy ps cs = fsL sy ps cs cs.length) := Lib.hid (by unfold fsR; rw [if_pos HC.out])
  obtain ⟨sn, yn, rfl, rfl⟩ := net_nat hok
  have HOK := Lib.hid hok
  have HSC := Lib.hid hsc
  rw [HM.out] at HR h12
  have m0 := BN2.at 0
  have m1 := BN2.at 1
  have m2 := BN2.at 2
  clear hvl hsb hok hsc BN2
  go_wp2_with fail
  refine HTR.out.mono ?_
  rintro e w3 ⟨au, cu, M, rfl, hr3, hm3, hM3, b3⟩
  obtain ⟨l, hl⟩ : ∃ l, (hopsL (yn : Int) ps).length = l := ⟨_, rfl⟩
  have HLN := Lib.hid hl
  rw [hl] at hr3
  rw [hl]
  have HB3 := Lib.hid (blink HB2.out b3)
  have hMlt : M < w3.heap.size := hm3.lt
  have hwM : w.heap.size ≤ M := Nat.le_trans HB2.out.size hM3
  have hb4 : Below w3.heap.size w3 (w3.alloc (.cells #[.slice au l cu, .map (some M)] 109)) := (Below.refl _ _).alloc (Nat.le_refl _) _
  have BK : BlkA (w3.alloc (.cells #[.slice au l cu, .map (some M)] 109)) w3.heap.size 109 #[.slice au l cu, .map (some M)] := BlkA.new rfl _ _
  obtain ⟨W4, hW4⟩ : ∃ W, w3.alloc (.cells #[.slice au l cu, .map (some M)] 109) = W := ⟨_, rfl⟩
  rw [hW4] at hb4 BK
  have HW4 := Lib.hid hW4
  have HB4 := Lib.hid (blink HB3.out hb4)
  have HBK4 := Lib.hid BK
  have HM4 : Hid (ownsT W4 M 0 (.map [])) := Lib.hid (ownT_below hm3 hb4 hMlt)
  have HR4 := Lib.hid (hr3.below hb4)
  have hs4 : w3.heap.size < W4.heap.size := BK.lt
  clear m0 m1 m2 hr3 hm3 b3 HTR hl hb4 hW4 BK
  go_wp2_with fail
  rw [HW4.out]
  go_loopw [8, 21] (fun gv i wr => ∃ (k : Nat) (D : DataW Unit), k ≤ m ∧ i = .int .i64 k ∧ OwnI W4.heap.size wr gv (fsL (yn : Int) ps cs k) ∧ ownsT wr M (13 * k) D ∧ KTr yn ps D ∧ KeptBut M W4 wr) (fun _ i _ => m - (intOf i).toNat)
  case atStart => exact ⟨0, .map [], Nat.zero_le _, rfl, World.ownsRow_nil _ _ _ _, HM4.out, KTr.zero yn ps, KeptBut.refl _ _⟩
  case round =>
    obtain ⟨k, D, hk, rfl, hown, hmk, hkt, hkp⟩ := hrel
    obtain ⟨wo, rfl⟩ : ∃ W, W = wr := ⟨_, rfl⟩
    have HKP := Lib.hid hkp
    have HOW := Lib.hid hown
    have HMK := Lib.hid hmk
    have HKT := Lib.hid hkt
    by_cases hlt : k < m
    · have hkl : (k : Int) < (m : Int) := by omega
      have hk0 : (0 : Int) ≤ (k : Int) := by omega
      have hkm : (k : Int) ≤ (m : Int) := by omega
      have hkm1 : ((k + 1 : Nat) : Int) ≤ (m : Int) := by omega
      have hk1 : (0 : Int) ≤ ((k + 1 : Nat) : Int) := by omega
      have HWR : Hid (IntKind.i64.wrap ((k : Int) + 1) = ((k + 1 : Nat) : Int)) := Lib.hid (by rw [show (k : Int) + 1 = ((k + 1 : Nat) : Int) by omega]; exact IntWalk.i64_in _ (by omega))
      have HBK := Lib.hid (HBK4.out.kept hkp (by omega))
      have HBW : Hid (Below w.heap.size w wo) := Lib.hid (HB4.out.trans (hkp.1.mono hwM))
      have hgc : CellsSc wo g cs := by
        obtain ⟨a', cap', e, h⟩ := HUW.out
        injection e with e1 e2 e3
        obtain ⟨b', e', h'⟩ := h (by intro e; have := HM.out; rw [e] at this; simp at this; omega)
        rw [← e1] at e'
        injection e' with e'
        injection e' with e'
        subst e'
        exact h'.below HBW.out
      have HGC := Lib.hid hgc
      obtain ⟨ad, had⟩ : ∃ ad, (if m = k + 1 then some (⟨g, 0, none⟩ : Addr) else some ⟨g, (k + 1) * 2, none⟩) = some ad := by
        split
        · exact ⟨_, rfl⟩
        · exact ⟨_, rfl⟩
      have HAD := Lib.hid had
      have HVD : Hid (∀ W, CellsSc W g cs → ViewSc W (.slice (some ad) (m - (k + 1)) (m - (k + 1))) (cs.drop (k + 1))) := Lib.hid (fun W hc => by
        have h := view_drop (c := m - (k + 1)) hc (k + 1) (by rw [HM.out]; omega)
        rw [HM.out] at h
        split at had
        · rename_i e
          obtain ⟨ad', c', e', h'⟩ := h
          have h0 : cs.drop (k + 1) = [] := List.drop_eq_nil_of_le (by rw [HM.out]; omega)
          rw [h0]
          refine ⟨ad, m - (k + 1), by rw [show m - (k + 1) = 0 by omega]; rfl, fun j v hj => by simp [flatSc, flatE] at hj⟩
        · cases had
          exact h)
      clear had
      have HCONC : Hid (∀ B W, Below wo.heap.size wo W → BlkA W B 55 #[.slice (some ⟨g, 0, none⟩) k m, .slice (some ad) (m - (k + 1)) (m - (k + 1))] → Calls Try.prog 89 #[.slice (some ⟨B, 0, none⟩) 2 2] W fun e w' => ∃ v, e = .returned v ∧ OwnSc 37 W.heap.size w' v (dropI cs k) ∧ Below W.heap.size W w') := Lib.hid (fun B W hC hb => by
        have h1 := view_take (c := m) (HGC.out.below hC) k (by rw [HM.out]; omega)
        have h2 := HVD.out W (HGC.out.below hC)
        exact iconc_any B _ _ (cs.take k) (cs.drop (k + 1)) _ W (by rw [List.length_take]; omega) (by rw [List.length_drop, HM.out]; omega) h1 h2 hb)
      clear hgc hown hmk hkt hkp
      go_wp2_with fail
      refine wp_region_relL (fun W => Below wo.heap.size wo W) (fun W W' => Below W.heap.size W W') 10 [fun u _ => u = trkV au l cu M, fun u _ => u = Value.slice (some ⟨g, 0, none⟩) m m, fun u _ => u = Value.int .i64 (k : Int), fun u _ => u = Value.slice (some ⟨g, 0, none⟩) k m, fun u _ => u = Value.slice (some ⟨g, 0, none⟩) m m, fun u _ => u = Value.int .i64 (k : Int), fun u _ => u = Value.int .i64 ((k + 1 : Nat) : Int), fun u _ => u = Value.slice (some ad) (m - (k + 1)) (m - (k + 1)), fun u W => ∃ B, u = Value.slice (some ⟨B, 0, none⟩) 2 2 ∧ wo.heap.size ≤ B ∧ BlkA W B 55 #[.slice (some ⟨g, 0, none⟩) k m, .slice (some ad) (m - (k + 1)) (m - (k + 1))], fun u W => ReadsSc W u (dropI cs k)] (by kernel_rfl) (by kernel_rfl) rfl (Below.refl _ _).drew ?_
      simp only [List.take_succ_cons, List.take_zero, List.drop_succ_cons, List.drop_zero]
      refine wpRel_cons (fun _ _ _ _ _ h => h) (fun W hC hd => relObl_intro fun K hK => ?_) (fun v24 => ?_)
      · have HK := Lib.hid hK
        have HC := Lib.hid hC
        have c0 := (HBK.out.below hC).at 0
        have c1 := (HBK.out.below hC).at 1
        clear hK hd hC
        go_simp
        exact HK.out _ _ ⟨_, rfl, HC.out, Below.refl _ _, rfl⟩
      simp only [Act.put, List.setIfInBounds_toArray, List.set_cons_zero, List.set_cons_succ]
      refine wpRel_cons (fun _ _ _ _ _ h => h) (fun W hC hd => relObl_intro fun K hK => ?_) (fun v25 => ?_)
      · have HK := Lib.hid hK
        have HC := Lib.hid hC
        clear hK hd hC
        go_simp
        exact HK.out _ _ ⟨_, rfl, HC.out, Below.refl _ _, rfl⟩
      simp only [Act.put, List.setIfInBounds_toArray, List.set_cons_zero, List.set_cons_succ]
      refine wpRel_cons (fun _ _ _ _ _ h => h) (fun W hC hd => relObl_intro fun K hK => ?_) (fun v26 => ?_)
      · have HK := Lib.hid hK
        have HC := Lib.hid hC
        clear hK hd hC
        go_simp
        exact HK.out _ _ ⟨_, rfl, HC.out, Below.refl _ _, rfl⟩
      simp only [Act.put, List.setIfInBounds_toArray, List.set_cons_zero, List.set_cons_succ]
      refine wpRel_cons (fun _ _ _ _ _ h => h) (fun W hC hd => relObl_intro fun K hK => ?_) (fun v27 => ?_)
      · have HK := Lib.hid hK
        have HC := Lib.hid hC
        obtain rfl : v25 = Value.slice (some ⟨g, 0, none⟩) m m := hd 1 rfl _ rfl
        obtain rfl : v26 = Value.int .i64 (k : Int) := hd 2 rfl _ rfl
        clear hK hd hC
        go_simp
        exact HK.out _ _ ⟨_, rfl, HC.out, Below.refl _ _, rfl⟩
      simp only [Act.put, List.setIfInBounds_toArray, List.set_cons_zero, List.set_cons_succ]
      refine wpRel_cons (fun _ _ _ _ _ h => h) (fun W hC hd => relObl_intro fun K hK => ?_) (fun v28 => ?_)
      · have HK := Lib.hid hK
        have HC := Lib.hid hC
        clear hK hd hC
        go_simp
        exact HK.out _ _ ⟨_, rfl, HC.out, Below.refl _ _, rfl⟩
      simp only [Act.put, List.setIfInBounds_toArray, List.set_cons_zero, List.set_cons_succ]
      refine wpRel_cons (fun _ _ _ _ _ h => h) (fun W hC hd => relObl_intro fun K hK => ?_) (fun v29 => ?_)
      · have HK := Lib.hid hK
        have HC := Lib.hid hC
        clear hK hd hC
        go_simp
        exact HK.out _ _ ⟨_, rfl, HC.out, Below.refl _ _, rfl⟩
      simp only [Act.put, List.setIfInBounds_toArray, List.set_cons_zero, List.set_cons_succ]
      refine wpRel_cons (fun _ _ _ _ _ h => h) (fun W hC hd => relObl_intro fun K hK => ?_) (fun v30 => ?_)
      · have HK := Lib.hid hK
        have HC := Lib.hid hC
        obtain rfl : v29 = Value.int .i64 (k : Int) := hd 5 rfl _ rfl
        clear hK hd hC
        go_simp
        exact HK.out _ _ ⟨_, rfl, HC.out, Below.refl _ _, by rw [HWR.out]⟩
      simp only [Act.put, List.setIfInBounds_toArray, List.set_cons_zero, List.set_cons_succ]
      refine wpRel_cons (fun _ _ _ _ _ h => h) (fun W hC hd => relObl_intro fun K hK => ?_) (fun v31 => ?_)
      · have HK := Lib.hid hK
        have HC := Lib.hid hC
        obtain rfl : v28 = Value.slice (some ⟨g, 0, none⟩) m m := hd 4 rfl _ rfl
        obtain rfl : v30 = Value.int .i64 ((k + 1 : Nat) : Int) := hd 6 rfl _ rfl
        have hc1 : (0 : Int) ≤ (k : Int) + 1 := by omega
        have hc2 : (k : Int) + 1 ≤ (m : Int) := by omega
        have had := HAD.out
        clear hK hd hC
        go_simp
        exact HK.out _ _ ⟨_, rfl, HC.out, Below.refl _ _, rfl⟩
      simp only [Act.put, List.setIfInBounds_toArray, List.set_cons_zero, List.set_cons_succ]
      refine wpRel_cons (fun _ _ _ _ hS ⟨B, e, h1, h2⟩ => ⟨B, e, h1, BlkA.below h2 hS⟩) (fun W hC hd => relObl_intro fun K hK => ?_) (fun v32 => ?_)
      · have HK := Lib.hid hK
        have HC := Lib.hid hC
        obtain rfl : v27 = Value.slice (some ⟨g, 0, none⟩) k m := hd 3 rfl _ rfl
        obtain rfl : v31 = Value.slice (some ad) (m - (k + 1)) (m - (k + 1)) := hd 7 rfl _ rfl
        clear hK hd hC
        go_simp
        exact HK.out _ _ ⟨_, rfl, HC.out.alloc HC.out.size _, (Below.refl _ _).alloc (Nat.le_refl _) _, W.heap.size, rfl, HC.out.size, BlkA.new rfl _ _⟩
      simp only [Act.put, List.setIfInBounds_toArray, List.set_cons_zero, List.set_cons_succ]
      refine wpRel_cons (fun _ _ _ _ hS h => h.below hS) (fun W hC hd => relObl_intro fun K hK => ?_) (fun v33 => ?_)
      · have HK := Lib.hid hK
        have HC := Lib.hid hC
        obtain ⟨B, rfl, hB, hb⟩ := (show ∃ B, v32 = Value.slice (some ⟨B, 0, none⟩) 2 2 ∧ wo.heap.size ≤ B ∧ BlkA W B 55 #[Value.slice (some ⟨g, 0, none⟩) k m, Value.slice (some ad) (m - (k + 1)) (m - (k + 1))] from hd 8 rfl _ rfl)
        have HCC := Lib.hid (HCONC.out B W hC hb)
        clear hK hd hC hb
        go_simp
        refine HCC.out.mono ?_
        rintro e V5 ⟨v5, rfl, o5, b5⟩
        exact HK.out _ _ ⟨_, rfl, blink HC.out b5, b5, OwnSc.reads o5⟩
      simp only [Act.put, List.setIfInBounds_toArray, List.set_cons_zero, List.set_cons_succ]
      refine wpRel_nil fun W6 hC hd => ?_
      obtain rfl : v24 = trkV au l cu M := hd 0 _ rfl
      have hsc6 : ReadsSc W6 v33 (dropI cs k) := hd 9 _ rfl
      have hML : M < wo.heap.size := HMK.out.lt
      have h46 : W4.heap.size ≤ wo.heap.size := HKP.out.size
      have hs6 : wo.heap.size ≤ W6.heap.size := hC.size
      have hk6 : KeptBut M W4 W6 := HKP.out.trans (KeptBut.of_below hC (by omega))
      have hm6 : ownsT W6 M (13 * k) D := ownT_below HMK.out hC hML
      have HOW6 := Lib.hid (row_keptBut (show wo.ownsRow W4.heap.size 2 1 _ _ _ from HOW.out) (KeptBut.of_below (M := M) hC (by omega)) (by omega))
      have hdl := dropI_len cs k
      have HBAD := Lib.hid (ibad_any au cu M (13 * k) D sn yn ps v33 (dropI cs k) W6 HOK.out HN.out.n (by rw [HLN.out]; exact HR4.out.kept HM4.out hk6) hm6 HKT.out hsc6 (dropI_ok HSC.out k) (by rw [HM.out] at hdl; omega) (by omega))
      rw [HLN.out] at HBAD
      obtain ⟨b, hb⟩ : ∃ b, badS (yn : Int) ps (dropI cs k) = b := ⟨_, rfl⟩
      have HYES : Hid (b < 0 → fsL (yn : Int) ps cs (k + 1) = fsL (yn : Int) ps cs k ++ [(k : Int)]) := Lib.hid (fun h => fsL_yes (by rw [hb]; exact h))
      have HNO : Hid (¬ b < 0 → fsL (yn : Int) ps cs (k + 1) = fsL (yn : Int) ps cs k) := Lib.hid (fun h => fsL_no (by rw [hb]; exact h))
      rw [hb] at HBAD
      have HK6 := Lib.hid hk6
      have hfl := fsL_len (yn : Int) ps cs k
      have hd13 : 13 * k + (dropI cs k).length + 1 ≤ 13 * (k + 1) := by rw [HM.out] at hdl; omega
      clear hd hC hsc6 hk6 hm6 hb hdl
      go_wp2_with fail
      refine HBAD.out.mono ?_
      rintro e w7 ⟨D7, rfl, hm7, hk7, hkp7⟩
      have HM7 : Hid (ownsT w7 M (13 * (k + 1)) D7) := Lib.hid (hm7.mono hd13)
      have HK7 := Lib.hid hk7
      have HKP7 := Lib.hid (HK6.out.trans hkp7)
      have hown := row_keptBut HOW6.out hkp7 (by omega)
      have hs7 : W4.heap.size ≤ w7.heap.size := HKP7.out.size
      clear hm7 hk7 hkp7 HBAD
      by_cases hb0 : b < 0
      · have HL := Lib.hid (HYES.out hb0)
        have tb : decide (b < 0) = true := decide_eq_true hb0
        clear HYES HNO hb0
        go_wp2_with (at_builtin; refine wpList_append_own _ rfl _ _ 30 rfl W4.heap.size 2 i0 (.int .i64 0) 1 8 Try.underlying30 hi hz0 hz1 hz2 rfl (by decide) _ _ _ rfl (hown.alloc _) ⟨w7.heap.size, 0, none⟩ 1 1 [.int .i64 (k : Int)] rfl rfl ?c1 ?c2 ?c3 ?c4 ?c5 ?_)
        case c1 =>
          intro j u hj
          match j, hj with
          | 0, hj => simp at hj; subst hj; simp [Addr.add]
        case c2 => intro u hu; simp at hu; subst hu; rfl
        case c3 => unfold maxLen; omega
        case c4 => omega
        case c5 => simp; omega
        intro v' w8 hown' hgrow _
        have HO' : Hid (OwnI W4.heap.size w8 v' (fsL (yn : Int) ps cs (k + 1))) := Lib.hid (by
          unfold OwnI
          rw [HL.out, List.map_append, List.length_append]; exact hown')
        have hka := (HKP7.out.trans (KeptBut.of_below ((Below.refl _ _).alloc (Nat.le_refl _) (.cells #[.int .i64 (k : Int)] 2)) (by omega)))
        have HKP' : Hid (KeptBut M W4 w8) := Lib.hid (hka.grown_far hgrow (by omega) (fun i hi => (hown.lt i hi).1))
        have HM8 : Hid (ownsT w8 M (13 * (k + 1)) D7) := Lib.hid ((HM7.out.alloc _).kept hgrow (fun e => by have := (hown.lt M e.symm).1; omega))
        clear hown' hgrow hown hka
        go_wp2
        go_roundw
        case rel => exact ⟨k + 1, D7, by omega, by go_num, HO'.out, HM8.out, HK7.out, HKP'.out⟩
        case measure => simp [intOf]; omega
      · have HL := Lib.hid (HNO.out (by omega))
        have tb : decide (b < 0) = false := decide_eq_false hb0
        have HO' : Hid (OwnI W4.heap.size w7 _ (fsL (yn : Int) ps cs (k + 1))) := Lib.hid (by rw [HL.out]; exact hown)
        clear HYES HNO hb0 hown
        go_wp2_with fail
        go_roundw
        case rel => exact ⟨k + 1, D7, by omega, by go_num, HO'.out, HM7.out, HK7.out, HKP7.out⟩
        case measure => simp [intOf]; omega
    · have hk' : k = m := by omega
      have HO' : Hid (OwnI W4.heap.size wo _ (fsR (sn : Int) (yn : Int) ps cs)) := Lib.hid (by rw [HR.out, ← hk']; exact hown)
      have hw4 := HB4.out.size
      have HBF : Hid (Below w.heap.size w wo) := Lib.hid (HB4.out.trans (hkp.1.mono hwM))
      clear hown hmk hkt hkp hk'
      go_wp2_with fail
      go_ret2
      exact ⟨_, ret_pair HC.out.symm, HO'.out.mono hw4, HBF.out⟩
end Go.Proofs.Ytloelbaaolhlhaa
/-
  The walk of FnExactFalseScans: program and model answer the same at every argument; neither writes into its arguments, and what is answered lies in new memory.
-/
namespace Go.Proofs.Ytloelbaaolhlhaa.fnExactFalseScans
open Go Go.RowKit
set_option linter.unusedVariables false

set_option maxHeartbeats 16000000 in
set_option maxRecDepth 100000 in
theorem walk (st0 sy0 : Int) (a0 : Option Addr) (len0 cap0 : Nat) (ps0 : List Lan) (a1 : Option Addr) (len1 cap1 : Nat) (ps1 : List (Int × Int)) (w : World) (hh0 : (IsRowLa w a0 len0 cap0 ps0 ∧ FitsLa ps0) ∧ (-128 ≤ st0 ∧ st0 ≤ 127) ∧ (-32768 ≤ sy0 ∧ sy0 ≤ 32767)) (hh1 : IsRowSc w a1 len1 cap1 ps1 ∧ FitsSc ps1) :
    Calls Try.prog 11 #[.agg #[.int .i8 st0, .int .i16 sy0, .slice a0 len0 cap0], .slice a1 len1 cap1] w fun e w' => e = .returned (.bool true) ∧ Below w.heap.size w w' := by
  obtain ⟨⟨hr0, hf0⟩, hst0, hsy0⟩ := hh0
  have HFQ0 := Lib.hid hf0
  have HST0 := Lib.hid hst0
  have HSY0 := Lib.hid hsy0
  have HN0 := Lib.hid hr0.len_ok
  clear hf0 hst0 hsy0
  obtain ⟨hr1, hf1⟩ := hh1
  have HF1 := Lib.hid hf1
  have HN1 := Lib.hid hr1.len_ok
  clear hf1
  by_cases hm0 : 0 ≤ 1048576 - (len0 : Int)
  rotate_left
  · have t0 : decide (1048576 - (len0 : Int) < 0) = true := decide_eq_true (by omega)
    go_enter Try.func11, Try.ntmps11
    go_wp2_with fail
    have b1 : Below w.heap.size w (w.alloc (.cells #[.int .i8 st0, .int .i16 sy0, .slice a0 len0 cap0] 26)) := ((Below.refl _ _).alloc (Nat.le_refl _) _)
    have BX0 : BlkA (w.alloc (.cells #[.int .i8 st0, .int .i16 sy0, .slice a0 len0 cap0] 26)) (w.heap.size) 26 #[.int .i8 st0, .int .i16 sy0, .slice a0 len0 cap0] := (BlkA.new rfl _ _)
    generalize (w.alloc (.cells #[.int .i8 st0, .int .i16 sy0, .slice a0 len0 cap0] 26)) = w1 at b1 BX0 ⊢
    have c1 := b1
    have hs1 : w.heap.size ≤ w1.heap.size := b1.size
    have hb0 : w.heap.size < w1.heap.size := BX0.lt
    have va0_0_1 : w1.cell? ⟨w.heap.size, 0, none⟩ = some (.int .i8 st0) := (BX0).at 0
    have va0_1_1 : w1.cell? ⟨w.heap.size, 1, none⟩ = some (.int .i16 sy0) := (BX0).at 1
    have va0_2_1 : w1.cell? ⟨w.heap.size, 2, none⟩ = some (.slice a0 len0 cap0) := (BX0).at 2
    have la0_1 : w.heap.size < w1.heap.size := (BX0).lt
    go_wp2_with fail
    refine (szNet_big st0 sy0 a0 len0 cap0 1048576 (by omega) (by omega) (by omega) HN0.out _).mono ?_
    rintro e w2 ⟨rfl, b2⟩
    have c2 : Below w.heap.size w w2 := blink c1 b2
    have hs2 : w1.heap.size ≤ w2.heap.size := b2.size
    go_wp2_with fail
    go_ret
    exact ⟨rfl, c2⟩
  have t0 : decide (1048576 - (len0 : Int) < 0) = false := decide_eq_false (by omega)
  by_cases hm1 : 0 ≤ (1048576 - (len0 : Int)) - (len1 : Int)
  rotate_left
  · have t1 : decide ((1048576 - (len0 : Int)) - (len1 : Int) < 0) = true := decide_eq_true (by omega)
    go_enter Try.func11, Try.ntmps11
    go_wp2_with fail
    have b1 : Below w.heap.size w (w.alloc (.cells #[.int .i8 st0, .int .i16 sy0, .slice a0 len0 cap0] 26)) := ((Below.refl _ _).alloc (Nat.le_refl _) _)
    have BX0 : BlkA (w.alloc (.cells #[.int .i8 st0, .int .i16 sy0, .slice a0 len0 cap0] 26)) (w.heap.size) 26 #[.int .i8 st0, .int .i16 sy0, .slice a0 len0 cap0] := (BlkA.new rfl _ _)
    generalize (w.alloc (.cells #[.int .i8 st0, .int .i16 sy0, .slice a0 len0 cap0] 26)) = w1 at b1 BX0 ⊢
    have c1 := b1
    have hs1 : w.heap.size ≤ w1.heap.size := b1.size
    have hb0 : w.heap.size < w1.heap.size := BX0.lt
    have va0_0_1 : w1.cell? ⟨w.heap.size, 0, none⟩ = some (.int .i8 st0) := (BX0).at 0
    have va0_1_1 : w1.cell? ⟨w.heap.size, 1, none⟩ = some (.int .i16 sy0) := (BX0).at 1
    have va0_2_1 : w1.cell? ⟨w.heap.size, 2, none⟩ = some (.slice a0 len0 cap0) := (BX0).at 2
    have la0_1 : w.heap.size < w1.heap.size := (BX0).lt
    go_wp2_with fail
    refine (szNet_fit st0 sy0 a0 len0 cap0 1048576 (by omega) (by omega) _).mono ?_
    rintro e w2 ⟨rfl, b2⟩
    have c2 : Below w.heap.size w w2 := blink c1 b2
    have hs2 : w1.heap.size ≤ w2.heap.size := b2.size
    go_wp2_with fail
    refine (szScanS_big a1 len1 cap1 (1048576 - (len0 : Int)) (by omega) (by omega) (by omega) HN1.out _).mono ?_
    rintro e we ⟨rfl, rfl⟩
    go_wp2_with fail
    go_ret
    exact ⟨rfl, c2⟩
  have t1 : decide ((1048576 - (len0 : Int)) - (len1 : Int) < 0) = false := decide_eq_false (by omega)
  have hlq0 : ps0.length = len0 := hr0.len_eq
  have HX0 : Hid (ps0.length ≤ 1048576) := Lib.hid (by omega)
  have HL0 : Hid (len0 ≤ 1048576) := Lib.hid (by omega)
  have hxb0 : ps0.length ≤ 1048576 := HX0.out
  clear hlq0
  have HF0 : Hid (FitN st0 sy0 ps0) := Lib.hid ⟨HST0.out, HSY0.out, HFQ0.out, HX0.out⟩
  have hlq1 : ps1.length = len1 := hr1.len_eq
  have HX1 : Hid (ps1.length ≤ 1048576) := Lib.hid (by omega)
  have HL1 : Hid (len1 ≤ 1048576) := Lib.hid (by omega)
  have hxb1 : ps1.length ≤ 1048576 := HX1.out
  clear hlq1
  have hlb0 := fsR_len st0 sy0 ps0 ps1
  have HLB0 : Hid ((fsR st0 sy0 ps0 ps1).length ≤ 1048576) := Lib.hid (by omega)
  go_enter Try.func11, Try.ntmps11
  go_wp2_with fail
  have b1 : Below w.heap.size w (w.alloc (.cells #[.int .i8 st0, .int .i16 sy0, .slice a0 len0 cap0] 26)) := ((Below.refl _ _).alloc (Nat.le_refl _) _)
  have BX0 : BlkA (w.alloc (.cells #[.int .i8 st0, .int .i16 sy0, .slice a0 len0 cap0] 26)) (w.heap.size) 26 #[.int .i8 st0, .int .i16 sy0, .slice a0 len0 cap0] := (BlkA.new rfl _ _)
  generalize (w.alloc (.cells #[.int .i8 st0, .int .i16 sy0, .slice a0 len0 cap0] 26)) = w1 at b1 BX0 ⊢
  have c1 := b1
  have hs1 : w.heap.size ≤ w1.heap.size := b1.size
  have hb0 : w.heap.size < w1.heap.size := BX0.lt
  have va0_0_1 : w1.cell? ⟨w.heap.size, 0, none⟩ = some (.int .i8 st0) := (BX0).at 0
  have va0_1_1 : w1.cell? ⟨w.heap.size, 1, none⟩ = some (.int .i16 sy0) := (BX0).at 1
  have va0_2_1 : w1.cell? ⟨w.heap.size, 2, none⟩ = some (.slice a0 len0 cap0) := (BX0).at 2
  have la0_1 : w.heap.size < w1.heap.size := (BX0).lt
  go_wp2_with fail
  refine (szNet_fit st0 sy0 a0 len0 cap0 1048576 (by omega) (by omega) _).mono ?_
  rintro e w2 ⟨rfl, b2⟩
  have c2 : Below w.heap.size w w2 := blink c1 b2
  have hs2 : w1.heap.size ≤ w2.heap.size := b2.size
  go_wp2_with fail
  refine (szScanS_fit a1 len1 cap1 (1048576 - (len0 : Int)) (by omega) (by omega) _).mono ?_
  rintro e we ⟨rfl, rfl⟩
  have va0_0_2 : w2.cell? ⟨w.heap.size, 0, none⟩ = some (.int .i8 st0) := ((BX0).below b2).at 0
  have va0_1_2 : w2.cell? ⟨w.heap.size, 1, none⟩ = some (.int .i16 sy0) := ((BX0).below b2).at 1
  have va0_2_2 : w2.cell? ⟨w.heap.size, 2, none⟩ = some (.slice a0 len0 cap0) := ((BX0).below b2).at 2
  have la0_2 : w.heap.size < w2.heap.size := ((BX0).below b2).lt
  go_wp2_with fail
  refine (toNet_any st0 sy0 a0 len0 cap0 ps0 _ (hr0.below c2) HL0.out).mono ?_
  rintro e w3 ⟨g3, rfl, o3, b3⟩
  have c3 : Below w.heap.size w w3 := blink c2 b3
  have hs3 : w2.heap.size ≤ w3.heap.size := b3.size
  have lo3 : Hid (∀ k, Value.ownBlock (.slice (some ⟨g3, 0, none⟩) len0 len0) = some k → w2.heap.size ≤ k ∧ k < w3.heap.size) := Lib.hid o3.block
  go_wp2_with fail
  refine (toScanS_any a1 len1 cap1 ps1 _ (hr1.below c3) HL1.out).mono ?_
  rintro e w4 ⟨rfl, o4, b4⟩
  have c4 : Below w.heap.size w w4 := blink c3 b4
  have hs4 : w3.heap.size ≤ w4.heap.size := b4.size
  have lo4 : Hid (∀ k, Value.ownBlock (.slice (some ⟨w3.heap.size, 0, none⟩) len1 len1) = some k → w3.heap.size ≤ k ∧ k < w4.heap.size) := Lib.hid o4.block
  go_wp2_with fail
  refine (sfc_any _ _ _ _ _ ps0 ps1 _ HF0.out HF1.out ((o3).below b4).reads (o4).reads HX1.out).mono ?_
  rintro e w5 ⟨sv0, rfl, so0, b5⟩
  have c5 : Below w.heap.size w w5 := blink c4 b5
  have hs5 : w4.heap.size ≤ w5.heap.size := b5.size
  have lso0 : Hid (∀ k, Value.ownBlock sv0 = some k → w4.heap.size ≤ k ∧ k < w5.heap.size) := Lib.hid so0.block
  have va0_0_5 : w5.cell? ⟨w.heap.size, 0, none⟩ = some (.int .i8 st0) := (((((BX0).below b2).below b3).below b4).below b5).at 0
  have va0_1_5 : w5.cell? ⟨w.heap.size, 1, none⟩ = some (.int .i16 sy0) := (((((BX0).below b2).below b3).below b4).below b5).at 1
  have va0_2_5 : w5.cell? ⟨w.heap.size, 2, none⟩ = some (.slice a0 len0 cap0) := (((((BX0).below b2).below b3).below b4).below b5).at 2
  have la0_5 : w.heap.size < w5.heap.size := (((((BX0).below b2).below b3).below b4).below b5).lt
  go_wp2_with fail
  refine (toNet_any st0 sy0 a0 len0 cap0 ps0 _ (hr0.below c5) HL0.out).mono ?_
  rintro e w6 ⟨g6, rfl, o6, b6⟩
  have c6 : Below w.heap.size w w6 := blink c5 b6
  have hs6 : w5.heap.size ≤ w6.heap.size := b6.size
  have lo6 : Hid (∀ k, Value.ownBlock (.slice (some ⟨g6, 0, none⟩) len0 len0) = some k → w5.heap.size ≤ k ∧ k < w6.heap.size) := Lib.hid o6.block
  have va0_0_6 : w6.cell? ⟨w.heap.size, 0, none⟩ = some (.int .i8 st0) := ((((((BX0).below b2).below b3).below b4).below b5).below b6).at 0
  have va0_1_6 : w6.cell? ⟨w.heap.size, 1, none⟩ = some (.int .i16 sy0) := ((((((BX0).below b2).below b3).below b4).below b5).below b6).at 1
  have va0_2_6 : w6.cell? ⟨w.heap.size, 2, none⟩ = some (.slice a0 len0 cap0) := ((((((BX0).below b2).below b3).below b4).below b5).below b6).at 2
  have la0_6 : w.heap.size < w6.heap.size := ((((((BX0).below b2).below b3).below b4).below b5).below b6).lt
  go_wp2_with fail
  have b7 : Below w6.heap.size w6 (w6.alloc (.cells #[.int .i8 st0, .int .i16 sy0, .slice (some ⟨g6, 0, none⟩) len0 len0] 35)) := (Below.refl _ _).alloc (Nat.le_refl _) _
  have BY0 : BlkA (w6.alloc (.cells #[.int .i8 st0, .int .i16 sy0, .slice (some ⟨g6, 0, none⟩) len0 len0] 35)) w6.heap.size 35 #[.int .i8 st0, .int .i16 sy0, .slice (some ⟨g6, 0, none⟩) len0 len0] := BlkA.new rfl _ _
  generalize (w6.alloc (.cells #[.int .i8 st0, .int .i16 sy0, .slice (some ⟨g6, 0, none⟩) len0 len0] 35)) = w7 at b7 BY0 ⊢
  have c7 : Below w.heap.size w w7 := blink c6 b7
  have hs7 : w6.heap.size ≤ w7.heap.size := b7.size
  have hx0 : w6.heap.size < w7.heap.size := BY0.lt
  go_wp2_with fail
  refine (toScanS_any a1 len1 cap1 ps1 _ (hr1.below c7) HL1.out).mono ?_
  rintro e w8 ⟨rfl, o8, b8⟩
  have c8 : Below w.heap.size w w8 := blink c7 b8
  have hs8 : w7.heap.size ≤ w8.heap.size := b8.size
  have lo8 : Hid (∀ k, Value.ownBlock (.slice (some ⟨w7.heap.size, 0, none⟩) len1 len1) = some k → w7.heap.size ≤ k ∧ k < w8.heap.size) := Lib.hid o8.block
  have vx0_0_8 : w8.cell? ⟨w6.heap.size, 0, none⟩ = some (.int .i8 st0) := ((BY0).below b8).at 0
  have vx0_1_8 : w8.cell? ⟨w6.heap.size, 1, none⟩ = some (.int .i16 sy0) := ((BY0).below b8).at 1
  have vx0_2_8 : w8.cell? ⟨w6.heap.size, 2, none⟩ = some (.slice (some ⟨g6, 0, none⟩) len0 len0) := ((BY0).below b8).at 2
  have lx0_8 : w6.heap.size < w8.heap.size := ((BY0).below b8).lt
  go_wp2_with fail
  refine (ifc_any _ _ _ _ _ ps0 ps1 _ HF0.out HF1.out (((o6).below b7).below b8).reads (o8).reads HX1.out).mono ?_
  rintro e w9 ⟨gv0, rfl, go0, b9⟩
  have c9 : Below w.heap.size w w9 := blink c8 b9
  have hs9 : w8.heap.size ≤ w9.heap.size := b9.size
  have lgo0 : Hid (∀ k, Value.ownBlock gv0 = some k → w8.heap.size ≤ k ∧ k < w9.heap.size) := Lib.hid go0.block
  go_wp2_with fail
  refine (eqI_any _ _ (fsR st0 sy0 ps0 ps1) (fsR st0 sy0 ps0 ps1) _ (go0).reads (((((so0).below b6).below b7).below b8).below b9).reads (HLB0.out) (HLB0.out)).mono ?_
  rintro e w10 ⟨rfl, b10⟩
  have c10 : Below w.heap.size w w10 := blink c9 b10
  have hs10 : w9.heap.size ≤ w10.heap.size := b10.size
  rw [eqB_true rfl]
  have CD10 : Below w.heap.size w w10.drew := Below.drew c10
  have BD10 : Below w10.heap.size w10 w10.drew := (Below.refl _ _).drew
  have SD10 : w10.drew.cell? ⟨w.heap.size, 0, none⟩ = some (.int .i8 st0) ∧ w10.drew.cell? ⟨w.heap.size, 1, none⟩ = some (.int .i16 sy0) ∧ w10.drew.cell? ⟨w.heap.size, 2, none⟩ = some (.slice a0 len0 cap0) ∧ w10.drew.cell? ⟨w6.heap.size, 0, none⟩ = some (.int .i8 st0) ∧ w10.drew.cell? ⟨w6.heap.size, 1, none⟩ = some (.int .i16 sy0) ∧ w10.drew.cell? ⟨w6.heap.size, 2, none⟩ = some (.slice (some ⟨g6, 0, none⟩) len0 len0) := ⟨cbl BD10 (((((((((((BX0).below b2).below b3).below b4).below b5).below b6).below b7).below b8).below b9).below b10).at 0), cbl BD10 (((((((((((BX0).below b2).below b3).below b4).below b5).below b6).below b7).below b8).below b9).below b10).at 1), cbl BD10 (((((((((((BX0).below b2).below b3).below b4).below b5).below b6).below b7).below b8).below b9).below b10).at 2), cbl BD10 (((((BY0).below b8).below b9).below b10).at 0), cbl BD10 (((((BY0).below b8).below b9).below b10).at 1), cbl BD10 (((((BY0).below b8).below b9).below b10).at 2)⟩
  go_wp2_with fail
  go_region_held3 (fun v => v.cell? ⟨w.heap.size, 0, none⟩ = some (.int .i8 st0) ∧ v.cell? ⟨w.heap.size, 1, none⟩ = some (.int .i16 sy0) ∧ v.cell? ⟨w.heap.size, 2, none⟩ = some (.slice a0 len0 cap0) ∧ v.cell? ⟨w6.heap.size, 0, none⟩ = some (.int .i8 st0) ∧ v.cell? ⟨w6.heap.size, 1, none⟩ = some (.int .i16 sy0) ∧ v.cell? ⟨w6.heap.size, 2, none⟩ = some (.slice (some ⟨g6, 0, none⟩) len0 len0)) (first | exact zS12 | exact zS11 | exact SD10) (first | (go_at_call 16; (with_reducible refine (toNet_any st0 sy0 a0 len0 cap0 ps0 _ (hr0.below CD10) HL0.out).mono ?_); rintro e w11 ⟨g11, rfl, o11, d11⟩; have b11 : Below w10.heap.size w10 w11 := BD10.trans (d11.mono (Nat.le_refl _)); have zS11 : w11.cell? ⟨w.heap.size, 0, none⟩ = some (.int .i8 st0) ∧ w11.cell? ⟨w.heap.size, 1, none⟩ = some (.int .i16 sy0) ∧ w11.cell? ⟨w.heap.size, 2, none⟩ = some (.slice a0 len0 cap0) ∧ w11.cell? ⟨w6.heap.size, 0, none⟩ = some (.int .i8 st0) ∧ w11.cell? ⟨w6.heap.size, 1, none⟩ = some (.int .i16 sy0) ∧ w11.cell? ⟨w6.heap.size, 2, none⟩ = some (.slice (some ⟨g6, 0, none⟩) len0 len0) := ⟨cbl d11 SD10.1, cbl d11 SD10.2.1, cbl d11 SD10.2.2.1, cbl d11 SD10.2.2.2.1, cbl d11 SD10.2.2.2.2.1, cbl d11 SD10.2.2.2.2.2⟩) | (go_at_call 20; (with_reducible refine (eqNet_eq st0 sy0 _ _ ps0 _ (((((((o6).below b7).below b8).below b9).below b10).below BD10).below d11).reads o11.reads HX0.out).mono ?_); rintro e w12 ⟨rfl, b12⟩; have zS12 : w12.cell? ⟨w.heap.size, 0, none⟩ = some (.int .i8 st0) ∧ w12.cell? ⟨w.heap.size, 1, none⟩ = some (.int .i16 sy0) ∧ w12.cell? ⟨w.heap.size, 2, none⟩ = some (.slice a0 len0 cap0) ∧ w12.cell? ⟨w6.heap.size, 0, none⟩ = some (.int .i8 st0) ∧ w12.cell? ⟨w6.heap.size, 1, none⟩ = some (.int .i16 sy0) ∧ w12.cell? ⟨w6.heap.size, 2, none⟩ = some (.slice (some ⟨g6, 0, none⟩) len0 len0) := ⟨cbl b12 zS11.1, cbl b12 zS11.2.1, cbl b12 zS11.2.2.1, cbl b12 zS11.2.2.2.1, cbl b12 zS11.2.2.2.2.1, cbl b12 zS11.2.2.2.2.2⟩))
  have c11 : Below w.heap.size w w11 := blink c10 b11
  have hs11 : w10.heap.size ≤ w11.heap.size := b11.size
  have c12 : Below w.heap.size w w12 := blink c11 b12
  have hs12 : w11.heap.size ≤ w12.heap.size := b12.size
  clear zS11 zS12 SD10 CD10 BD10
  go_wp2_with fail
  refine (toScanS_any a1 len1 cap1 ps1 _ (hr1.below c12) HL1.out).mono ?_
  rintro e w13 ⟨rfl, o13, b13⟩
  have c13 : Below w.heap.size w w13 := blink c12 b13
  have hs13 : w12.heap.size ≤ w13.heap.size := b13.size
  have lo13 : Hid (∀ k, Value.ownBlock (.slice (some ⟨w12.heap.size, 0, none⟩) len1 len1) = some k → w12.heap.size ≤ k ∧ k < w13.heap.size) := Lib.hid o13.block
  go_wp2_with fail
  refine (eqScanS_eq _ _ ps1 _ ((((((o8).below b9).below b10).below b11).below b12).below b13).reads (o13).reads (HX1.out)).mono ?_
  rintro e w14 ⟨rfl, b14⟩
  have c14 : Below w.heap.size w w14 := blink c13 b14
  have hs14 : w13.heap.size ≤ w14.heap.size := b14.size
  have vx0_0_14 : w14.cell? ⟨w6.heap.size, 0, none⟩ = some (.int .i8 st0) := ((((((((BY0).below b8).below b9).below b10).below b11).below b12).below b13).below b14).at 0
  have vx0_1_14 : w14.cell? ⟨w6.heap.size, 1, none⟩ = some (.int .i16 sy0) := ((((((((BY0).below b8).below b9).below b10).below b11).below b12).below b13).below b14).at 1
  have vx0_2_14 : w14.cell? ⟨w6.heap.size, 2, none⟩ = some (.slice (some ⟨g6, 0, none⟩) len0 len0) := ((((((((BY0).below b8).below b9).below b10).below b11).below b12).below b13).below b14).at 2
  have lx0_14 : w6.heap.size < w14.heap.size := ((((((((BY0).below b8).below b9).below b10).below b11).below b12).below b13).below b14).lt
  go_wp2_with fail
  refine (markNet_any _ _ st0 sy0 _ ps0 _ _ (((((((((o6).below b7).below b8).below b9).below b10).below b11).below b12).below b13).below b14) (by omega) (by omega) HX0.out).mono ?_
  rintro e w15 ⟨rfl, mk1, G15⟩
  have K15 : KeepsOut w5.heap.size w6.heap.size w14 w15 := G15 _ _ (fun k hk => by have := lo6.out k hk; omega)
  have c15 : Below w.heap.size w w15 := kout_below c14 K15 (by omega) (by omega)
  have hs15 : w14.heap.size ≤ w15.heap.size := K15.size
  go_wp2_with fail
  refine (markSc_any _ _ _ ps1 _ _ ((((((((o8).below b9).below b10).below b11).below b12).below b13).below b14).out K15 (fun k hk => by have := lo8.out k hk; omega)) (by omega) (by omega) (HX1.out)).mono ?_
  rintro e w16 ⟨rfl, mk2, g16⟩
  have K16 : KeepsOut w7.heap.size w8.heap.size w15 w16 := keepsOut_grown g16 (fun k hk => by have := lo8.out k hk; omega)
  have c16 : Below w.heap.size w w16 := kout_below c15 K16 (by omega) (by omega)
  have hs16 : w15.heap.size ≤ w16.heap.size := K16.size
  have lmk2 : Hid (∀ k, Value.ownBlock (.slice (some ⟨w7.heap.size, 0, none⟩) len1 len1) = some k → w7.heap.size ≤ k ∧ k < w8.heap.size) := lo8
  go_wp2_with fail
  refine (eqI_any _ _ (fsR st0 sy0 ps0 ps1) (fsR st0 sy0 ps0 ps1) _ ((((((((go0).below b10).below b11).below b12).below b13).below b14).out K15 (fun k hk => by have := lgo0.out k hk; omega)).out K16 (fun k hk => by have := lgo0.out k hk; omega)).reads ((((((((((((so0).below b6).below b7).below b8).below b9).below b10).below b11).below b12).below b13).below b14).out K15 (fun k hk => by have := lso0.out k hk; omega)).out K16 (fun k hk => by have := lso0.out k hk; omega)).reads (HLB0.out) (HLB0.out)).mono ?_
  rintro e w17 ⟨rfl, b17⟩
  have c17 : Below w.heap.size w w17 := blink c16 b17
  have hs17 : w16.heap.size ≤ w17.heap.size := b17.size
  rw [eqB_true rfl]
  go_wp2_with fail
  refine (mark_any _ _ (fsR st0 sy0 ps0 ps1) _ _ (((((((((go0).below b10).below b11).below b12).below b13).below b14).out K15 (fun k hk => by have := lgo0.out k hk; omega)).out K16 (fun k hk => by have := lgo0.out k hk; omega)).below b17) (by omega) (by omega) (HLB0.out)).mono ?_
  rintro e w18 ⟨rfl, mk3, g18⟩
  have K18 : KeepsOut w8.heap.size w9.heap.size w17 w18 := keepsOut_grown g18 (fun k hk => by have := lgo0.out k hk; omega)
  have c18 : Below w.heap.size w w18 := kout_below c17 K18 (by omega) (by omega)
  have hs18 : w17.heap.size ≤ w18.heap.size := K18.size
  have lmk3 : Hid (∀ k, Value.ownBlock gv0 = some k → w8.heap.size ≤ k ∧ k < w9.heap.size) := lgo0
  go_wp2_with fail
  refine (held_any _ _ _ _ (mk3).reads (by omega) (by omega) (HLB0.out)).mono ?_
  rintro e w19 ⟨rfl, b19⟩
  have c19 : Below w.heap.size w w19 := blink c18 b19
  have hs19 : w18.heap.size ≤ w19.heap.size := b19.size
  have va0_0_19 : w19.cell? ⟨w.heap.size, 0, none⟩ = some (.int .i8 st0) := (((((((((((((((((((BX0).below b2).below b3).below b4).below b5).below b6).below b7).below b8).below b9).below b10).below b11).below b12).below b13).below b14).out K15 (by omega)).out K16 (by omega)).below b17).out K18 (by omega)).below b19).at 0
  have va0_1_19 : w19.cell? ⟨w.heap.size, 1, none⟩ = some (.int .i16 sy0) := (((((((((((((((((((BX0).below b2).below b3).below b4).below b5).below b6).below b7).below b8).below b9).below b10).below b11).below b12).below b13).below b14).out K15 (by omega)).out K16 (by omega)).below b17).out K18 (by omega)).below b19).at 1
  have va0_2_19 : w19.cell? ⟨w.heap.size, 2, none⟩ = some (.slice a0 len0 cap0) := (((((((((((((((((((BX0).below b2).below b3).below b4).below b5).below b6).below b7).below b8).below b9).below b10).below b11).below b12).below b13).below b14).out K15 (by omega)).out K16 (by omega)).below b17).out K18 (by omega)).below b19).at 2
  have la0_19 : w.heap.size < w19.heap.size := (((((((((((((((((((BX0).below b2).below b3).below b4).below b5).below b6).below b7).below b8).below b9).below b10).below b11).below b12).below b13).below b14).out K15 (by omega)).out K16 (by omega)).below b17).out K18 (by omega)).below b19).lt
  go_wp2_with fail
  refine (toNet_any st0 sy0 a0 len0 cap0 ps0 _ (hr0.below c19) HL0.out).mono ?_
  rintro e w20 ⟨g20, rfl, o20, b20⟩
  have c20 : Below w.heap.size w w20 := blink c19 b20
  have hs20 : w19.heap.size ≤ w20.heap.size := b20.size
  have lo20 : Hid (∀ k, Value.ownBlock (.slice (some ⟨g20, 0, none⟩) len0 len0) = some k → w19.heap.size ≤ k ∧ k < w20.heap.size) := Lib.hid o20.block
  go_wp2_with fail
  refine (toScanS_any a1 len1 cap1 ps1 _ (hr1.below c20) HL1.out).mono ?_
  rintro e w21 ⟨rfl, o21, b21⟩
  have c21 : Below w.heap.size w w21 := blink c20 b21
  have hs21 : w20.heap.size ≤ w21.heap.size := b21.size
  have lo21 : Hid (∀ k, Value.ownBlock (.slice (some ⟨w20.heap.size, 0, none⟩) len1 len1) = some k → w20.heap.size ≤ k ∧ k < w21.heap.size) := Lib.hid o21.block
  go_wp2_with fail
  refine (ifc_any _ _ _ _ _ ps0 ps1 _ HF0.out HF1.out ((o20).below b21).reads (o21).reads HX1.out).mono ?_
  rintro e w22 ⟨hv0, rfl, ho0, b22⟩
  have c22 : Below w.heap.size w w22 := blink c21 b22
  have hs22 : w21.heap.size ≤ w22.heap.size := b22.size
  have lho0 : Hid (∀ k, Value.ownBlock hv0 = some k → w21.heap.size ≤ k ∧ k < w22.heap.size) := Lib.hid ho0.block
  go_wp2_with fail
  refine (eqI_any _ _ (fsR st0 sy0 ps0 ps1) (fsR st0 sy0 ps0 ps1) _ (ho0).reads ((((((((((((((((((so0).below b6).below b7).below b8).below b9).below b10).below b11).below b12).below b13).below b14).out K15 (fun k hk => by have := lso0.out k hk; omega)).out K16 (fun k hk => by have := lso0.out k hk; omega)).below b17).out K18 (fun k hk => by have := lso0.out k hk; omega)).below b19).below b20).below b21).below b22).reads (HLB0.out) (HLB0.out)).mono ?_
  rintro e w23 ⟨rfl, b23⟩
  have c23 : Below w.heap.size w w23 := blink c22 b23
  have hs23 : w22.heap.size ≤ w23.heap.size := b23.size
  rw [eqB_true rfl]
  go_wp2_with fail
  refine (held_any _ _ _ _ ((((((mk3).below b19).below b20).below b21).below b22).below b23).reads (by omega) (by omega) (HLB0.out)).mono ?_
  rintro e w24 ⟨rfl, b24⟩
  have c24 : Below w.heap.size w w24 := blink c23 b24
  have hs24 : w23.heap.size ≤ w24.heap.size := b24.size
  go_wp2_with fail
  go_ret
  exact ⟨rfl, c24⟩
end Go.Proofs.Ytloelbaaolhlhaa.fnExactFalseScans
namespace Go.Proofs.Ytloelbaaolhlhaa.fnExactFalseScans
open Go.ChangeShapes Go.WideShapes Go.ChangeAt Go.RowKit
open Go.ChangeMaps (open_string shut_string)
set_option linter.unusedVariables false

theorem own : ownKnob Try.prog.godebug = none := by kernel_rfl
theorem laidOut : laidOutB Try.prog = true := by kernel_rfl

set_option maxHeartbeats 1000000 in
set_option maxRecDepth 100000 in
theorem lifted (os : Os) (started : os.Started) (H : Type) (enc : TypeId × Value → H) :
    ReturnsInHanded {} Try.checked os 11 .any (Rows.fnExactFalseScansSpec.pre6 enc Try.prog Try.f11 Rows.fnExactFalseScansRow.domain false) (Rows.fnExactFalseScansSpec.post enc Try.prog Try.f11 false true false false) := by
  refine returnsInHanded_of_change (C := Try.checked) own started (by kernel_rfl) Try.func11
    (ChangeSpec.witness6 (enc := enc) (C := Try.checked) false ⟨#[], #[.agg #[.int .i8 0, .int .i16 0, .slice none 0 0], .slice none 0 0], []⟩ 8 (by kernel_rfl) (by kernel_rfl) (by kernel_rfl) (by kernel_rfl)) ?_
  intro W base args ds gs before hval0 hW hcnd _
  have hval : ∀ (j : Nat) t v, Try.f11.params[j]? = some t → args[j]? = some v → Value.okWide Try.prog W .any base t v := hval0
  have hW' := hW
  obtain ⟨p, q, hA0, hV, rfl, hfz, hnd⟩ := hW
  have hA : DataW.TrodAll enc Try.prog W 0 (fun _ => true) true Try.f11.params.toList args.toList ds p := hA0
  rw [Try.params11] at hA hval
  obtain ⟨v0, vs0, d0, ds0, p0, q0, hargs, rfl, rfl, h0, r0⟩ := trodAll_cons hA
  obtain ⟨v1, vs1, d1, ds1, p1, q1, rfl, rfl, rfl, h1, r1⟩ := trodAll_cons r0
  obtain ⟨rfl, rfl, rfl⟩ := trodAll_nil r1
  obtain rfl : args = #[v0, v1] := by cases args; simp_all
  obtain ⟨rfl, rfl⟩ := trodVars_none hV
  have k0 := h0
  have lt0 : ∀ x ∈ p0, x.block < W.heap.size := by obtain ⟨m, hm⟩ := k0; exact DataW.trod_lt m _ _ _ hm
  obtain ⟨u00, u01, u02, y00, y01, y02, n0, rfl, rfl, rfl, t00, t01, t02⟩ := Go.Joins.open_agg3 Try.underlying26 (by kernel_rfl) (by kernel_rfl) (hval 0 26 v0 rfl rfl) h0
  obtain ⟨x00, e00, _, wf00⟩ := DataW.trod_int Try.underlying22 t00
  simp only [List.cons.injEq, and_true] at e00
  subst e00
  obtain ⟨x01, e01, _, wf01⟩ := DataW.trod_int Try.underlying23 t01
  simp only [List.cons.injEq, and_true] at e01
  subst e01
  obtain ⟨a0, len0, cap0, z0, rfl, w0⟩ := openNetLanes t02
  have wn0 : (-128 ≤ x00 ∧ x00 ≤ 127) ∧ (-32768 ≤ x01 ∧ x01 ≤ 32767) := by
    simp [Lit.wf, IntKind.min, IntKind.max, IntKind.signed, IntKind.bits] at wf00 wf01
    omega
  obtain ⟨a1, len1, cap1, rfl⟩ := okWide_slice Try.underlying51 (hval 1 51 v1 rfl rfl)
  have k1 := h1
  have lt1 : ∀ x ∈ p1, x.block < W.heap.size := by obtain ⟨m, hm⟩ := k1; exact DataW.trod_lt m _ _ _ hm
  obtain ⟨fuel1, hf1⟩ := h1
  obtain ⟨z1, w1⟩ := openScan hf1
  clear hA0 hval0
  refine (walk (w := W) x00 x01 a0 len0 cap0 z0 a1 len1 cap1 z1 ⟨w0, wn0⟩ w1).mono fun e W' ⟨he, bel⟩ => ?_
  subst he
  exact ⟨_, rfl, _, _, _, [], _, [], hW', trodAll_mk1 (shut_bool Try.underlying4 _), (trodAll_cons_mk (Below.trod laidOut (by kernel_rfl) (of_decide_eq_true (by kernel_rfl)) k0 bel lt0) (trodAll_cons_mk (Below.trod laidOut (by kernel_rfl) (of_decide_eq_true (by kernel_rfl)) k1 bel lt1) trodAll_mk0)), rfl, bel.frame _, fun h => by cases h⟩

theorem over : Rows.fnExactFalseScansRow.holds Try.pinned (OpenSpec.ofChange Rows.fnExactFalseScansSpec) :=
  OpenClaim.holds_of_wide 11 Try.f11 rfl rfl rfl rfl rfl rfl rfl ⟨rfl, rfl, rfl, rfl, rfl⟩ rfl rfl rfl rfl rfl (by kernel_rfl) Try.func11 (by kernel_rfl)
    (of_decide_eq_true (by kernel_rfl)) (by unfold Func.isWrapper; first | (rw [if_pos (by decide +kernel)]; kernel_rfl) | (rw [if_neg (by decide +kernel)]; exact ⟨rfl, rfl⟩))
    (fun os started H enc _ => lifted os started H enc)

theorem proved : Rows.FnExactFalseScansSaid := over
#print axioms proved
end Go.Proofs.Ytloelbaaolhlhaa.fnExactFalseScans
