/-
  The program's CheckScans and FirstBadScan.
-/
import Derived.Test.YtloelbaaolhlhaaTkJ
namespace Go.Proofs.Ytloelbaaolhlhaa
open Go Go.RowKit
set_option linter.unusedVariables false

theorem KeptBut.setCell {M : Nat} {w w' : World} (h : KeptBut M w w') (p : Addr) (u : Value) (hp : p.block = M) : KeptBut M w (w'.setCell p u) :=
  ⟨h.1.setCell (by rw [hp]; exact Nat.le_refl _) u, by have := h.2.1; simpa using this, fun b hb hne => (heap_setCell_other w' p b u (by rw [hp]; exact hne)).trans (h.2.2 b hb hne)⟩

set_option maxHeartbeats 1000000 in
set_option maxRecDepth 100000 in
theorem itrk_any (st sy : Int) (v : Value) (ps : List Lan) (w : World) (hok : okNet st sy ps) (hv : ReadsLa w v ps) :
    Calls Try.prog 74 #[netV st sy v] w fun e w' => ∃ au cu M, e = .returned (trkV au (hopsL sy ps).length cu M) ∧ ReadsLa w' (.slice au (hopsL sy ps).length cu) (hopsL sy ps) ∧ ownsT w' M 0 (.map []) ∧ w.heap.size ≤ M ∧ Below w.heap.size w w' := by
  have HOK := Lib.hid hok
  have hb1 : Below w.heap.size w ((w.alloc (.cells #[.int .i8 st, .int .i16 sy, v] 35)).alloc (.cells #[.slice none 0 0, .map none] 109)) := ((Below.refl _ _).alloc (Nat.le_refl _) _).alloc (by simp) _
  have BN : BlkA ((w.alloc (.cells #[.int .i8 st, .int .i16 sy, v] 35)).alloc (.cells #[.slice none 0 0, .map none] 109)) w.heap.size 35 #[.int .i8 st, .int .i16 sy, v] := (BlkA.new rfl _ _).alloc _
  have BT : BlkA ((w.alloc (.cells #[.int .i8 st, .int .i16 sy, v] 35)).alloc (.cells #[.slice none 0 0, .map none] 109)) (w.heap.size + 1) 109 #[.slice none 0 0, .map none] := BlkA.new (by simp) _ _
  obtain ⟨W1, hW⟩ : ∃ W, ((w.alloc (.cells #[.int .i8 st, .int .i16 sy, v] 35)).alloc (.cells #[.slice none 0 0, .map none] 109)) = W := ⟨_, rfl⟩
  rw [hW] at hb1 BN BT
  have HW := Lib.hid hW
  have HV1 := Lib.hid (hv.below hb1)
  have HB1 := Lib.hid hb1
  have HBT := Lib.hid BT
  have n0 := BN.at 0
  have n1 := BN.at 1
  have n2 := BN.at 2
  obtain ⟨l, hl⟩ : ∃ l, (hopsL sy ps).length = l := ⟨_, rfl⟩
  have HLN := Lib.hid hl
  rw [hl]
  clear hW hb1 BN BT hok hv hl
  go_enter Try.func74, Try.ntmps74
  go_wp2_with fail
  rw [HW.out]
  go_wp2_with fail
  refine (ihops_any st sy v ps W1 HOK.out HV1.out).mono ?_
  rintro e w3 ⟨u, rfl, o3, b3⟩
  have hfar : ∃ au cu, u = .slice au (hopsL sy ps).length cu ∧ (hopsL sy ps ≠ [] → ∃ b, au = some ⟨b, 0, none⟩ ∧ W1.heap.size ≤ b ∧ CellsLa w3 b (hopsL sy ps)) := by
    rcases o3.cases with ⟨rfl, h0⟩ | ⟨g, cap, rfl, hB, _, _, _, hc, _⟩
    · exact ⟨none, 0, by rw [h0]; rfl, fun h => absurd h0 h⟩
    · exact ⟨_, cap, rfl, fun _ => ⟨g, rfl, hB, hc⟩⟩
  obtain ⟨au, cu, rfl, hfc⟩ := hfar
  have HFC := Lib.hid hfc
  rw [HLN.out]
  have hs1 : W1.heap.size = w.heap.size + 1 + 1 := by rw [← HW.out]; simp
  have hs13 : W1.heap.size ≤ w3.heap.size := b3.size
  have hk4 : KeptBut (w.heap.size + 1) w3 (w3.alloc (.map #[] 0)) := KeptBut.of_below ((Below.refl _ _).alloc (Nat.le_refl _) _) (by omega)
  have hb4 : Below w3.heap.size w3 (w3.alloc (.map #[] 0)) := (Below.refl _ _).alloc (Nat.le_refl _) _
  have hm4 : ownsT (w3.alloc (.map #[] 0)) w3.heap.size 0 (.map []) := World.ownsMap_made w3 _ _ _
  have BT4 := (HBT.out.below b3).below hb4
  obtain ⟨W4, hW4⟩ : ∃ W, w3.alloc (.map #[] 0) = W := ⟨_, rfl⟩
  rw [hW4] at hb4 hm4 BT4 hk4
  have HW4 := Lib.hid hW4
  have HB4 := Lib.hid (blink (blink HB1.out b3) hb4)
  have HM4 := Lib.hid hm4
  have HK4 := Lib.hid hk4
  have HBT4 := Lib.hid BT4
  have t0 := BT4.at 0
  have t1 := BT4.at 1
  have f0 := BlkA.frozen BT4 0
  have f1 := BlkA.frozen BT4 1
  have hs3 : w.heap.size ≤ w3.heap.size := (blink HB1.out b3).size
  have hmm := run_makeMap (P := Try.prog) 107 w3
  rw [HW4.out] at hmm
  clear o3 hfc hb4 hm4 BT4 hk4 hW4 b3
  go_wp2_with fail
  clear hmm
  have hkf := (HK4.out.setCell ⟨w.heap.size + 1, 0, none⟩ (.slice au l cu) rfl).setCell ⟨w.heap.size + 1, 1, none⟩ (.map (some w3.heap.size)) rfl
  have hbf : Below w.heap.size w ((W4.setCell ⟨w.heap.size + 1, 0, none⟩ (.slice au l cu)).setCell ⟨w.heap.size + 1, 1, none⟩ (.map (some w3.heap.size))) := (HB4.out.setCell (by simp) _).setCell (by simp) _
  have hof : ownsT ((W4.setCell ⟨w.heap.size + 1, 0, none⟩ (.slice au l cu)).setCell ⟨w.heap.size + 1, 1, none⟩ (.map (some w3.heap.size))) w3.heap.size 0 (.map []) := (HM4.out.setCell (a := ⟨w.heap.size + 1, 0, none⟩) (by simp; omega) _).setCell (a := ⟨w.heap.size + 1, 1, none⟩) (by simp; omega) _
  have hcf : BlkA ((W4.setCell ⟨w.heap.size + 1, 0, none⟩ (.slice au l cu)).setCell ⟨w.heap.size + 1, 1, none⟩ (.map (some w3.heap.size))) (w.heap.size + 1) 109 #[.slice au l cu, .map (some w3.heap.size)] := by
    have h := (HBT4.out.set 0 (.slice au l cu)).set 1 (.map (some w3.heap.size))
    simpa using h
  obtain ⟨W5, hW5⟩ : ∃ W, ((W4.setCell ⟨w.heap.size + 1, 0, none⟩ (.slice au l cu)).setCell ⟨w.heap.size + 1, 1, none⟩ (.map (some w3.heap.size))) = W := ⟨_, rfl⟩
  rw [hW5] at hkf hbf hof hcf ⊢
  have c0 := hcf.at 0
  have c1 := hcf.at 1
  clear t0 t1 f0 f1 hW5
  refine bodyPost_ret (v := trkV au l cu w3.heap.size) (by simp [results, Try.results74, go_sem, c0, c1]) rfl ⟨au, cu, _, rfl, ?_, hof, hs3, hbf⟩
  refine ⟨au, cu, by rw [HLN.out], fun hne => ?_⟩
  obtain ⟨b, e, hb, hc⟩ := HFC.out hne
  have hne2 : b ≠ w.heap.size + 1 := by omega
  refine ⟨b, e, fun i hi => ?_⟩
  obtain ⟨h0, h1, h2, h3⟩ := hc i hi
  exact ⟨hkf.cell hne2 h0, hkf.cell hne2 h1, hkf.cell hne2 h2, hkf.cell hne2 h3⟩
end Go.Proofs.Ytloelbaaolhlhaa
