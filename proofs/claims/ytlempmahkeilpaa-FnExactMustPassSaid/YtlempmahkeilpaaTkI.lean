/-
  The program's tracker: canGo and firstBad.
-/
import Derived.Test.YtlempmahkeilpaaTkP
namespace Go.Proofs.Ytlempmahkeilpaa
open Go Go.RowKit
set_option linter.unusedVariables false

abbrev ownsT (w : World) (M n : Nat) (D : DataW Unit) : Prop := w.ownsMap Try.prog 37 RT M n D
abbrev trkV (au : Option Addr) (l cu M : Nat) : Value := .agg #[.slice au l cu, .map (some M)]

theorem KeptBut.setRow {M : Nat} {w w3 : World} (h : KeptBut M w w3) (B : Nat) (cs : Array Value) (hB : w.heap.size ≤ B) (hM : M ≤ B) (hs : M ≤ w3.heap.size) : KeptBut M w (w3.setRow B cs) :=
  ⟨h.1.grown (grown_setRow w3 B cs) hs (fun i hi => by cases hi; exact hM), by have := h.2.1; simpa [World.setRow] using this, fun b hb hne => ((grown_setRow w3 B cs).block b (Nat.lt_of_lt_of_le hb h.2.1) (by simp; omega)).trans (h.2.2 b hb hne)⟩
theorem BlkA.rowed {w : World} {B : Nat} {T : TypeId} {vs : Array Value} (h : BlkA w B T vs) (g : Nat) (cs : Array Value) (hne : B ≠ g) : BlkA (w.setRow g cs) B T vs := ((grown_setRow w g cs).block B (BlkA.lt h) (by simpa using hne)).trans h
theorem BlkA.kept {w w' : World} {B M : Nat} {T : TypeId} {vs : Array Value} (h : BlkA w B T vs) (k : KeptBut M w w') (hne : B ≠ M) : BlkA w' B T vs := (k.2.2 B (BlkA.lt h) hne).trans h
/-- What the map tells of a scan. -/
theorem look_T {M n : Nat} {D : DataW Unit} {yn : Nat} {ps : List Lan} (K : KTr yn ps D) {s h : Nat} (hs : s < 8) (hh : h ≤ 300) :
    ∃ T b, TOk T ∧ (∀ W, ownsT W M n D → (Instr.lookup 115 (.map (some M)) (.agg #[.int .i8 (s : Int), .int .i16 (h : Int)]) true).run Try.prog W = .ok (.tuple #[tv T, .bool b]) W) ∧ ((b = true ∧ ∃ k, T = rarr yn ps s h k ∧ rend yn ps s h k) ∨ (b = false ∧ T = t0)) := by
  have hkey := klS_key hs hh
  have key : ∀ T b, TOk T → D.atKey (klS s h) (encT t0) = encT T → Maps.has D (klS s h) = b → ∀ W, ownsT W M n D → (Instr.lookup 115 (.map (some M)) (.agg #[.int .i8 (s : Int), .int .i16 (h : Int)]) true).run Try.prog W = .ok (.tuple #[tv T, .bool b]) W := fun T b hT ha hb W ho => by
    obtain ⟨v, qs, hrun, hv⟩ := ho.look_ok keyedS Try.underlying115 (zero_times W) (RT_mk t0_ok) hkey
    obtain ⟨U, hU, rfl, hy⟩ := RT_inv hv
    rw [ha] at hy
    simp only [Prod.mk.injEq] at hy
    rw [encT_inj hy.1, ← hb]
    exact hrun
  cases hb : Maps.has D (klS s h)
  · exact ⟨t0, false, t0_ok, key t0 false t0_ok (Maps.atKey_of_not_has hb _) hb, .inr ⟨rfl, rfl⟩⟩
  · obtain ⟨k, h1, h2⟩ := K.at_ s h hs hh hb
    exact ⟨rarr yn ps s h k, true, rarr_ok yn ps s h hh k, key _ true (rarr_ok yn ps s h hh k) h1 hb, .inl ⟨rfl, k, rfl, h2⟩⟩

set_option maxHeartbeats 1000000 in
set_option maxRecDepth 100000 in
theorem icango_any (au : Option Addr) (cu M n : Nat) (D : DataW Unit) (sn yn : Nat) (ps : List Lan) (s0 h0 s1 h1 : Nat) (w : World) (hok : okNet (sn : Int) (yn : Int) ps) (hpl : ps.length ≤ 1048576) (hs0 : s0 < 8) (hh0 : h0 ≤ 300) (hs1 : s1 < 8) (hh1 : h1 ≤ 300)
    (hr : ReadsLa w (.slice au (hopsL (yn : Int) ps).length cu) (hopsL (yn : Int) ps)) (hm : ownsT w M n D) (hk : KTr yn ps D) (hn : n < 1000000) :
    Calls Try.prog 68 #[trkV au (hopsL (yn : Int) ps).length cu M, scv s0 h0, scv s1 h1] w fun e w' => ∃ D', e = .returned (.bool (arrB ps (-1) (yn : Int) s0 h0 s1 h1)) ∧ ownsT w' M (n + 1) D' ∧ KTr yn ps D' ∧ KeptBut M w w' := by
  have HOK := Lib.hid hok
  have HR := Lib.hid hr
  have HM := Lib.hid hm
  have HK := Lib.hid hk
  have hML : M < w.heap.size := hm.lt
  obtain ⟨l, hl⟩ : ∃ l, (hopsL (yn : Int) ps).length = l := ⟨_, rfl⟩
  have HLN := Lib.hid hl
  have hlb : l ≤ 1048576 := by rw [← hl, hopsL_len]; exact hpl
  rw [hl] at HR ⊢
  have hb1 : Below w.heap.size w (((w.alloc (.cells #[.slice au l cu, .map (some M)] 117)).alloc (.cells #[.int .i8 (s0 : Int), .int .i16 (h0 : Int)] 37)).alloc (.cells #[.int .i8 (s1 : Int), .int .i16 (h1 : Int)] 37)) := (((Below.refl _ _).alloc (Nat.le_refl _) _).alloc (by simp) _).alloc (by simp; omega) _
  have BT : BlkA (((w.alloc (.cells #[.slice au l cu, .map (some M)] 117)).alloc (.cells #[.int .i8 (s0 : Int), .int .i16 (h0 : Int)] 37)).alloc (.cells #[.int .i8 (s1 : Int), .int .i16 (h1 : Int)] 37)) w.heap.size 117 #[.slice au l cu, .map (some M)] := ((BlkA.new rfl _ _).alloc _).alloc _
  have BX : BlkA (((w.alloc (.cells #[.slice au l cu, .map (some M)] 117)).alloc (.cells #[.int .i8 (s0 : Int), .int .i16 (h0 : Int)] 37)).alloc (.cells #[.int .i8 (s1 : Int), .int .i16 (h1 : Int)] 37)) (w.heap.size + 1) 37 #[.int .i8 (s0 : Int), .int .i16 (h0 : Int)] := (BlkA.new (by simp) _ _).alloc _
  have BY : BlkA (((w.alloc (.cells #[.slice au l cu, .map (some M)] 117)).alloc (.cells #[.int .i8 (s0 : Int), .int .i16 (h0 : Int)] 37)).alloc (.cells #[.int .i8 (s1 : Int), .int .i16 (h1 : Int)] 37)) (w.heap.size + 1 + 1) 37 #[.int .i8 (s1 : Int), .int .i16 (h1 : Int)] := BlkA.new (by simp) _ _
  obtain ⟨W1, hW⟩ : ∃ W, (((w.alloc (.cells #[.slice au l cu, .map (some M)] 117)).alloc (.cells #[.int .i8 (s0 : Int), .int .i16 (h0 : Int)] 37)).alloc (.cells #[.int .i8 (s1 : Int), .int .i16 (h1 : Int)] 37)) = W := ⟨_, rfl⟩
  rw [hW] at hb1 BT BX BY
  have HW := Lib.hid hW
  clear hW hl hok hr hm hk
  go_enter Try.func68, Try.ntmps68
  go_wp2_with fail
  rw [HW.out]
  obtain ⟨T, b, hT, hlk, hcase⟩ := look_T (M := M) (n := n) HK.out hs0 hh0
  have HT := Lib.hid hT
  have HC := Lib.hid hcase
  have HM1 : Hid (ownsT W1 M n D) := Lib.hid (ownT_below HM.out hb1 hML)
  have hlook := hlk W1 HM1.out
  have hML1 : M < W1.heap.size := Nat.lt_of_lt_of_le hML hb1.size
  have hS2 : (W1.alloc (.cells (tw t0) 76)).setRow W1.heap.size (tw T) = W1.alloc (.cells (tw T) 76) := alloc_setRow _ _ _ _
  have BZ : BlkA (W1.alloc (.cells (tw t0) 76)) W1.heap.size 76 (tw t0) := BlkA.new rfl _ _
  have b2 : Below W1.heap.size W1 (W1.alloc (.cells (tw T) 76)) := (Below.refl _ _).alloc (Nat.le_refl _) _
  have B2 : BlkT (W1.alloc (.cells (tw T) 76)) W1.heap.size T := BlkA.new rfl _ _
  obtain ⟨W2, hW2⟩ : ∃ W, W1.alloc (.cells (tw T) 76) = W := ⟨_, rfl⟩
  rw [hW2] at hS2 b2 B2
  rw [tw_zero] at BZ hS2
  have HS2 := Lib.hid hS2
  have HZ := Lib.hid BZ
  have HBT := Lib.hid (BT.below b2)
  have HBX := Lib.hid (BX.below b2)
  have HBY := Lib.hid (BY.below b2)
  have HKB := Lib.hid ((KeptBut.of_below hb1 (Nat.le_of_lt hML)).trans (KeptBut.of_below b2 (Nat.le_of_lt hML1)))
  have HM2 : Hid (ownsT W2 M n D) := Lib.hid (ownT_below HM1.out b2 hML1)
  have HR2 := Lib.hid (HR.out.below (blink hb1 b2))
  have HT2 := Lib.hid B2
  have hML2 : M < W2.heap.size := Nat.lt_of_lt_of_le hML1 b2.size
  have hMt : W1.heap.size ≠ M := by omega
  have hmw : w.heap.size ≤ W1.heap.size := hb1.size
  have hMx : w.heap.size + 1 ≠ M := by omega
  have hMy : w.heap.size + 1 + 1 ≠ M := by omega
  have hMw : w.heap.size ≠ M := by omega
  have bt0 := HBT.out.at 0
  have bt1 := HBT.out.at 1
  have bx0 := HBX.out.at 0
  have bx1 := HBX.out.at 1
  clear hT hcase hlk BZ BT BX BY hb1 hS2 hW2 b2 B2
  have HHAS : Hid (∀ W, Calls Try.prog 84 #[tv T, scv s1 h1] W fun e w' => e = .returned (.bool ((T.getD s1 0).testBit h1)) ∧ Below W.heap.size W w') := Lib.hid (fun W => ithas_any T HT.out s1 h1 hs1 hh1 W)
  rcases HC.out with ⟨rfl, k, hTk, hend⟩ | ⟨rfl, hT0⟩
  · have HRES : Hid ((T.getD s1 0).testBit h1 = arrB ps (-1) (yn : Int) s0 h0 s1 h1) := Lib.hid (by
      rw [hTk]
      exact arrB_of (by simpa [bitT] using seen_arr HOK.out hs0 hh0 hend s1 h1 hs1 (by omega)))
    have by0 := HBY.out.at 0
    have by1 := HBY.out.at 1
    clear hTk hend HC bt0 bt1 bx0 bx1
    go_wp2_with (first
      | (refine wpList_store_row (o := ⟨none, _, _, _, _, _⟩) rfl 76 (.tmp 7) (.tmp 14) rfl W1.heap.size (tw T) rfl rfl 76 _ HZ.out (tw_info HT.out.len) (by rw [tw_size, HT.out.len]; rfl) (tw_ones _) ?_; rw [HS2.out])
      | (refine wpList_load_row (o := ⟨some 26, _, _, _, _, _⟩) rfl 76 (.tmp 7) rfl W1.heap.size rfl 76 _ (0, 0) _ HT2.out (show Try.prog.underlying 76 = some (.array 8 74) by kernel_rfl) rfl (tw_info HT.out.len) ?_))
    refine (HHAS.out _).mono ?_
    rintro e w6 ⟨rfl, b6⟩
    have HB6 := Lib.hid b6
    clear b6
    go_wp2_with fail
    go_ret
    exact ⟨D, ret_bool HRES.out, (ownT_below HM2.out HB6.out hML2).mono (by omega), HK.out, HKB.out.trans (KeptBut.of_below HB6.out (Nat.le_of_lt hML2))⟩
  · have HARR : Hid (∀ W, ReadsLa W (.slice au l cu) (hopsL (yn : Int) ps) → Calls Try.prog 43 #[.slice au l cu, scv s0 h0] W fun e w' => ∃ k, e = .returned (tv (rarr yn ps s0 h0 k)) ∧ rend yn ps s0 h0 k ∧ Below W.heap.size W w') := Lib.hid (fun W hr => by
      have h := callsIn_wide.1 (iarr_in au (hopsL (yn : Int) ps).length cu (hopsL (yn : Int) ps) s0 h0 (hops_ok HOK.out) (by rw [hopsL_len]; exact hpl) hs0 hh0 W (by rw [HLN.out]; exact hr))
      rw [HLN.out] at h
      exact h)
    clear HHAS HC hT0
    go_wp2_with (refine wpList_store_row (o := ⟨none, _, _, _, _, _⟩) rfl 76 (.tmp 7) (.tmp 14) rfl W1.heap.size (tw T) rfl rfl 76 _ HZ.out (tw_info HT.out.len) (by rw [tw_size, HT.out.len]; rfl) (tw_ones _) ?_; rw [HS2.out])
    refine (HARR.out W2 HR2.out).mono ?_
    rintro e w3 ⟨k, rfl, hend, b3⟩
    obtain ⟨A, hA⟩ : ∃ A, rarr yn ps s0 h0 k = A := ⟨_, rfl⟩
    have hAO : TOk A := by rw [← hA]; exact rarr_ok yn ps s0 h0 hh0 k
    have HAO := Lib.hid hAO
    have HK4 : Hid (KTr yn ps (D.put (klS s0 h0) (encT A))) := Lib.hid (by rw [← hA]; exact HK.out.put HM2.out.isMap hs0 hh0 hend)
    have HRES : Hid ((A.getD s1 0).testBit h1 = arrB ps (-1) (yn : Int) s0 h0 s1 h1) := Lib.hid (by
      rw [← hA]
      exact arrB_of (by simpa [bitT] using seen_arr HOK.out hs0 hh0 hend s1 h1 hs1 (by omega)))
    have HHAS : Hid (∀ W, Calls Try.prog 84 #[tv A, scv s1 h1] W fun e w' => e = .returned (.bool ((A.getD s1 0).testBit h1)) ∧ Below W.heap.size W w') := Lib.hid (fun W => ithas_any A HAO.out s1 h1 hs1 hh1 W)
    rw [hA]
    have hML3 : M < w3.heap.size := Nat.lt_of_lt_of_le hML2 b3.size
    have hT3 : BlkT w3 W1.heap.size T := BlkA.below HT2.out b3
    have HT3 := Lib.hid hT3
    have hK4 : KeptBut M w (w3.setRow W1.heap.size (tw A)) := (HKB.out.trans (KeptBut.of_below b3 (Nat.le_of_lt hML2))).setRow W1.heap.size (tw A) hmw (by omega) (by omega)
    have hT4 : BlkT (w3.setRow W1.heap.size (tw A)) W1.heap.size A := hT3.setRow_same
    have hx4 : W1.heap.size ≠ w.heap.size ∧ W1.heap.size ≠ w.heap.size + 1 ∧ W1.heap.size ≠ w.heap.size + 1 + 1 := by
      have h := HW.out
      have : W1.heap.size = w.heap.size + 1 + 1 + 1 := by rw [← h]; simp
      omega
    have hb4 := (HBT.out.below b3).rowed W1.heap.size (tw A) (fun e => hx4.1 e.symm)
    have hbx4 := (HBX.out.below b3).rowed W1.heap.size (tw A) (fun e => hx4.2.1 e.symm)
    have hby4 := (HBY.out.below b3).rowed W1.heap.size (tw A) (fun e => hx4.2.2 e.symm)
    have hm4 : ownsT (w3.setRow W1.heap.size (tw A)) M n D := (ownT_below HM2.out b3 hML2).kept (grown_setRow w3 W1.heap.size (tw A)) (by simp; omega)
    have hs4 : (w3.setRow W1.heap.size (tw A)).heap.size = w3.heap.size := by simp [World.setRow]
    obtain ⟨W4, hW4⟩ : ∃ W, w3.setRow W1.heap.size (tw A) = W := ⟨_, rfl⟩
    rw [hW4] at hK4 hT4 hb4 hbx4 hby4 hm4 hs4
    have HW4 := Lib.hid hW4
    have HKK4 := Lib.hid hK4
    have HT4 := Lib.hid hT4
    have HY4 := Lib.hid hby4
    have HM4 := Lib.hid hm4
    have HS4 := Lib.hid hs4
    have c1 := hb4.at 1
    have x0 := hbx4.at 0
    have x1 := hbx4.at 1
    have HKEY := Lib.hid (klS_key hs0 hh0)
    clear hA hAO hend b3 hT3 hK4 hT4 hb4 hbx4 hby4 hm4 hs4 hW4 HARR bt0 bt1 bx0 bx1 hlook
    go_wp2_with (first
      | (refine wpList_store_row (o := ⟨none, _, _, _, _, _⟩) rfl 76 (.tmp 7) (.tmp 21) rfl W1.heap.size (tw A) rfl rfl 76 _ HT3.out (tw_info HAO.out.len) (by rw [tw_size, tw_size, HAO.out.len, HT.out.len]) (tw_ones _) ?_; rw [HW4.out])
      | (refine wpList_load_row (o := ⟨some 25, _, _, _, _, _⟩) rfl 76 (.tmp 7) rfl W1.heap.size rfl 76 _ (0, 0) _ HT4.out (show Try.prog.underlying 76 = some (.array 8 74) by kernel_rfl) rfl (tw_info HAO.out.len) ?_)
      | (at_mapUpdate; refine wpList_mapUpdate_own _ rfl _ _ _ 115 rfl 37 76 keyedS Try.underlying115 RT M n D rfl HM4.out (by unfold maxLen; omega) _ _ (klS s0 h0) rfl rfl HKEY.out (encT A) [] (RT_mk HAO.out) ?_))
    intro w5 hown5 hgrow5
    have hML4 : M < W4.heap.size := by rw [HS4.out]; exact hML3
    have k5 := KeptBut.of_grown hgrow5 (Nat.le_of_lt hML4)
    have HKK5 := Lib.hid (HKK4.out.trans k5)
    have hT5 : BlkT w5 W1.heap.size A := BlkA.kept HT4.out k5 hMt
    have HT5 := Lib.hid hT5
    have hy5 := BlkA.kept HY4.out k5 hMy
    have y0 := hy5.at 0
    have y1 := hy5.at 1
    have hML5 : M < w5.heap.size := Nat.lt_of_lt_of_le hML4 hgrow5.size
    have HO5 := Lib.hid hown5
    clear hown5 hgrow5 k5 hT5 hy5 c1 x0 x1
    go_wp2_with (refine wpList_load_row (o := ⟨some 26, _, _, _, _, _⟩) rfl 76 (.tmp 7) rfl W1.heap.size rfl 76 _ (0, 0) _ HT5.out (show Try.prog.underlying 76 = some (.array 8 74) by kernel_rfl) rfl (tw_info HAO.out.len) ?_)
    refine (HHAS.out _).mono ?_
    rintro e w6 ⟨rfl, b6⟩
    have HB6 := Lib.hid b6
    clear b6
    go_wp2_with fail
    go_ret
    exact ⟨_, ret_bool HRES.out, ownT_below HO5.out HB6.out hML5, HK4.out, HKK5.out.trans (KeptBut.of_below HB6.out (Nat.le_of_lt hML5))⟩
end Go.Proofs.Ytlempmahkeilpaa
