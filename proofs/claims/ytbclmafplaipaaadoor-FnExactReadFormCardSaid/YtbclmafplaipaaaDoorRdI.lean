/-
  Reading texts: what the program calls of the library (Cut, Split, ParseInt), and its words of two numbers.
-/
import Derived.Test.YtbclmafplaipaaaDoorRdS
import Derived.Test.YtbclmafplaipaaaDoorLaySpl
import Derived.Test.YtbclmafplaipaaaDoorLayPar
import Derived.Test.YtbclmafplaipaaaDoorFmt
import Derived.Shelf.Strconv.ParseIntPublic10
import Derived.Shelf.Strings.Cut
import Derived.Shelf.Strings.Split
namespace Go.Proofs.YtbclmafplaipaaaDoor
open Go Go.RowKit
set_option linter.unusedVariables false

/-- What the library's variables hold. -/
def RdW (w : World) : Prop := (∃ m, w.cell? ⟨0, 0, none⟩ = some (.int .i64 m)) ∧ (∃ t p, w.cell? ⟨1, 0, none⟩ = some (.iface t p)) ∧ (∃ t p, w.cell? ⟨2, 0, none⟩ = some (.iface t p)) ∧ PowTab w
theorem RdW.below {w w' : World} (h : RdW w) (hb : Below w.heap.size w w') : RdW w' := by
  obtain ⟨⟨m, h1⟩, ⟨t, p, h2⟩, ⟨u, q, h3⟩, h4⟩ := h
  exact ⟨⟨m, (hb.cell (World.block_lt_of_cell? w _ h1)).trans h1⟩, ⟨t, p, (hb.cell (World.block_lt_of_cell? w _ h2)).trans h2⟩, ⟨u, q, (hb.cell (World.block_lt_of_cell? w _ h3)).trans h3⟩, h4.below hb⟩
theorem RdW.below' {n : Nat} {w w' : World} (h : RdW w) (hb : Below n w w') (hn : w.heap.size ≤ n := by first | exact Nat.le_refl _ | omega) : RdW w' := by
  have hb' : Below w.heap.size w w' := hb.mono hn
  exact h.below hb'
theorem str_of (s : ByteArray) : s = str s.data.toList := by
  unfold str
  apply ByteArray.ext
  simp
theorem icut_any (l : List UInt8) (m : UInt8) (hl : l.length ≤ 1048576) (w : World) (h : RdW w) :
    Calls Tryd.prog 108 #[.string (str l), .string ⟨#[m]⟩] w fun e w' => ∃ b, e = .returned (.tuple #[.string (str (Lib.cut l [m]).1), .string (str (Lib.cut l [m]).2.1), .bool b]) ∧ Below w.heap.size w w' := by
  obtain ⟨⟨x, hx⟩, _⟩ := h
  have k := Go.Proofs.Any.strings_Cut laySpl (str l) ⟨#[m]⟩ x w (by rw [str_size]; omega) hx
  refine Calls.mono (f := 108) k ?_
  rintro e w' ⟨he, n, hw⟩
  rw [data_str] at he
  exact ⟨_, he, by rw [hw]; exact bdrewN n⟩
theorem ispl_any (l : List UInt8) (b : UInt8) (hl : l.length ≤ 1048576) (w : World) (h : RdW w) :
    Calls Tryd.prog 69 #[.string (str l), .string ⟨#[b]⟩] w fun e w' => ∃ g, e = .returned (.slice (some ⟨g, 0, none⟩) (spl b l).length (spl b l).length) ∧ OwnW w.heap.size w' (.slice (some ⟨g, 0, none⟩) (spl b l).length (spl b l).length) (spl b l) ∧ Below w.heap.size w w' := by
  obtain ⟨⟨x, hx⟩, _⟩ := h
  have k := Go.Proofs.Any.strings_Split laySpl2 (by kernel_rfl) (str l) ⟨#[b]⟩ x w (by rw [str_size]; omega) hx (Nat.le_refl 1)
  have hc : Lib.countB (str l) ⟨#[b]⟩ = Lib.count l [b] := by show Lib.count (str l).data.toList [b] = _; rw [data_str]
  have e1 : (Lib.splitB ⟨#[b]⟩ 0 (Lib.countB (str l) ⟨#[b]⟩) (str l)).map (·.data.toList) = spl b l := by
    rw [Lib.splitB_data, data_str, hc]
    exact split_is b _ l rfl
  have e2 : Lib.splitB ⟨#[b]⟩ 0 (Lib.countB (str l) ⟨#[b]⟩) (str l) = (spl b l).map str := by
    rw [← e1, List.map_map]
    conv => lhs; rw [← List.map_id (Lib.splitB ⟨#[b]⟩ 0 (Lib.countB (str l) ⟨#[b]⟩) (str l))]
    apply List.map_congr_left
    intro a _
    exact str_of a
  have e3 : Lib.countB (str l) ⟨#[b]⟩ + 1 = (spl b l).length := by
    rw [← e1, List.length_map, Lib.splitB_all ⟨#[b]⟩ (Nat.le_refl 1) 0 _ (str l) rfl]
  rw [e2, e3] at k
  refine Calls.mono (f := 69) k ?_
  rintro e w' ⟨he, hw⟩
  have hn := spl_count b l
  refine ⟨w.heap.size, he, ?_, by rw [hw]; exact (Below.refl _ _).alloc (Nat.le_refl _) _⟩
  rw [hw]
  refine ⟨by simp, .inr ⟨w.heap.size, _, _, rfl, Nat.le_refl _, heap_alloc_new w _, Nat.le_refl _, by unfold maxLen; omega, by simp, by
    simp only [List.map_map, Nat.mul_one]
    rw [List.take_of_length_le (by simp)]
    rfl⟩⟩
theorem iparse_any (l : List UInt8) (hl : l.length ≤ 1048576) (w : World) (h : RdW w) :
    Calls Tryd.prog 120 #[.string (str l), .int .i64 10, .int .i64 64] w fun e w' => ∃ v ev, e = .returned (.tuple #[.int .i64 v, ev]) ∧ ((ev = .nilIface ∧ okI (Lib.parseIntB 64 l) = some v) ∨ ((∃ t p, ev = .iface t p) ∧ okI (Lib.parseIntB 64 l) = none)) ∧ Below w.heap.size w w' := by
  obtain ⟨_, ⟨t, p, h2⟩, ⟨u, q, h3⟩, _⟩ := h
  cases hp : Lib.parseIntB 64 l
  · rename_i v
    have k := Go.Proofs.Any.strconv_ParseInt_10_at64_ok layPar (str l) (by rw [str_size]; omega) v (by rw [data_str]; exact hp) w
    refine Calls.mono (f := 120) k ?_
    rintro e w' ⟨he, hw⟩
    refine ⟨v, _, he, .inl ⟨rfl, rfl⟩, ?_⟩
    rcases hw with rfl | ⟨t, rfl⟩
    · exact Below.refl _ _
    · exact Lib.bytesWorld_below _ _ _
  · have k := Go.Proofs.Any.strconv_ParseInt_10_at64_syntax layPar (str l) (by rw [str_size]; omega) (by rw [data_str]; exact hp) (.iface t p) w h2 (.inr ⟨t, p, rfl⟩)
    refine Calls.mono (f := 120) k ?_
    rintro e w' ⟨N, he, _, _, hb⟩
    exact ⟨_, _, he, .inr ⟨⟨_, _, rfl⟩, rfl⟩, hb⟩
  · have k := Go.Proofs.Any.strconv_ParseInt_10_at64_range layPar (str l) (by rw [str_size]; omega) (by rw [data_str]; exact hp) (.iface u q) w h3 (.inr ⟨u, q, rfl⟩)
    refine Calls.mono (f := 120) k ?_
    rintro e w' ⟨N, he, _, _, hb⟩
    exact ⟨_, _, he, .inr ⟨⟨_, _, rfl⟩, rfl⟩, hb⟩
theorem iparse8_any (l : List UInt8) (hl : l.length ≤ 1048576) (w : World) (h : RdW w) :
    Calls Tryd.prog 120 #[.string (str l), .int .i64 10, .int .i64 8] w fun e w' => ∃ v ev, e = .returned (.tuple #[.int .i64 v, ev]) ∧ ((ev = .nilIface ∧ okI (Lib.parseIntB 8 l) = some v) ∨ ((∃ t p, ev = .iface t p) ∧ okI (Lib.parseIntB 8 l) = none)) ∧ Below w.heap.size w w' := by
  obtain ⟨_, ⟨t, p, h2⟩, ⟨u, q, h3⟩, _⟩ := h
  cases hp : Lib.parseIntB 8 l
  · rename_i v
    have k := Go.Proofs.Any.strconv_ParseInt_10_at8_ok layPar (str l) (by rw [str_size]; omega) v (by rw [data_str]; exact hp) w
    refine Calls.mono (f := 120) k ?_
    rintro e w' ⟨he, hw⟩
    refine ⟨v, _, he, .inl ⟨rfl, rfl⟩, ?_⟩
    rcases hw with rfl | ⟨t, rfl⟩
    · exact Below.refl _ _
    · exact Lib.bytesWorld_below _ _ _
  · have k := Go.Proofs.Any.strconv_ParseInt_10_at8_syntax layPar (str l) (by rw [str_size]; omega) (by rw [data_str]; exact hp) (.iface t p) w h2 (.inr ⟨t, p, rfl⟩)
    refine Calls.mono (f := 120) k ?_
    rintro e w' ⟨N, he, _, _, hb⟩
    exact ⟨_, _, he, .inr ⟨⟨_, _, rfl⟩, rfl⟩, hb⟩
  · have k := Go.Proofs.Any.strconv_ParseInt_10_at8_range layPar (str l) (by rw [str_size]; omega) (by rw [data_str]; exact hp) (.iface u q) w h3 (.inr ⟨u, q, rfl⟩)
    refine Calls.mono (f := 120) k ?_
    rintro e w' ⟨N, he, _, _, hb⟩
    exact ⟨_, _, he, .inr ⟨⟨_, _, rfl⟩, rfl⟩, hb⟩
theorem cut_len (l : List UInt8) (m : UInt8) : (Lib.cut l [m]).1.length ≤ l.length ∧ (Lib.cut l [m]).2.1.length ≤ l.length := by
  unfold Lib.cut
  split
  · simp only [List.length_take, List.length_drop]; omega
  · simp

set_option maxHeartbeats 2000000 in
set_option maxRecDepth 100000 in
theorem ipairR_any (l : List UInt8) (m : UInt8) (hl : l.length ≤ 1048576) (w : World) (h : RdW w) :
    Calls Tryd.prog 109 #[.string (str l), .string ⟨#[m]⟩] w fun e w' => ∃ v1 v2 b, e = .returned (.tuple #[.int .i64 v1, .int .i64 v2, .bool b]) ∧ ((b = true ∧ okI (Lib.parseIntB 64 (Lib.cut l [m]).1) = some v1 ∧ okI (Lib.parseIntB 64 (Lib.cut l [m]).2.1) = some v2) ∨ (b = false ∧ (okI (Lib.parseIntB 64 (Lib.cut l [m]).1) = none ∨ okI (Lib.parseIntB 64 (Lib.cut l [m]).2.1) = none))) ∧ Below w.heap.size w w' := by
  have HRW := Lib.hid h
  have HCU := Lib.hid (icut_any l m hl w h)
  obtain ⟨x, hx⟩ : ∃ x, (Lib.cut l [m]).1 = x := ⟨_, rfl⟩
  obtain ⟨y, hy⟩ : ∃ x, (Lib.cut l [m]).2.1 = x := ⟨_, rfl⟩
  have hcl := cut_len l m
  rw [hx, hy] at hcl HCU
  rw [hx, hy]
  have hxl : x.length ≤ 1048576 := by omega
  have hyl : y.length ≤ 1048576 := by omega
  clear h hl hcl hx hy
  go_enter Tryd.func109, Tryd.ntmps109
  go_wp2_with fail
  refine HCU.out.mono ?_
  rintro e w2 ⟨b0, rfl, b2⟩
  have HR2 := Lib.hid (HRW.out.below b2)
  have HB2 := Lib.hid b2
  have HP1 := Lib.hid (iparse_any x hxl w2 HR2.out)
  clear b2 HCU
  go_wp2_with fail
  refine HP1.out.mono ?_
  rintro e w3 ⟨v1, e1, rfl, hv1, b3⟩
  have HR3 := Lib.hid (HR2.out.below b3)
  have HB3 := Lib.hid (blink HB2.out b3)
  have HP2 := Lib.hid (iparse_any y hyl w3 HR3.out)
  have HV1 := Lib.hid hv1
  clear b3 HP1 hv1
  go_wp2_with fail
  refine HP2.out.mono ?_
  rintro e w4 ⟨v2, e2, rfl, hv2, b4⟩
  have HB4 := Lib.hid (blink HB3.out b4)
  have HV2 := Lib.hid hv2
  clear b4 HP2 hv2 hxl hyl
  rcases HV1.out with ⟨rfl, g1⟩ | ⟨⟨t1, p1, rfl⟩, g1⟩
  · rcases HV2.out with ⟨rfl, g2⟩ | ⟨⟨t2, p2, rfl⟩, g2⟩
    · have G1 := Lib.hid g1
      have G2 := Lib.hid g2
      clear g1 g2 HV1 HV2
      go_wp2_with fail
      go_quiet (fail)
      go_wp2_with fail
      go_ret3
      exact ⟨v1, v2, true, rfl, .inl ⟨rfl, G1.out, G2.out⟩, HB4.out.trans (bdrewN _ |>.mono HB4.out.size)⟩
    · have G2 := Lib.hid g2
      clear g1 g2 HV1 HV2
      go_wp2_with fail
      go_quiet (fail)
      go_wp2_with fail
      go_ret3
      exact ⟨v1, v2, false, rfl, .inr ⟨rfl, .inr G2.out⟩, HB4.out.trans (bdrewN _ |>.mono HB4.out.size)⟩
  · have G1 := Lib.hid g1
    clear g1 HV1 HV2
    go_wp2_with fail
    go_quiet (fail)
    go_wp2_with fail
    go_ret3
    exact ⟨v1, v2, false, rfl, .inr ⟨rfl, .inl G1.out⟩, HB4.out.trans (bdrewN _ |>.mono HB4.out.size)⟩
end Go.Proofs.YtbclmafplaipaaaDoor
