/-
  strconv.ParseInt at 16 and at 32 bits.
-/
import Derived.Test.YtbclmafplaipaaaDoorRdI
namespace Go.Proofs.YtbclmafplaipaaaDoor
open Go Go.RowKit
set_option linter.unusedVariables false

theorem iparse16_any (l : List UInt8) (hl : l.length ≤ 1048576) (w : World) (h : RdW w) :
    Calls Tryd.prog 120 #[.string (str l), .int .i64 10, .int .i64 16] w fun e w' => ∃ v ev, e = .returned (.tuple #[.int .i64 v, ev]) ∧ ((ev = .nilIface ∧ okI (Lib.parseIntB 16 l) = some v) ∨ ((∃ t p, ev = .iface t p) ∧ okI (Lib.parseIntB 16 l) = none)) ∧ Below w.heap.size w w' := by
  obtain ⟨_, ⟨t, p, h2⟩, ⟨u, q, h3⟩, _⟩ := h
  cases hp : Lib.parseIntB 16 l
  · rename_i v
    have k := Go.Proofs.Any.strconv_ParseInt_10_at16_ok layPar (str l) (by rw [str_size]; omega) v (by rw [data_str]; exact hp) w
    refine Calls.mono (f := 120) k ?_
    rintro e w' ⟨he, hw⟩
    refine ⟨v, _, he, .inl ⟨rfl, rfl⟩, ?_⟩
    rcases hw with rfl | ⟨t, rfl⟩
    · exact Below.refl _ _
    · exact Lib.bytesWorld_below _ _ _
  · have k := Go.Proofs.Any.strconv_ParseInt_10_at16_syntax layPar (str l) (by rw [str_size]; omega) (by rw [data_str]; exact hp) (.iface t p) w h2 (.inr ⟨t, p, rfl⟩)
    refine Calls.mono (f := 120) k ?_
    rintro e w' ⟨N, he, _, _, hb⟩
    exact ⟨_, _, he, .inr ⟨⟨_, _, rfl⟩, rfl⟩, hb⟩
  · have k := Go.Proofs.Any.strconv_ParseInt_10_at16_range layPar (str l) (by rw [str_size]; omega) (by rw [data_str]; exact hp) (.iface u q) w h3 (.inr ⟨u, q, rfl⟩)
    refine Calls.mono (f := 120) k ?_
    rintro e w' ⟨N, he, _, _, hb⟩
    exact ⟨_, _, he, .inr ⟨⟨_, _, rfl⟩, rfl⟩, hb⟩
theorem iparse32_any (l : List UInt8) (hl : l.length ≤ 1048576) (w : World) (h : RdW w) :
    Calls Tryd.prog 120 #[.string (str l), .int .i64 10, .int .i64 32] w fun e w' => ∃ v ev, e = .returned (.tuple #[.int .i64 v, ev]) ∧ ((ev = .nilIface ∧ okI (Lib.parseIntB 32 l) = some v) ∨ ((∃ t p, ev = .iface t p) ∧ okI (Lib.parseIntB 32 l) = none)) ∧ Below w.heap.size w w' := by
  obtain ⟨_, ⟨t, p, h2⟩, ⟨u, q, h3⟩, _⟩ := h
  cases hp : Lib.parseIntB 32 l
  · rename_i v
    have k := Go.Proofs.Any.strconv_ParseInt_10_at32_ok layPar (str l) (by rw [str_size]; omega) v (by rw [data_str]; exact hp) w
    refine Calls.mono (f := 120) k ?_
    rintro e w' ⟨he, hw⟩
    refine ⟨v, _, he, .inl ⟨rfl, rfl⟩, ?_⟩
    rcases hw with rfl | ⟨t, rfl⟩
    · exact Below.refl _ _
    · exact Lib.bytesWorld_below _ _ _
  · have k := Go.Proofs.Any.strconv_ParseInt_10_at32_syntax layPar (str l) (by rw [str_size]; omega) (by rw [data_str]; exact hp) (.iface t p) w h2 (.inr ⟨t, p, rfl⟩)
    refine Calls.mono (f := 120) k ?_
    rintro e w' ⟨N, he, _, _, hb⟩
    exact ⟨_, _, he, .inr ⟨⟨_, _, rfl⟩, rfl⟩, hb⟩
  · have k := Go.Proofs.Any.strconv_ParseInt_10_at32_range layPar (str l) (by rw [str_size]; omega) (by rw [data_str]; exact hp) (.iface u q) w h3 (.inr ⟨u, q, rfl⟩)
    refine Calls.mono (f := 120) k ?_
    rintro e w' ⟨N, he, _, _, hb⟩
    exact ⟨_, _, he, .inr ⟨⟨_, _, rfl⟩, rfl⟩, hb⟩
end Go.Proofs.YtbclmafplaipaaaDoor
