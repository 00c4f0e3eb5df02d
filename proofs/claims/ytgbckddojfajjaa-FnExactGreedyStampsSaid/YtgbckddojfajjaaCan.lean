/-
  Contracts of both CanPay and of both LeastOver.
-/
import Derived.Test.YtgbckddojfajjaaWays
import Derived.Test.YtgbckddojfajjaaFew
namespace Go.Proofs.Ytgbckddojfajjaa
open Go Go.RowKit
set_option linter.unusedVariables false

/-- Whether n can be paid, false where the code is not OK. -/
def canRes (xs : List Int) (n : Int) : Bool := decide (codeOf xs (inB n 0 1000) = 0 ∧ 0 ≤ fewV xs n.toNat)
theorem canRes_ok {xs : List Int} {n : Int} (h : codeOf xs (inB n 0 1000) = 0) : canRes xs n = decide (0 ≤ fewV xs n.toNat) := by simp [canRes, h]
theorem canRes_not {xs : List Int} {n : Int} (h : codeOf xs (inB n 0 1000) ≠ 0) : canRes xs n = false := by simp [canRes, h]
theorem ret_bi {k : IntKind} {a b : Bool} {c d : Int} (h : a = b) (g : c = d) : Ending.returned (.tuple #[.bool a, .int k c]) = .returned (.tuple #[.bool b, .int k d]) := by rw [h, g]

set_option maxHeartbeats 2000000 in
theorem ican_any (v : Value) (xs : List Int) (n : Int) (w : World) (hv : ReadsI w v xs) (hx : xs.length ≤ 1048576) :
    Calls Try.prog 25 #[v, .int .i64 n] w fun e w' => e = .returned (.tuple #[.bool (canRes xs n), .int .i64 (codeOf xs (inB n 0 1000))]) ∧ Below w.heap.size w w' := by
  by_cases h0 : codeOf xs (inB n 0 1000) = 0
  · obtain ⟨f1, f8, fr, g0, g1⟩ := code_facts h0
    obtain ⟨m, rfl⟩ : ∃ m : Nat, n = (m : Int) := ⟨n.toNat, by omega⟩
    obtain ⟨b, cap, rfl, hc⟩ := reads_row hv f1
    obtain ⟨r, hr⟩ : ∃ r, (wayAll m xs).getD m 0 = r := ⟨_, rfl⟩
    have hm1 : m ≤ 1000 := by omega
    have hp := ways_pos m (by omega) xs fr f8 m (Nat.le_refl _)
    rw [hr] at hp
    have HR : Hid (canRes xs m = decide (0 < r)) := Lib.hid (by rw [canRes_ok h0, Int.toNat_natCast]; exact decide_eq_decide.2 hp.1.symm)
    clear hp
    go_enter Try.func25, Try.ntmps25
    go_wp2_with fail
    refine (check_any _ xs _ _ hv hx).mono ?_
    rintro e w2 ⟨rfl, rfl⟩
    go_wp2_with fail
    refine (iways_row b xs.length cap xs m rfl f8 fr (by omega) _ hc).mono ?_
    rintro e w2 ⟨rfl, o2, b2⟩
    have c := o2.cell m (by rw [wayAll_length]; omega)
    rw [hr] at c
    clear hr o2
    go_wp2
    go_ret2
    exact ⟨ret_bi HR.out.symm h0.symm, b2⟩
  · have HR : Hid (canRes xs n = false) := Lib.hid (canRes_not h0)
    obtain ⟨c, hc⟩ : ∃ c, codeOf xs (inB n 0 1000) = c := ⟨_, rfl⟩
    have hne : (c != 0) = true := by rw [← hc]; simpa using h0
    have HC := Lib.hid hc
    clear h0
    go_enter Try.func25, Try.ntmps25
    go_wp2_with fail
    refine (check_any _ xs _ _ hv hx).mono ?_
    rintro e w2 ⟨rfl, rfl⟩
    go_wp2
    go_ret2
    exact ⟨ret_bi HR.out.symm HC.out.symm, Below.refl _ _⟩

set_option maxHeartbeats 2000000 in
theorem scan_any (v : Value) (xs : List Int) (n : Int) (w : World) (hv : ReadsI w v xs) (hx : xs.length ≤ 1048576) :
    Calls Try.prog 24 #[v, .int .i64 n] w fun e w' => e = .returned (.tuple #[.bool (canRes xs n), .int .i64 (codeOf xs (inB n 0 1000))]) ∧ Below w.heap.size w w' := by
  by_cases h0 : codeOf xs (inB n 0 1000) = 0
  · obtain ⟨f1, f8, fr, g0, g1⟩ := code_facts h0
    obtain ⟨m, rfl⟩ : ∃ m : Nat, n = (m : Int) := ⟨n.toNat, by omega⟩
    obtain ⟨b, cap, rfl, hc⟩ := reads_row hv f1
    obtain ⟨r, hr⟩ : ∃ r, fewV xs m = r := ⟨_, rfl⟩
    have hm1 : m ≤ 1000 := by omega
    have HR : Hid (canRes xs m = decide (0 ≤ r)) := Lib.hid (by rw [canRes_ok h0, Int.toNat_natCast, hr])
    go_enter Try.func24, Try.ntmps24
    go_wp2_with fail
    refine (postage_any _ _).mono ?_
    rintro e w2 ⟨rfl, rfl⟩
    go_wp2_with fail
    refine (asked_any _ xs _ _ hv hx).mono ?_
    rintro e w2 ⟨rfl, b2⟩
    go_wp2_with fail
    refine (few_row b xs.length cap xs m rfl f8 fr (by omega) _ (hc.below b2)).mono ?_
    rintro e w3 ⟨rfl, o3, b3⟩
    have c := o3.cell m (by rw [fewTab_length]; omega)
    rw [fewTab_get _ _ _ (by omega), hr] at c
    clear hr o3
    go_wp2
    go_ret2
    exact ⟨ret_bi HR.out.symm h0.symm, blink b2 b3⟩
  · have HR : Hid (canRes xs n = false) := Lib.hid (canRes_not h0)
    obtain ⟨c, hc⟩ : ∃ c, codeOf xs (inB n 0 1000) = c := ⟨_, rfl⟩
    have hne : (c != 0) = true := by rw [← hc]; simpa using h0
    have HC := Lib.hid hc
    clear h0
    go_enter Try.func24, Try.ntmps24
    go_wp2_with fail
    refine (postage_any _ _).mono ?_
    rintro e w2 ⟨rfl, rfl⟩
    go_wp2_with fail
    refine (asked_any _ xs _ _ hv hx).mono ?_
    rintro e w2 ⟨rfl, b2⟩
    go_wp2
    go_ret2
    exact ⟨ret_bi HR.out.symm HC.out.symm, b2⟩

/-- r is the least amount from n on that can be paid. -/
def Over (xs : List Int) (n r : Nat) : Prop := n ≤ r ∧ 0 ≤ fewV xs r ∧ ∀ b, n ≤ b → b < r → fewV xs b < 0
theorem Over.unique {xs : List Int} {n r s : Nat} (h : Over xs n r) (g : Over xs n s) : r = s := by
  by_cases h1 : r < s
  · have := g.2.2 r h.1 h1; have := h.2.1; omega
  · by_cases h2 : s < r
    · have := h.2.2 s g.1 h2; have := g.2.1; omega
    · omega
theorem pays_mult {xs : List Int} {v : Int} (hv : v ∈ xs) (k : Nat) : Pays xs (k * v.toNat) k := by
  induction k with
  | zero => simpa using Pays.zero
  | succ k ih =>
    have h := Pays.step v _ _ hv ih
    rwa [Nat.succ_mul]
theorem over_ex {xs : List Int} (hr : Rise xs xs.length) (h1 : 1 ≤ xs.length) (n : Nat) : ∃ r, n ≤ r ∧ r < n + (xs.getD 0 0).toNat ∧ 0 ≤ fewV xs r := by
  have hb := rise_bounds hr (by omega : 0 < xs.length)
  have hmem : xs.getD 0 0 ∈ xs := by
    simp only [List.getD, List.getElem?_eq_getElem (show 0 < xs.length by omega), Option.getD_some]
    exact List.getElem_mem _
  obtain ⟨v, hv⟩ : ∃ v : Nat, (xs.getD 0 0).toNat = v := ⟨_, rfl⟩
  have hv1 : 1 ≤ v := by omega
  have hdm := Nat.div_add_mod (n + v - 1) v
  have hml := Nat.mod_lt (n + v - 1) (show v > 0 by omega)
  have hp := pays_mult hmem ((n + v - 1) / v)
  rw [hv] at hp ⊢
  rw [Nat.mul_comm] at hp
  refine ⟨v * ((n + v - 1) / v), by omega, by omega, ?_⟩
  rcases fewV_few xs (rise_mem hr) (v * ((n + v - 1) / v)) with ⟨_, f⟩ | ⟨f, _⟩
  · exact absurd hp (f _)
  · exact f
theorem iways_int (b len cap : Nat) (xs : List Int) (most : Nat) (n : Int) (hn : n = (most : Int)) (hl : xs.length = len) (h8 : len ≤ 8) (hv : Rise xs xs.length) (hmost : most ≤ 1500) (w : World) (hc : Cells w b xs) :
    Calls Try.prog 59 #[.slice (some ⟨b, 0, none⟩) len cap, .int .i64 n] w fun e w' =>
      e = .returned (.slice (some ⟨w.heap.size, 0, none⟩) (most + 1) (most + 1)) ∧ OwnI w.heap.size w' (.slice (some ⟨w.heap.size, 0, none⟩) (most + 1) (most + 1)) (wayAll most xs) ∧ Below w.heap.size w w' := by
  subst hn; exact iways_row b len cap xs most hl h8 hv hmost w hc
theorem few_int (b len cap : Nat) (xs : List Int) (most : Nat) (n : Int) (hn : n = (most : Int)) (hl : xs.length = len) (h8 : len ≤ 8) (hv : Rise xs xs.length) (hmost : most ≤ 1500) (w : World) (hc : Cells w b xs) :
    Calls Try.prog 57 #[.slice (some ⟨b, 0, none⟩) len cap, .int .i64 n] w fun e w' =>
      e = .returned (.slice (some ⟨w.heap.size, 0, none⟩) (most + 1) (most + 1)) ∧ OwnI w.heap.size w' (.slice (some ⟨w.heap.size, 0, none⟩) (most + 1) (most + 1)) (fewTab xs (most + 1)) ∧ Below w.heap.size w w' := by
  subst hn; exact few_row b len cap xs most hl h8 hv hmost w hc
open Classical in
noncomputable def overRes (xs : List Int) (n : Int) : Int := if h : codeOf xs (inB n 0 1000) = 0 ∧ ∃ r, Over xs n.toNat r then ((Classical.choose h.2 : Nat) : Int) else 0
theorem overRes_ok {xs : List Int} {n : Nat} {r : Nat} (h : codeOf xs (inB (n : Int) 0 1000) = 0) (g : Over xs n r) : overRes xs (n : Int) = r := by
  have hx : codeOf xs (inB (n : Int) 0 1000) = 0 ∧ ∃ r, Over xs (n : Int).toNat r := ⟨h, r, by simpa using g⟩
  unfold overRes
  rw [dif_pos hx]
  have h1 : Over xs (n : Int).toNat (Classical.choose hx.2) := Classical.choose_spec hx.2
  have h2 : Over xs (n : Int).toNat r := by rw [Int.toNat_natCast]; exact g
  exact congrArg _ (h1.unique h2)
theorem overRes_not {xs : List Int} {n : Int} (h : codeOf xs (inB n 0 1000) ≠ 0) : overRes xs n = 0 := by
  unfold overRes
  rw [dif_neg (fun k => h k.1)]

set_option maxHeartbeats 4000000 in
theorem iover_any (v : Value) (xs : List Int) (n : Int) (w : World) (hv : ReadsI w v xs) (hx : xs.length ≤ 1048576) :
    Calls Try.prog 41 #[v, .int .i64 n] w fun e w' => e = .returned (.tuple #[.int .i64 (overRes xs n), .int .i64 (codeOf xs (inB n 0 1000))]) ∧ Below w.heap.size w w' := by
  by_cases h0 : codeOf xs (inB n 0 1000) = 0
  · obtain ⟨f1, f8, fr, g0, g1⟩ := code_facts h0
    obtain ⟨m, rfl⟩ : ∃ m : Nat, n = (m : Int) := ⟨n.toNat, by omega⟩
    obtain ⟨b, cap, rfl, hc⟩ := reads_row hv f1
    have hm1 : m ≤ 1000 := by omega
    have hb := rise_bounds fr (by omega : 0 < xs.length)
    have hex := over_ex fr f1 m
    obtain ⟨v0, hv0⟩ : ∃ v0 : Nat, xs.getD 0 0 = (v0 : Int) := ⟨(xs.getD 0 0).toNat, by omega⟩
    have c0 := hc 0 (by omega)
    rw [hv0] at c0 hb hex
    rw [Int.toNat_natCast] at hex
    have HEX := Lib.hid hex
    have HC0 := Lib.hid h0
    have HL : Hid (xs.length ≤ 8) := Lib.hid f8
    clear hv0 hex
    have hv5 : v0 ≤ 500 := by omega
    have hx1 : (0 : Int) < (xs.length : Int) := by omega
    have hx2 : 0 < xs.length := by omega
    go_enter Try.func41, Try.ntmps41
    go_wp2_with fail
    refine (check_any _ xs _ _ hv hx).mono ?_
    rintro e w2 ⟨rfl, rfl⟩
    go_wp2_with fail
    refine (iways_int b xs.length cap xs (m + v0) _ (by omega) rfl f8 fr (by omega) _ hc).mono ?_
    rintro e w2 ⟨rfl, o2, b2⟩
    have HO := Lib.hid o2
    have HB := Lib.hid b2
    clear o2 b2 hc hv
    go_wp2_with fail
    go_loop [8] (fun i => ∃ a : Nat, m ≤ a ∧ i = .int .i64 a ∧ ∀ b, m ≤ b → b < a → fewV xs b < 0) (fun i => m + v0 - (intOf i).toNat)
    case atStart => exact ⟨m, Nat.le_refl _, rfl, fun b h1 h2 => by omega⟩
    case round =>
      obtain ⟨a, ha, rfl, hall⟩ := hrel
      have HALL := Lib.hid hall
      obtain ⟨r0, hr1, hr2, hr3⟩ := HEX.out
      have har : a ≤ r0 := by
        by_cases h : a ≤ r0
        · exact h
        · have := hall r0 hr1 (by omega); omega
      have ha2 : a < m + v0 := by omega
      have c := HO.out.cell a (by rw [wayAll_length]; omega)
      have hp := ways_pos (m + v0) (by omega) xs fr f8 a (by omega)
      obtain ⟨q, hq⟩ : ∃ q, (wayAll (m + v0) xs).getD a 0 = q := ⟨_, rfl⟩
      rw [hq] at c hp
      have HP := Lib.hid hp
      have hq0 := hp.2
      clear hq hp hall hr1 hr2 hr3 har
      by_cases hz : q = 0
      · have HQ := Lib.hid hz
        subst hz
        go_wp2
        go_round
        case rel => exact ⟨a + 1, by omega, by go_num, fun b h1 h2 => by
          by_cases e : b = a
          · subst e; have := HP.out.1; omega
          · exact HALL.out b h1 (by omega)⟩
        case measure => simp [intOf]; omega
      · have t1 : (q == 0) = false := by simpa using hz
        have HOV : Hid (Over xs m a) := Lib.hid ⟨ha, HP.out.1.1 (by omega), HALL.out⟩
        clear hz
        go_wp2
        go_ret2
        exact ⟨ret_two (overRes_ok HC0.out HOV.out).symm rfl, HB.out⟩
  · have HR : Hid (overRes xs n = 0) := Lib.hid (overRes_not h0)
    obtain ⟨c, hc⟩ : ∃ c, codeOf xs (inB n 0 1000) = c := ⟨_, rfl⟩
    have hne : (c != 0) = true := by rw [← hc]; simpa using h0
    have HC := Lib.hid hc
    clear h0
    go_enter Try.func41, Try.ntmps41
    go_wp2_with fail
    refine (check_any _ xs _ _ hv hx).mono ?_
    rintro e w2 ⟨rfl, rfl⟩
    go_wp2
    go_ret2
    exact ⟨ret_two HR.out.symm HC.out.symm, Below.refl _ _⟩

set_option maxHeartbeats 4000000 in
theorem sover_any (v : Value) (xs : List Int) (n : Int) (w : World) (hv : ReadsI w v xs) (hx : xs.length ≤ 1048576) :
    Calls Try.prog 40 #[v, .int .i64 n] w fun e w' => e = .returned (.tuple #[.int .i64 (overRes xs n), .int .i64 (codeOf xs (inB n 0 1000))]) ∧ Below w.heap.size w w' := by
  by_cases h0 : codeOf xs (inB n 0 1000) = 0
  · obtain ⟨f1, f8, fr, g0, g1⟩ := code_facts h0
    obtain ⟨m, rfl⟩ : ∃ m : Nat, n = (m : Int) := ⟨n.toNat, by omega⟩
    obtain ⟨b, cap, rfl, hc⟩ := reads_row hv f1
    have hm1 : m ≤ 1000 := by omega
    have hb := rise_bounds fr (by omega : 0 < xs.length)
    have hex := over_ex fr f1 m
    have HEX : Hid (∃ r, m ≤ r ∧ r < m + 500 ∧ 0 ≤ fewV xs r) := Lib.hid (by obtain ⟨r, h1, h2, h3⟩ := hex; exact ⟨r, h1, by omega, h3⟩)
    have HC0 := Lib.hid h0
    clear hex hb
    go_enter Try.func40, Try.ntmps40
    go_wp2_with fail
    refine (postage_any _ _).mono ?_
    rintro e w2 ⟨rfl, rfl⟩
    go_wp2_with fail
    refine (asked_any _ xs _ _ hv hx).mono ?_
    rintro e w2 ⟨rfl, b2⟩
    go_wp2_with fail
    refine (few_int b xs.length cap xs (m + 500) _ (by omega) rfl f8 fr (by omega) _ (hc.below b2)).mono ?_
    rintro e w3 ⟨rfl, o3, b3⟩
    have HO := Lib.hid o3
    have HB := Lib.hid (blink b2 b3)
    clear o3 b3 b2 hc hv
    go_wp2_with fail
    go_loop [1] (fun i => ∃ a : Nat, m ≤ a ∧ i = .int .i64 a ∧ ∀ b, m ≤ b → b < a → fewV xs b < 0) (fun i => m + 500 - (intOf i).toNat)
    case atStart => exact ⟨m, Nat.le_refl _, rfl, fun b h1 h2 => by omega⟩
    case round =>
      obtain ⟨a, ha, rfl, hall⟩ := hrel
      have HALL := Lib.hid hall
      obtain ⟨r0, hr1, hr2, hr3⟩ := HEX.out
      have har : a ≤ r0 := by
        by_cases h : a ≤ r0
        · exact h
        · have := hall r0 hr1 (by omega); omega
      have ha2 : a < m + 500 := by omega
      have c := HO.out.cell a (by rw [fewTab_length]; omega)
      rw [fewTab_get _ _ _ (by omega)] at c
      obtain ⟨q, hq⟩ : ∃ q, fewV xs a = q := ⟨_, rfl⟩
      rw [hq] at c
      have HQ := Lib.hid hq
      clear hq hall hr1 hr2 hr3 har
      by_cases hz : q < 0
      · go_wp2
        go_round
        case rel => exact ⟨a + 1, by omega, by go_num, fun b h1 h2 => by
          by_cases e : b = a
          · subst e; rw [HQ.out]; exact hz
          · exact HALL.out b h1 (by omega)⟩
        case measure => simp [intOf]; omega
      · have HOV : Hid (Over xs m a) := Lib.hid ⟨ha, by rw [HQ.out]; omega, HALL.out⟩
        go_wp2
        go_ret2
        exact ⟨ret_two (overRes_ok HC0.out HOV.out).symm rfl, HB.out⟩
  · have HR : Hid (overRes xs n = 0) := Lib.hid (overRes_not h0)
    obtain ⟨c, hc⟩ : ∃ c, codeOf xs (inB n 0 1000) = c := ⟨_, rfl⟩
    have hne : (c != 0) = true := by rw [← hc]; simpa using h0
    have HC := Lib.hid hc
    clear h0
    go_enter Try.func40, Try.ntmps40
    go_wp2_with fail
    refine (postage_any _ _).mono ?_
    rintro e w2 ⟨rfl, rfl⟩
    go_wp2_with fail
    refine (asked_any _ xs _ _ hv hx).mono ?_
    rintro e w2 ⟨rfl, b2⟩
    go_wp2
    go_ret2
    exact ⟨ret_two HR.out.symm HC.out.symm, b2⟩
end Go.Proofs.Ytgbckddojfajjaa
