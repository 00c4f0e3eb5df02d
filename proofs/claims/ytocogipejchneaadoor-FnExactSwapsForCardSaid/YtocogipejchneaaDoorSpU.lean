/-
  Rings of those whose parcels are swapped: the model's SwapsFor and ExchangesFor.
-/
import Derived.Test.YtocogipejchneaaDoorSpT
namespace Go.Proofs.YtocogipejchneaaDoor
open Go Go.RowKit
set_option linter.unusedVariables false

def exT (R : List (List Int)) : Nat → Int
  | 0 => 0
  | k + 1 => exT R k + (((R.getD k []).length : Int) - 1)
def exR (W G : List Int) : Int := exT (swR W G) (swR W G).length
theorem exT_bd {R : List (List Int)} (h : ∀ j, j < R.length → (R.getD j []).length ≤ 9) : ∀ k, k ≤ R.length → -(k : Int) ≤ exT R k ∧ exT R k ≤ 9 * k
  | 0, _ => by simp [exT]
  | k + 1, hk => by
    have h1 := exT_bd h k (by omega)
    have h2 := h k (by omega)
    unfold exT
    omega

set_option maxHeartbeats 1600000 in
set_option maxRecDepth 100000 in
theorem sswf_any (a b : Option Addr) (n m : Nat) (W G : List Int) (w : World) (hv : ReadsI w (.slice a n n) W) (hu : ReadsI w (.slice b m m) G) (hx : W.length ≤ 1048576) (hy : G.length ≤ 1048576) :
    Calls Tryd.prog 5 #[.slice a n n, .slice b m m] w (RetSw w (swR W G) (swC W G)) := by
  have HSD := Lib.hid (sswd_any a b n m W G w hv hu hx hy)
  have HV := Lib.hid hv
  have HU := Lib.hid hu
  cases hsw : swB W G with
  | false =>
    have HNO := Lib.hid (sw_no hsw)
    rw [hsw] at HSD
    clear hv hu hsw
    go_enter Tryd.func5, Tryd.ntmps5
    go_wp2_with fail
    refine HSD.out.mono ?_
    rintro e w2 ⟨rfl, b2⟩
    have HB := Lib.hid b2
    have hs2 : w.heap.size ≤ w2.heap.size := b2.size
    clear b2 HSD
    go_wp2_with fail
    go_ret2
    have ho := RgOut.empty (lo := w.heap.size) (w := w2) hs2
    exact ⟨_, by rw [HNO.out.2]; rfl, by rw [HNO.out.1]; exact ho.own, HB.out.alloc hs2 _⟩
  | true =>
    have HYES := Lib.hid (sw_yes hsw)
    have hnm : m = n := by
      obtain ⟨_, _, e1, _⟩ := hv
      obtain ⟨_, _, e2, _⟩ := hu
      injection e1 with _ e1 _
      injection e2 with _ e2 _
      have := (swB_spec hsw).1.1
      omega
    subst hnm
    have hwn : W.length = m := by obtain ⟨_, _, e1, _⟩ := hv; injection e1 with _ e1 _; exact e1.symm
    have HRN := Lib.hid (fun X h1 h2 => srings_any a b m W G X hwn hsw h1 h2)
    rw [hsw] at HSD
    clear hv hu hsw hwn
    go_enter Tryd.func5, Tryd.ntmps5
    go_wp2_with fail
    refine HSD.out.mono ?_
    rintro e w2 ⟨rfl, b2⟩
    have HB := Lib.hid b2
    clear b2 HSD
    go_wp2_with fail
    refine (HRN.out w2 (HV.out.below HB.out) (HU.out.below HB.out)).mono ?_
    rintro e w3 ⟨ov, us, rfl, o3, b3⟩
    have HO := Lib.hid o3
    have HB3 := Lib.hid (blink HB.out b3)
    have hs2 : w.heap.size ≤ w2.heap.size := HB.out.size
    clear o3 b3 HRN
    go_wp2_with fail
    go_ret2
    exact ⟨ov, by rw [HYES.out.2]; rfl, by rw [HYES.out.1]; exact HO.out.own.mono hs2 (Nat.le_refl _), HB3.out⟩

/-- A ring of those that are read. -/
theorem ring_at {lo : Nat} {w : World} {la : Option Addr} {rl lc : Nat} {us : List Value} {R : List (List Int)} (h : RgOut lo w (.slice la rl lc) us R) (hl : R.length = rl) {j : Nat} (hj : j < rl) : ∃ g a c, la = some ⟨g, 0, none⟩ ∧ w.cell? ⟨g, j, none⟩ = some (.slice a (R.getD j []).length c) := by
  obtain ⟨h1, h2, _⟩ := h
  rw [hl] at h1
  rcases h1.2 with ⟨e, h0⟩ | ⟨g, cap, cur, e, _⟩
  · omega
  · injection e with e1 e2 e3
    subst e1
    obtain ⟨a, c, e4⟩ := own_isS (h2 j (by omega))
    refine ⟨g, a, c, rfl, ?_⟩
    have hul : us.length = rl := by have := h1.1; simpa using this
    rw [h1.cellAt j (by omega)]
    rw [← e4]
    simp [List.getD, show j < us.length by omega]

set_option maxHeartbeats 1600000 in
set_option maxRecDepth 100000 in
theorem sexc_any (a b : Option Addr) (n m : Nat) (W G : List Int) (w : World) (hv : ReadsI w (.slice a n n) W) (hu : ReadsI w (.slice b m m) G) (hx : W.length ≤ 1048576) (hy : G.length ≤ 1048576) :
    Calls Tryd.prog 13 #[.slice a n n, .slice b m m] w fun e w' => e = .returned (.tuple #[.int .i64 (exR W G), .int .i64 (swC W G)]) ∧ Below w.heap.size w w' := by
  have HSD := Lib.hid (sswd_any a b n m W G w hv hu hx hy)
  have HV := Lib.hid hv
  have HU := Lib.hid hu
  cases hsw : swB W G with
  | false =>
    have HR : Hid (exR W G = 0 ∧ swC W G = 1) := Lib.hid ⟨by unfold exR; rw [(sw_no hsw).1]; rfl, (sw_no hsw).2⟩
    rw [hsw] at HSD
    clear hv hu hsw
    go_enter Tryd.func13, Tryd.ntmps13
    go_wp2_with fail
    refine HSD.out.mono ?_
    rintro e w2 ⟨rfl, b2⟩
    have HB := Lib.hid b2
    clear b2 HSD
    go_wp2_with fail
    go_ret2
    exact ⟨by rw [HR.out.1, HR.out.2]; rfl, HB.out⟩
  | true =>
    have HYES := Lib.hid (sw_yes hsw)
    have hnm : m = n := by
      obtain ⟨_, _, e1, _⟩ := hv
      obtain ⟨_, _, e2, _⟩ := hu
      injection e1 with _ e1 _
      injection e2 with _ e2 _
      have := (swB_spec hsw).1.1
      omega
    subst hnm
    have hwn : W.length = m := by obtain ⟨_, _, e1, _⟩ := hv; injection e1 with _ e1 _; exact e1.symm
    have HRN := Lib.hid (fun X h1 h2 => srings_any a b m W G X hwn hsw h1 h2)
    have HBD := swR_bd W G
    rw [hsw] at HSD
    have HEX : Hid (exR W G = exT (rgL W G) (rgL W G).length ∧ swC W G = 0) := Lib.hid ⟨by unfold exR; rw [HYES.out.1], HYES.out.2⟩
    rw [HYES.out.1] at HBD
    obtain ⟨R, hR⟩ : ∃ R, rgL W G = R := ⟨_, rfl⟩
    rw [hR] at HBD HEX
    have HRN2 : Hid (∀ X, ReadsI X (.slice a m m) W → ReadsI X (.slice b m m) G → Calls Tryd.prog 16 #[.slice a m m, .slice b m m] X fun e w' => ∃ ov us, e = .returned ov ∧ RgOut X.heap.size w' ov us R ∧ Below X.heap.size X w') := Lib.hid (fun X h1 h2 => by have h := HRN.out X h1 h2; rw [hR] at h; exact h)
    obtain ⟨rl, hrl⟩ : ∃ q, R.length = q := ⟨_, rfl⟩
    have HRL := Lib.hid hrl
    have HEB := Lib.hid (fun k h => exT_bd HBD.2 k h)
    have hrl9 : rl ≤ 9 := by rw [← hrl]; exact HBD.1
    have HB9 := Lib.hid HBD.2
    rw [hrl] at HEX
    clear hv hu hsw hwn hR HBD hrl HRN
    go_enter Tryd.func13, Tryd.ntmps13
    go_wp2_with fail
    refine HSD.out.mono ?_
    rintro e w2 ⟨rfl, b2⟩
    have HB := Lib.hid b2
    clear b2 HSD
    go_wp2_with fail
    refine (HRN2.out w2 (HV.out.below HB.out) (HU.out.below HB.out)).mono ?_
    rintro e w3 ⟨ov, us, rfl, o3, b3⟩
    obtain ⟨la, lc, hlv⟩ := own_isS o3.1
    rw [HRL.out] at hlv
    subst hlv
    have HO := Lib.hid o3
    have HB3 := Lib.hid (blink HB.out b3)
    clear o3 b3 HRN2
    go_wp2_with fail
    go_loopw [6, 8] (fun sv iv wr => ∃ k : Nat, k ≤ rl ∧ iv = .int .i64 k ∧ sv = .int .i64 (exT R k) ∧ Below w3.heap.size w3 wr) (fun _ i _ => rl - (intOf i).toNat)
    case atStart => exact ⟨0, Nat.zero_le _, rfl, rfl, Below.refl _ _⟩
    case round =>
      obtain ⟨k, hk, rfl, rfl, hb⟩ := hrel
      have HBR := Lib.hid hb
      by_cases hlt : k < rl
      · have hkl : (k : Int) < (rl : Int) := by omega
        have hk0 : (0 : Int) ≤ (k : Int) := by omega
        obtain ⟨g, a2, c2, rfl, hc⟩ := ring_at (HO.out.below hb) HRL.out hlt
        have hl9 := HB9.out k (by rw [HRL.out]; exact hlt)
        have hbd := HEB.out k (by rw [HRL.out]; omega)
        have HS : Hid (exT R (k + 1) = exT R k + (((R.getD k []).length : Int) - 1)) := Lib.hid rfl
        obtain ⟨q, hq⟩ : ∃ q, (R.getD k []).length = q := ⟨_, rfl⟩
        obtain ⟨z, hz⟩ : ∃ z, exT R k = z := ⟨_, rfl⟩
        rw [hq] at hc hl9 HS
        rw [hz] at hbd HS
        rw [hz]
        have w1 : IntKind.i64.wrap ((q : Int) - 1) = (q : Int) - 1 := IntWalk.i64_in _ (by omega)
        have w2' : IntKind.i64.wrap (z + ((q : Int) - 1)) = z + ((q : Int) - 1) := IntWalk.i64_in _ (by omega)
        clear hb hq hz
        go_wp2_with fail
        go_roundw
        case rel => exact ⟨k + 1, by omega, by go_num, by rw [HS.out], HBR.out⟩
        case measure => simp [intOf]; omega
      · have hkr : k = rl := by omega
        have HF : Hid (exR W G = exT R k ∧ swC W G = 0) := Lib.hid (by rw [hkr]; exact HEX.out)
        have HBF := Lib.hid (HB3.out.trans (hb.mono HB3.out.size))
        clear hb hkr
        go_wp2_with fail
        go_ret2
        exact ⟨by rw [HF.out.1, HF.out.2]; rfl, HBF.out⟩
end Go.Proofs.YtocogipejchneaaDoor
