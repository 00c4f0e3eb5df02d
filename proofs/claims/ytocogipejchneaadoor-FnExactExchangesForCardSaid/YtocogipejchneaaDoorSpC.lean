/-
  Rings of those whose parcels are swapped: the program's check, SwapsFor and ExchangesFor.
-/
import Derived.Test.YtocogipejchneaaDoorSpI
import Derived.Test.YtocogipejchneaaDoorSpQ
import Derived.Test.YtocogipejchneaaDoorSpU
import Derived.Test.YtocogipejchneaaDoorVsH
import Derived.Test.YtocogipejchneaaDoorBgV
import Derived.Test.YtocogipejchneaaDoorCoA
import Derived.Test.YtocogipejchneaaDoorLayCmp
import Derived.Shelf.SlicesG.CompactI
namespace Go.Proofs.YtocogipejchneaaDoor
open Go Go.RowKit Go.Sort
set_option linter.unusedVariables false

theorem row_monoS {B B' n m : Nat} {T : TypeId} {w : World} {v : Value} {us : List Value} (h : w.ownsRow B T n v m us) (hB : B' ≤ B) : w.ownsRow B' T n v m us := by
  refine ⟨h.1, ?_⟩
  rcases h.2 with hn | ⟨g, cap, cur, e, hb, rest⟩
  · exact .inl hn
  · exact .inr ⟨g, cap, cur, e, Nat.le_trans hB hb, rest⟩
theorem icmp_any (B : Nat) (v : Value) (zs : List Int) (w0 w : World) (h0 : Below B w0 w) (hB : B ≤ w0.heap.size) (ho : OwnI B w v zs) (hz : zs.length ≤ 1048576) :
    Calls Tryd.prog 26 #[v] w fun e w' => ∃ a c, e = .returned (.slice a (Lib.compact zs).length c) ∧ ((Lib.compact zs).length = zs.length → Lib.compact zs = zs → OwnI B w' (.slice a zs.length c) zs) ∧ Below B w0 w' := by
  rcases ho.2 with ⟨rfl, h0'⟩ | ⟨g, gcap, cur, rfl, hbase, hgb, r1, r2, r3, r4⟩
  · have hzs : zs = [] := List.eq_nil_of_length_eq_zero h0'
    subst hzs
    have hS : Calls Tryd.prog 26 #[.slice none 0 0] w fun e w' => e = .returned (.slice none 0 0) ∧ w' = w := AnyG.slices_Compact_int_empty layCmp none 0 w
    refine hS.mono ?_
    rintro e w' ⟨rfl, rfl⟩
    exact ⟨none, 0, rfl, fun _ _ => ho, h0⟩
  · have hH : Holds (Value.int .i64) w g 0 zs.toArray := holds_of_blockI hgb (by simpa using r4)
    have r1' : zs.length ≤ gcap := r1
    have hS := AnyG.slices_Compact_int layCmp g 0 gcap zs w hH (by omega) r1'
    refine (show Calls Tryd.prog 26 #[.slice (some ⟨g, 0, none⟩) zs.length gcap] w _ from hS).mono ?_
    rintro e w' ⟨rfl, q, rfl⟩
    refine ⟨some ⟨g, 0, none⟩, gcap, rfl, fun hl he => ?_, ?_⟩
    · rw [hl, Nat.sub_self, List.replicate_zero, List.append_nil, he]
      have h := ownsRow_sortedI (n := q) (os := #[]) (ss := zs) (ts := zs) rfl hbase hgb r1 r2 r3
      rw [grow_empty] at h
      exact h
    · have h := grownBy_sortedI (w := w) (g := g) (n := q) (os := #[]) (Lib.compact zs ++ List.replicate (zs.length - (Lib.compact zs).length) 0).toArray
      rw [grow_empty] at h
      exact h0.grown h (Nat.le_trans hB h0.size) (fun j hj => by cases hj; exact hbase)

def errS (b : Bool) : Value := if b = true then .nilIface else .iface 49 (.agg #[])
set_option maxHeartbeats 1600000 in
set_option maxRecDepth 100000 in
theorem ichkS_any (a b : Option Addr) (n m c1 c2 : Nat) (W G : List Int) (w : World) (hv : ReadsI w (.slice a n c1) W) (hu : ReadsI w (.slice b m c2) G) (hx : W.length ≤ 1048576) (hy : G.length ≤ 1048576) :
    Calls Tryd.prog 18 #[.slice a n c1, .slice b m c2] w fun e w' => e = .returned (errS (swB W G)) ∧ Below w.heap.size w w' := by
  have HN : Hid (W.length = n) := Lib.hid (by obtain ⟨_, _, e1, _⟩ := hv; injection e1 with _ e1 _; exact e1.symm)
  have HW := Lib.hid (within_any (.slice a n c1) W 0 100 hx w hv)
  have HA : Hid (W ≠ [] → ∃ b', a = some ⟨b', 0, none⟩ ∧ Cells w b' W) := Lib.hid (fun h => by
    obtain ⟨a', c', e1, ha⟩ := hv
    injection e1 with e1 e2 e3
    subst e1
    exact ha h)
  have HU := Lib.hid hu
  have HX := Lib.hid hx
  have HY := Lib.hid hy
  have hn : n ≤ 1048576 := by rw [← HN.out]; exact hx
  have HSN : Hid (¬ (W.length ≤ 9 ∧ betwM W 0 100 = true ∧ (Lib.compact (sortI W)).length = W.length ∧ visB (Lib.compact (sortI W)) G = true) → swB W G = false) := Lib.hid (@swB_no W G)
  have HSY : Hid (W.length ≤ 9 ∧ betwM W 0 100 = true ∧ (Lib.compact (sortI W)).length = W.length ∧ visB (Lib.compact (sortI W)) G = true → swB W G = true) := Lib.hid (@swB_prog W G).2
  obtain ⟨bw, hbw⟩ : ∃ q, betwM W 0 100 = q := ⟨_, rfl⟩
  rw [hbw] at HW HSN HSY
  clear hv hu hx hy hbw
  by_cases h9 : n ≤ 9
  rotate_left
  · have HR := Lib.hid (HSN.out (by rw [HN.out]; exact fun h => h9 h.1))
    have t9 : decide ((9 : Int) < (n : Int)) = true := decide_eq_true (by omega)
    have t9' : (9 : Int) < (n : Int) := by omega
    clear h9
    go_enter Tryd.func18, Tryd.ntmps18
    go_wp2_with fail
    go_ret
    exact ⟨by rw [HR.out]; rfl, Below.refl _ _⟩
  have t9 : decide ((9 : Int) < (n : Int)) = false := decide_eq_false (by omega)
  have t9' : decide ((n : Int) > 9) = false := decide_eq_false (by omega)
  cases bw with
  | false =>
    have HR := Lib.hid (HSN.out (fun h => by cases h.2.1))
    go_enter Tryd.func18, Tryd.ntmps18
    go_wp2_with fail
    refine HW.out.mono ?_
    rintro e _ ⟨rfl, rfl⟩
    go_wp2_with fail
    go_ret
    exact ⟨by rw [HR.out]; rfl, Below.refl _ _⟩
  | true =>
  have HSL := Lib.hid (sortI_len W)
  obtain ⟨S, hS⟩ : ∃ S, sortI W = S := ⟨_, rfl⟩
  have HSE := Lib.hid hS
  have HSP : Hid (S.Pairwise (· ≤ ·)) := Lib.hid (by rw [← hS]; exact sortI_pair W)
  rw [hS] at HSL HSN HSY
  clear hS
  go_enter Tryd.func18, Tryd.ntmps18
  go_wp2_with fail
  refine HW.out.mono ?_
  rintro e _ ⟨rfl, rfl⟩
  go_wp2_with fail
  refine (vals_any a n c1 w).mono ?_
  rintro e w2 ⟨rfl, e2⟩
  have b2 : Below w.heap.size w w2 := by rw [e2]; exact (Below.refl _ _).alloc (Nat.le_refl _) _
  have cc2 : w2.cell? ⟨w.heap.size, 0, none⟩ = some (.slice a n c1) := by rw [e2]; simp
  have HS := Lib.hid (sortV_any w.heap.size c1 a W HX.out w2 (by rw [HN.out]; exact cc2) (fun h => by obtain ⟨b', e, hc⟩ := HA.out h; exact ⟨b', e, hc.below b2⟩))
  have HB2 := Lib.hid b2
  have hs2 : w.heap.size ≤ w2.heap.size := b2.size
  clear b2 cc2 e2 HW
  go_wp2_with fail
  refine HS.out.mono ?_
  rintro e w3 ⟨v3, rfl, o3, b3⟩
  rw [HSE.out] at o3
  have HC := Lib.hid (icmp_any w2.heap.size v3 S w2 w3 b3 (Nat.le_refl _) o3 (by rw [HSL.out]; exact HX.out))
  clear o3 b3 HS
  go_wp2_with fail
  refine HC.out.mono ?_
  rintro e w4 ⟨a4, c4, rfl, o4, b4⟩
  have HO4 := Lib.hid o4
  have HB4 := Lib.hid (HB2.out.trans (b4.mono hs2))
  obtain ⟨cl, hcl⟩ : ∃ q, (Lib.compact S).length = q := ⟨_, rfl⟩
  have HCL := Lib.hid hcl
  rw [hcl]
  clear o4 b4 HC hcl
  by_cases hcn : cl = n
  rotate_left
  · have tn : ((cl : Int) != (n : Int)) = true := by simp; omega
    have HR := Lib.hid (HSN.out (fun h => hcn (by rw [HCL.out, HN.out] at h; exact h.2.2.1)))
    clear hcn
    go_wp2_with fail
    go_ret
    exact ⟨by rw [HR.out]; rfl, HB4.out⟩
  have tn : ((cl : Int) != (n : Int)) = false := by simp; omega
  have hcs := cmp_asc HSP.out (by rw [HCL.out, HSL.out, HN.out]; exact hcn)
  have HCS : Hid (Lib.compact S = S) := Lib.hid hcs.1
  have hown : OwnI w2.heap.size w4 (.slice a4 cl c4) S := by
    have h := HO4.out (by rw [HCL.out, HSL.out, HN.out]; exact hcn) hcs.1
    rw [HSL.out, HN.out, ← hcn] at h
    exact h
  have HE := Lib.hid (iheo_any (.slice b m c2) (.slice a4 cl c4) G S w4 (HU.out.below HB4.out) hown.reads HY.out (by rw [HSL.out]; exact HX.out))
  obtain ⟨vb, hvb⟩ : ∃ q, visB S G = q := ⟨_, rfl⟩
  have HVB := Lib.hid hvb
  rw [hvb] at HE
  have HCN := Lib.hid hcn
  clear hcs hown hvb hcn
  go_wp2_with fail
  refine HE.out.mono ?_
  rintro e w5 ⟨rfl, b5⟩
  have HB5 := Lib.hid (blink HB4.out b5)
  clear b5 HE
  cases vb with
  | false =>
    have HR := Lib.hid (HSN.out (fun h => by rw [HCS.out, HVB.out] at h; cases h.2.2.2))
    go_wp2_with fail
    go_ret
    exact ⟨by rw [HR.out]; rfl, HB5.out⟩
  | true =>
    have HR := Lib.hid (HSY.out ⟨by rw [HN.out]; exact h9, by simp, by rw [HCL.out, HN.out]; exact HCN.out, by rw [HCS.out]; exact HVB.out⟩)
    go_wp2_with fail
    go_ret
    exact ⟨by rw [HR.out]; rfl, HB5.out⟩

set_option maxHeartbeats 1600000 in
set_option maxRecDepth 100000 in
theorem iswf_any (a b : Option Addr) (n m : Nat) (W G : List Int) (w : World) (hv : ReadsI w (.slice a n n) W) (hu : ReadsI w (.slice b m m) G) (hx : W.length ≤ 1048576) (hy : G.length ≤ 1048576) :
    Calls Tryd.prog 7 #[.slice a n n, .slice b m m] w fun e w' => ∃ v us, e = .returned (.tuple #[v, .int .i64 (swC W G)]) ∧ RgOut w.heap.size w' v us (swR W G) ∧ Below w.heap.size w w' := by
  have HCK := Lib.hid (ichkS_any a b n m n m W G w hv hu hx hy)
  have HV := Lib.hid hv
  have HU := Lib.hid hu
  cases hsw : swB W G with
  | false =>
    have HNO := Lib.hid (sw_no hsw)
    rw [hsw] at HCK
    have HCK2 : Hid (Calls Tryd.prog 18 #[.slice a n n, .slice b m m] w fun e w' => e = .returned (.iface 49 (.agg #[])) ∧ Below w.heap.size w w') := Lib.hid HCK.out
    clear hv hu hsw HCK
    go_enter Tryd.func7, Tryd.ntmps7
    go_wp2_with fail
    refine HCK2.out.mono ?_
    rintro e w2 ⟨rfl, b2⟩
    have HB := Lib.hid b2
    clear b2 HCK2
    go_wp2_with fail
    refine (code_A w2).mono ?_
    rintro e w3 ⟨rfl, b3⟩
    have HB3 := Lib.hid (blink HB.out b3)
    clear b3
    go_wp2_with fail
    go_ret2
    exact ⟨_, [], by rw [HNO.out.2]; rfl, by rw [HNO.out.1]; exact RgOut.nil _ _, HB3.out⟩
  | true =>
    have HYES := Lib.hid (sw_yes hsw)
    have hnm : m = n := by
      obtain ⟨_, _, e1, _⟩ := hv
      obtain ⟨_, _, e2, _⟩ := hu
      injection e1 with _ e1 _
      injection e2 with _ e2 _
      have := (swB_spec hsw).1.1
      omega
    subst hnm
    have hwn : W.length = m := by obtain ⟨_, _, e1, _⟩ := hv; injection e1 with _ e1 _; exact e1.symm
    have HRN := Lib.hid (fun X h1 h2 => irings_any a b m W G X hwn hsw h1 h2)
    rw [hsw] at HCK
    have HCK2 : Hid (Calls Tryd.prog 18 #[.slice a m m, .slice b m m] w fun e w' => e = .returned .nilIface ∧ Below w.heap.size w w') := Lib.hid HCK.out
    clear hv hu hsw hwn HCK
    go_enter Tryd.func7, Tryd.ntmps7
    go_wp2_with fail
    refine HCK2.out.mono ?_
    rintro e w2 ⟨rfl, b2⟩
    have HB := Lib.hid b2
    clear b2 HCK2
    go_wp2_with fail
    refine (code_nil w2).mono ?_
    rintro e w3 ⟨rfl, b3⟩
    have HB3 := Lib.hid (blink HB.out b3)
    have hs3 : w.heap.size ≤ w3.heap.size := HB3.out.size
    clear b3
    go_wp2_with fail
    refine (HRN.out w3 (HV.out.below HB3.out) (HU.out.below HB3.out)).mono ?_
    rintro e w4 ⟨ov, us, rfl, o4, b4⟩
    have HO := Lib.hid o4
    have HB4 := Lib.hid (blink HB3.out b4)
    clear o4 b4 HRN
    go_wp2_with fail
    go_ret2
    refine ⟨ov, us, by rw [HYES.out.2]; rfl, ?_, HB4.out⟩
    rw [HYES.out.1]
    exact ⟨row_monoS HO.out.1 hs3, fun j hj => (HO.out.2.1 j hj).mono hs3, HO.out.2.2⟩

theorem iswfR_any (a b : Option Addr) (n m : Nat) (W G : List Int) (w : World) (hv : ReadsI w (.slice a n n) W) (hu : ReadsI w (.slice b m m) G) (hx : W.length ≤ 1048576) (hy : G.length ≤ 1048576) :
    Calls Tryd.prog 7 #[.slice a n n, .slice b m m] w (RetSw w (swR W G) (swC W G)) := (iswf_any a b n m W G w hv hu hx hy).mono fun e w' ⟨v, us, h1, h2, h3⟩ => ⟨v, h1, h2.own, h3⟩

set_option maxHeartbeats 1600000 in
set_option maxRecDepth 100000 in
theorem iexc_any (a b : Option Addr) (n m : Nat) (W G : List Int) (w : World) (hv : ReadsI w (.slice a n n) W) (hu : ReadsI w (.slice b m m) G) (hx : W.length ≤ 1048576) (hy : G.length ≤ 1048576) :
    Calls Tryd.prog 14 #[.slice a n n, .slice b m m] w fun e w' => e = .returned (.tuple #[.int .i64 (exR W G), .int .i64 (swC W G)]) ∧ Below w.heap.size w w' := by
  have HSW := Lib.hid (iswf_any a b n m W G w hv hu hx hy)
  have HBD := swR_bd W G
  have HEX : Hid (exR W G = exT (swR W G) (swR W G).length) := Lib.hid rfl
  obtain ⟨R, hR⟩ : ∃ R, swR W G = R := ⟨_, rfl⟩
  obtain ⟨C, hC⟩ : ∃ C, swC W G = C := ⟨_, rfl⟩
  rw [hR] at HBD HEX
  rw [hR, hC] at HSW
  rw [hC]
  obtain ⟨rl, hrl⟩ : ∃ q, R.length = q := ⟨_, rfl⟩
  have HRL := Lib.hid hrl
  have HEB := Lib.hid (fun k h => exT_bd HBD.2 k h)
  have hrl9 : rl ≤ 9 := by rw [← hrl]; exact HBD.1
  have HB9 := Lib.hid HBD.2
  rw [hrl] at HEX
  clear hv hu hR hC HBD hrl
  go_enter Tryd.func14, Tryd.ntmps14
  go_wp2_with fail
  refine HSW.out.mono ?_
  rintro e w3 ⟨ov, us, rfl, o3, b3⟩
  obtain ⟨la, lc, hlv⟩ := own_isS o3.1
  rw [HRL.out] at hlv
  subst hlv
  have HO := Lib.hid o3
  have HB3 := Lib.hid b3
  clear o3 b3 HSW
  go_wp2_with fail
  go_loopw [8, 19] (fun sv iv wr => ∃ k : Nat, k ≤ rl ∧ iv = .int .i64 k ∧ sv = .int .i64 (exT R k) ∧ Below w3.heap.size w3 wr) (fun _ i _ => rl - (intOf i).toNat)
  case atStart => exact ⟨0, Nat.zero_le _, rfl, rfl, Below.refl _ _⟩
  case round =>
    obtain ⟨k, hk, rfl, rfl, hb⟩ := hrel
    have HBR := Lib.hid hb
    by_cases hlt : k < rl
    · have hkl : (k : Int) < (rl : Int) := by omega
      have hk0 : (0 : Int) ≤ (k : Int) := by omega
      obtain ⟨g, a2, c2, rfl, hc⟩ := ring_at (HO.out.below hb) HRL.out hlt
      have hl9 := HB9.out k (by rw [HRL.out]; exact hlt)
      have hbd := HEB.out k (by rw [HRL.out]; omega)
      have HS : Hid (exT R (k + 1) = exT R k + (((R.getD k []).length : Int) - 1)) := Lib.hid rfl
      obtain ⟨q, hq⟩ : ∃ q, (R.getD k []).length = q := ⟨_, rfl⟩
      obtain ⟨z, hz⟩ : ∃ z, exT R k = z := ⟨_, rfl⟩
      rw [hq] at hc hl9 HS
      rw [hz] at hbd HS
      rw [hz]
      have w1 : IntKind.i64.wrap ((q : Int) - 1) = (q : Int) - 1 := IntWalk.i64_in _ (by omega)
      have w2' : IntKind.i64.wrap (z + ((q : Int) - 1)) = z + ((q : Int) - 1) := IntWalk.i64_in _ (by omega)
      clear hb hq hz
      go_wp2_with fail
      go_roundw
      case rel => exact ⟨k + 1, by omega, by go_num, by rw [HS.out], HBR.out⟩
      case measure => simp [intOf]; omega
    · have hkr : k = rl := by omega
      have HF : Hid (exR W G = exT R k) := Lib.hid (by rw [hkr]; exact HEX.out)
      have HBF := Lib.hid (HB3.out.trans (hb.mono HB3.out.size))
      clear hb hkr
      go_wp2_with fail
      go_ret2
      exact ⟨by rw [HF.out]; rfl, HBF.out⟩
theorem totS_bd : ∀ (R : List (List Int)), (∀ r ∈ R, r.length ≤ 9) → tot R ≤ 9 * R.length
  | [], _ => by simp [tot]
  | r :: R, h => by
    have h1 := h r (by simp)
    have h2 := totS_bd R (fun q hq => h q (by simp [hq]))
    unfold tot at h2 ⊢
    simp only [List.map_cons, List.sum_cons, List.length_cons]
    omega
theorem swR_bd3 (W G : List Int) : (swR W G).length ≤ 9 ∧ (∀ j, j < (swR W G).length → ((swR W G).getD j []).length ≤ 9) ∧ tot (swR W G) ≤ 81 := by
  obtain ⟨h1, h2⟩ := swR_bd W G
  refine ⟨h1, h2, ?_⟩
  have h3 := totS_bd (swR W G) (fun r hr => by
    obtain ⟨j, hj, rfl⟩ := List.getElem_of_mem hr
    have := h2 j hj
    simpa [List.getD, hj] using this)
  omega
end Go.Proofs.YtocogipejchneaaDoor
