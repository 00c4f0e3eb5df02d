/-
  slices.insertionSortCmpFunc of the indices of vouchers, at twelve or fewer.
-/
import Derived.Test.YtgimpmdiilmkoaaDoorPvC
import Derived.Test.YtgimpmdiilmkoaaDoorToJ
import Derived.Test.YtgimpmdiilmkoaaDoorBkP
import Derived.BigRegion
namespace Go.Proofs.YtgimpmdiilmkoaaDoor
open Go Go.RowKit
set_option linter.unusedVariables false

theorem CellsVo.lo {w w' : World} {b lo : Nat} {ps : List (Int × Int)} (h : CellsVo w b ps) (hb : Below lo w w') (hl : b < lo) : CellsVo w' b ps := fun i hi => by
  obtain ⟨h0, h1⟩ := h i hi
  rw [hb.cell (p := ⟨b, i * 2, none⟩) hl, hb.cell (p := ⟨b, i * 2 + 1, none⟩) hl]
  exact ⟨h0, h1⟩
/-- A row of indices. -/
def OwnU (lo : Nat) (w : World) (g n : Nat) (ns : List Nat) : Prop := ns.length = n ∧ w.ownsRow lo 3 1 (.slice (some ⟨g, 0, none⟩) n n) n ((ns.map Int.ofNat).map (Value.int .i64))
theorem nsU_get {ns : List Nat} {j : Nat} (h : j < ns.length) : ((ns.map Int.ofNat).map (Value.int .i64))[j]? = some (.int .i64 ((ns.getD j 0 : Nat) : Int)) := by simp [List.getD, h]
theorem OwnU.cellAt {lo g n : Nat} {w : World} {ns : List Nat} (h : OwnU lo w g n ns) {j : Nat} (hj : j < n) : w.cell? ⟨g, j, none⟩ = some (.int .i64 ((ns.getD j 0 : Nat) : Int)) := by
  rw [World.ownsRow.cellAt h.2 j (by omega), nsU_get (by have := h.1; omega)]
theorem OwnU.store {lo g n : Nat} {w : World} {ns : List Nat} (h : OwnU lo w g n ns) (j x : Nat) : OwnU lo (w.setCell ⟨g, j, none⟩ (.int .i64 (x : Int))) g n (ns.set j x) := by
  have S := (World.ownsRow.stored h.2 j (.int .i64 (x : Int))).1
  refine ⟨by rw [List.length_set]; exact h.1, ?_⟩
  rw [List.map_set, List.map_set]
  exact S
theorem OwnU.below {lo g n : Nat} {w w' : World} {ns : List Nat} (h : OwnU lo w g n ns) (hb : Below w.heap.size w w') : OwnU lo w' g n ns := ⟨h.1, row_keep h.2 hb⟩

set_option maxHeartbeats 8000000 in
set_option maxRecDepth 100000 in
theorem insU_any (lo g n F B b cap : Nat) (ps : List (Int × Int)) (ns : List Nat) (w : World) (hl : ps.length = n) (h12 : n ≤ 12) (h1 : 1 ≤ n) (hlo : lo ≤ w.heap.size) (hFl : F < lo) (hBl : B < lo) (hbl : b < lo)
    (ho : OwnU lo w g n ns) (hp : ns.Perm (List.range n)) (hpre : PreU ns n 1) (hF : w.cell? ⟨F, 0, none⟩ = some (.func (.func 99) #[] #[])) (hB : w.cell? ⟨B, 0, none⟩ = some (.slice (some ⟨b, 0, none⟩) n cap)) (hc : CellsVo w b ps) :
    Calls Tryd.prog 132 #[.slice (some ⟨g, 0, none⟩) n n, .int .i64 0, .int .i64 n, .func (.func 118) #[] #[.pointer (some ⟨F, 0, none⟩), .pointer (some ⟨B, 0, none⟩)]] w fun e w' => e = .returned (.tuple #[]) ∧
      ∃ ms, OwnU lo w' g n ms ∧ ms.Perm (List.range n) ∧ SortedU ps ms n ∧ Below lo w w' := by
  have HL := Lib.hid hl
  have HB := Lib.hid hB
  have HC := Lib.hid hc
  have HO := Lib.hid ho
  have HP := Lib.hid hp
  have HPRE := Lib.hid hpre
  have HF := Lib.hid hF
  clear hB hc hl ho hp hpre hF
  go_enter Tryd.func132, Tryd.ntmps132
  go_wp2_with fail
  go_loopw [8] (fun i wr => ∃ (k : Nat) (ms : List Nat), 1 ≤ k ∧ k ≤ n ∧ i = .int .i64 k ∧ OwnU lo wr g n ms ∧ ms.Perm (List.range n) ∧ SortedU ps ms k ∧ PreU ms n k ∧ Below lo w wr) (fun i _ => n - (intOf i).toNat)
  case atStart => exact ⟨1, ns, by omega, h1, rfl, HO.out, HP.out, fun a c h h2 => by omega, HPRE.out, Below.refl _ _⟩
  case round =>
    obtain ⟨k, ms, hk1, hkn, rfl, hown, hprm, hsrt, hpr, hnx⟩ := hrel
    have HPR1 := Lib.hid hpr
    have HO1 := Lib.hid hown
    have HP1 := Lib.hid hprm
    have HS1 := Lib.hid hsrt
    have HN1 := Lib.hid hnx
    clear hown hprm hsrt hpr hnx
    by_cases hlt : k < n
    · have hki : (k : Int) < (n : Int) := by omega
      go_wp2_with fail
      go_loopw [9] (fun i wr => ∃ (j : Nat) (ms : List Nat), j ≤ k ∧ i = .int .i64 j ∧ OwnU lo wr g n ms ∧ ms.Perm (List.range n) ∧ InsU ps ms k j ∧ OldU ms n k j ∧ Below lo w wr) (fun i _ => (intOf i).toNat)
      case atStart => exact ⟨k, ms, Nat.le_refl _, rfl, HO1.out, HP1.out, InsU.start HS1.out, OldU.start HPR1.out hlt, HN1.out⟩
      case round =>
        obtain ⟨j, ls, hjk, rfl, hown, hprm, hins, hold, hnx⟩ := hrel
        have HOL := Lib.hid hold
        have hll : ls.length = n := by rw [hprm.length_eq]; simp
        have HO2 := Lib.hid hown
        have HP2 := Lib.hid hprm
        have HI2 := Lib.hid hins
        have HN2 := Lib.hid hnx
        have HLL := Lib.hid hll
        have hwr : lo ≤ wr.heap.size := by have := hnx.size; omega
        rcases Nat.eq_zero_or_pos j with hj0 | hj0
        · subst hj0
          have HDN := Lib.hid (InsU.done hins (fun h => by omega))
          have HPD := Lib.hid hold.done
          have t1 : decide ((0 : Int) < ((0 : Nat) : Int)) = false := by decide
          clear hown hprm hins hold hnx hll
          go_wp2_with fail
          go_region
          go_wp2_with fail
          go_roundw
          case rel => exact ⟨k + 1, ls, by omega, by omega, by go_num, HO2.out, HP2.out, HDN.out, HPD.out, HN2.out.drew⟩
          case measure => simp [intOf]; omega
        · obtain ⟨p, rfl⟩ : ∃ p, j = p + 1 := ⟨j - 1, by omega⟩
          have ej : (((p + 1 : Nat)) : Int) = (p : Int) + 1 := by omega
          rw [ej]
          have t1 : decide ((0 : Int) < (p : Int) + 1) = true := decide_eq_true (by omega)
          have q0 := hown.cellAt (show p + 1 < n by omega)
          have q1 := hown.cellAt (show p < n by omega)
          have hgw := (hown.2.lt g rfl).2
          have hgl := (hown.2.lt g rfl).1
          have hxr : ls.getD (p + 1) 0 < n := by
            have h : ls.getD (p + 1) 0 ∈ ls := by rw [List.getD, List.getElem?_eq_getElem (by omega)]; exact List.getElem_mem _
            exact List.mem_range.1 (hprm.mem_iff.1 h)
          have hyr : ls.getD p 0 < n := by
            have h : ls.getD p 0 ∈ ls := by rw [List.getD, List.getElem?_eq_getElem (by omega)]; exact List.getElem_mem _
            exact List.mem_range.1 (hprm.mem_iff.1 h)
          have hne : ls.getD p 0 ≠ ls.getD (p + 1) 0 := by
            have hnd : ls.Nodup := hprm.nodup_iff.2 List.nodup_range
            rw [List.getD, List.getD, List.getElem?_eq_getElem (show p < ls.length by omega), List.getElem?_eq_getElem (show p + 1 < ls.length by omega)]
            intro e
            have := (List.getElem_inj hnd).1 (by simpa using e)
            omega
          have hBr : wr.cell? ⟨B, 0, none⟩ = some (.slice (some ⟨b, 0, none⟩) n cap) := by rw [hnx.cell (p := ⟨B, 0, none⟩) hBl]; exact HB.out
          have HCR := Lib.hid (HC.out.lo hnx hbl)
          have HBR := Lib.hid hBr
          have HFR := Lib.hid (show wr.cell? ⟨F, 0, none⟩ = some (.func (.func 99) #[] #[]) by rw [hnx.cell (p := ⟨F, 0, none⟩) hFl]; exact HF.out)
          have HSW : Hid (unt ps (ls.getD (p + 1) 0) < unt ps (ls.getD p 0) → InsU ps (swU ls (p + 1)) k p) := Lib.hid (fun h => hins.swap (by omega) (by omega) (.inl h))
          have hyk : ls.getD p 0 < ls.getD (p + 1) 0 := by have h1 := hold.1; have h2 := hold.2.1 p (by omega) (by omega); omega
          have HDN : Hid (¬ unt ps (ls.getD (p + 1) 0) < unt ps (ls.getD p 0) → SortedU ps ls (k + 1)) := Lib.hid (fun h => hins.done (fun _ => LU.of_le h hyk))
          have HOS : Hid (OldU (swU ls (p + 1)) n k p) := Lib.hid (hold.swap (by omega) (by omega) (by omega))
          have HPD := Lib.hid hold.done
          have HNE := Lib.hid hne
          have HSP : Hid (swU ls (p + 1) = (ls.set (p + 1) (ls.getD p 0)).set p (ls.getD (p + 1) 0)) := Lib.hid rfl
          have HPS : Hid ((swU ls (p + 1)).Perm (List.range n)) := Lib.hid ((swU_perm (by omega)).trans hprm)
          obtain ⟨x, hx⟩ : ∃ x, ls.getD (p + 1) 0 = x := ⟨_, rfl⟩
          obtain ⟨y, hy⟩ : ∃ y, ls.getD p 0 = y := ⟨_, rfl⟩
          rw [hx] at q0 hxr HSW HDN HNE HSP
          rw [hy] at q1 hyr HSW HDN HNE HSP
          have hjn : (p : Int) + 1 < (n : Int) := by omega
          have hjn2 : (p : Int) < (n : Int) := by omega
          have hj10 : (p : Int) + 1 ≤ 12 := by omega
          have hjt : ((p : Int) + 1).toNat = p + 1 := by omega
          have hpw : IntKind.i64.wrap (p : Int) = (p : Int) := IntWalk.i64_in _ (by omega)
          have hp0 : (0 : Int) ≤ (p : Int) + 1 := by omega
          have hp1 : p + 1 < n := by omega
          have hp2 : p < n := by omega
          clear hown hprm hins hold hnx hll hx hy hne hyk hBr
          obtain ⟨r, hr⟩ : ∃ r, cmpY (unt ps x) (unt ps y) = r := ⟨_, rfl⟩
          have HR : Hid (cmpY (unt ps x) (unt ps y) = r) := Lib.hid hr
          clear hr
          go_wp2_with fail
          go_region_held3 (fun v => v.cell? ⟨g, p + 1, none⟩ = some (.int .i64 x) ∧ v.cell? ⟨g, p, none⟩ = some (.int .i64 y)) (first | exact zS | go_keep)
            ((refine (ucmp_any F B b n cap x y ps HL.out h12 hxr hyr wr.drew HFR.out HBR.out HCR.out).mono ?_; rintro e z ⟨rfl, bz⟩; rw [HR.out]; have zS : z.cell? ⟨g, p + 1, none⟩ = some (.int .i64 x) ∧ z.cell? ⟨g, p, none⟩ = some (.int .i64 y) := ⟨by rw [bz.cell (p := ⟨g, p + 1, none⟩) hgw]; exact q0, by rw [bz.cell (p := ⟨g, p, none⟩) hgw]; exact q1⟩))
          have bw : Below wr.heap.size wr z := ((Below.refl _ _).drew).trans bz
          have HN3 := Lib.hid (HN2.out.trans (bw.mono hwr))
          have HO3 := Lib.hid (HO2.out.below bw)
          obtain ⟨z0, z1⟩ := zS
          have f2 := World.ownsRow.frozenAt HO3.out.2 (p + 1)
          have f3 := World.ownsRow.frozenAt HO3.out.2 p
          have hzs : wr.heap.size ≤ z.heap.size := bw.size
          clear bz bw q0 q1
          obtain ⟨u, hu⟩ : ∃ u : World, z = u := ⟨_, rfl⟩
          rw [hu] at z0 z1 f2 f3 HN3 HO3 hzs ⊢
          clear hu
          by_cases hr0 : r < 0
          · have t2 : decide (r < 0) = true := decide_eq_true hr0
            have HIN := Lib.hid (HSW.out ((cmpY_neg _ _).1 (by rw [HR.out]; exact hr0)))
            have HOA : Hid (OwnU lo ((u.setCell ⟨g, p + 1, none⟩ (.int .i64 (y : Int))).setCell ⟨g, p, none⟩ (.int .i64 (x : Int))) g n (swU ls (p + 1))) := Lib.hid (by rw [HSP.out]; exact (HO3.out.store (p + 1) y).store p x)
            have HNA : Hid (Below lo w ((u.setCell ⟨g, p + 1, none⟩ (.int .i64 (y : Int))).setCell ⟨g, p, none⟩ (.int .i64 (x : Int)))) := Lib.hid ((HN3.out.setCell hgl _).setCell hgl _)
            have hjj : ¬ p + 1 = p := by omega
            have hjj2 : ¬ p = p + 1 := by omega
            go_wp2_with fail
            go_region
            all_goals
              go_wp2_with fail
              go_roundw
              case rel => exact ⟨p, swU ls (p + 1), by omega, by go_num, HOA.out, HPS.out, HIN.out, HOS.out, HNA.out.drew⟩
              case measure => simp [intOf]
          · have t2 : decide (r < 0) = false := decide_eq_false hr0
            have HDD := Lib.hid (HDN.out (by have h := cmpY_neg (unt ps x) (unt ps y); rw [HR.out] at h; omega))
            have hr1 : 0 ≤ r := by omega
            go_wp2_with fail
            go_roundw
            case rel => exact ⟨k + 1, ls, by omega, by omega, by go_num, HO3.out, HP2.out, HDD.out, HPD.out, HN3.out⟩
            case measure => simp [intOf]; omega
    · obtain rfl : k = n := by omega
      go_wp2_with fail
      go_end0
      exact ⟨rfl, ms, HO1.out, HP1.out, HS1.out, HN1.out⟩
end Go.Proofs.YtgimpmdiilmkoaaDoor
