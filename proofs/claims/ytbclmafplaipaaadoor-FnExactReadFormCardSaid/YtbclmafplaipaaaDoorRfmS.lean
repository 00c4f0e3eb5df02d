/-
  Reading the text of a form: the model's numbers of a line.
-/
import Derived.Test.YtbclmafplaipaaaDoorRfmQ
import Derived.Test.YtbclmafplaipaaaDoorRdS
import Derived.BigQuiet
namespace Go.Proofs.YtbclmafplaipaaaDoor
open Go Go.RowKit
set_option linter.unusedVariables false

def arr4 (ns : List Nat) : Array Value := #[.int .i64 ((ns.getD 0 0 : Nat) : Int), .int .i64 ((ns.getD 1 0 : Nat) : Int), .int .i64 ((ns.getD 2 0 : Nat) : Int), .int .i64 ((ns.getD 3 0 : Nat) : Int)]
theorem arr4_snoc {ns : List Nat} (n : Nat) (h : ns.length ≤ 3) : (arr4 ns).setIfInBounds ns.length (.int .i64 (n : Int)) = arr4 (ns ++ [n]) := by
  match ns, h with
  | [], _ => rfl
  | [_], _ => rfl
  | [_, _], _ => rfl
  | [_, _, _], _ => rfl
/-- Four numbers read, and whether there are four. -/
def RetNum (w : World) (r : Option (List Nat)) (e : Ending) (w' : World) : Prop := ∃ ns ok, e = .returned (.tuple #[.agg (arr4 ns), .bool ok]) ∧ ns.length ≤ 4 ∧ (∀ n ∈ ns, n < 1000000000) ∧ ((ok = true ∧ r = some ns) ∨ (ok = false ∧ r = none)) ∧ Below w.heap.size w w'
/-- How the walk stands at a place. -/
def NumAt (l : List UInt8) (rr : Option (List Nat)) (i bg a : Nat) (ns : List Nat) : Prop := NumSt l rr i bg a ns ∨ (i = l.length + 1 ∧ a = 4 ∧ ns.length = 4 ∧ (∀ n ∈ ns, n < 1000000000) ∧ rr = some ns)

set_option maxHeartbeats 3200000 in
set_option maxRecDepth 100000 in
theorem snums_any (l : List UInt8) (hl : l.length ≤ 1048576) (w : World) :
    Calls Tryd.prog 90 #[.string (str l)] w (RetNum w (numG [58, 120, 47] l)) := by
  have HST0 := Lib.hid (NumSt.zero l)
  obtain ⟨rr, hrr⟩ : ∃ r, numG [58, 120, 47] l = r := ⟨_, rfl⟩
  rw [hrr] at HST0 ⊢
  obtain ⟨n, hn⟩ : ∃ n, l.length = n := ⟨_, rfl⟩
  have HN := Lib.hid hn
  have hsz : (str l).size = n := by rw [str_size, hn]
  rw [hn] at hl
  have B0 : BlkA ((w.alloc (.cells (arr4 []) 120)).alloc (.cells (arr4 []) 120)) w.heap.size 120 (arr4 []) := (BlkA.new rfl _ _).alloc _
  have B1 : BlkA ((w.alloc (.cells (arr4 []) 120)).alloc (.cells (arr4 []) 120)) (w.heap.size + 1) 120 (arr4 []) := BlkA.new (by simp) _ _
  have b1 : Below w.heap.size w ((w.alloc (.cells (arr4 []) 120)).alloc (.cells (arr4 []) 120)) := ((Below.refl _ _).alloc (Nat.le_refl _) _).alloc (by simp) _
  obtain ⟨W1, hW1⟩ : ∃ W, (w.alloc (.cells #[.int .i64 0, .int .i64 0, .int .i64 0, .int .i64 0] 120)).alloc (.cells #[.int .i64 0, .int .i64 0, .int .i64 0, .int .i64 0] 120) = W := ⟨_, rfl⟩
  have hW1' : (w.alloc (.cells (arr4 []) 120)).alloc (.cells (arr4 []) 120) = W1 := hW1
  rw [hW1'] at B0 B1 b1
  have HB0 := Lib.hid B0
  have HB1 := Lib.hid B1
  have HBB := Lib.hid b1
  have HW1 := Lib.hid hW1
  -- what is laid into the result
  have HF : Hid (∀ (W : World) (ns : List Nat), BlkA W w.heap.size 120 (arr4 []) → Below w.heap.size w W →
      BlkA ((((W.setCell ⟨w.heap.size, 0, none⟩ (.int .i64 ((ns.getD 0 0 : Nat) : Int))).setCell ⟨w.heap.size, 1, none⟩ (.int .i64 ((ns.getD 1 0 : Nat) : Int))).setCell ⟨w.heap.size, 2, none⟩ (.int .i64 ((ns.getD 2 0 : Nat) : Int))).setCell ⟨w.heap.size, 3, none⟩ (.int .i64 ((ns.getD 3 0 : Nat) : Int))) w.heap.size 120 (arr4 ns) ∧
      Below w.heap.size w ((((W.setCell ⟨w.heap.size, 0, none⟩ (.int .i64 ((ns.getD 0 0 : Nat) : Int))).setCell ⟨w.heap.size, 1, none⟩ (.int .i64 ((ns.getD 1 0 : Nat) : Int))).setCell ⟨w.heap.size, 2, none⟩ (.int .i64 ((ns.getD 2 0 : Nat) : Int))).setCell ⟨w.heap.size, 3, none⟩ (.int .i64 ((ns.getD 3 0 : Nat) : Int)))) := Lib.hid (fun W ns hb hB =>
    ⟨(((hb.set 0 (.int .i64 ((ns.getD 0 0 : Nat) : Int))).set 1 (.int .i64 ((ns.getD 1 0 : Nat) : Int))).set 2 (.int .i64 ((ns.getD 2 0 : Nat) : Int))).set 3 (.int .i64 ((ns.getD 3 0 : Nat) : Int)), (((hB.setCell (by simp) _).setCell (by simp) _).setCell (by simp) _).setCell (by simp) _⟩)
  clear hrr hn B0 B1 b1 hW1 hW1'
  go_enter Tryd.func90, Tryd.ntmps90
  go_wp2_with fail
  rw [HW1.out]
  go_loopw [6, 7, 8] (fun bv av iv wr => ∃ (i bg a : Nat) (ns : List Nat), iv = .int .i64 i ∧ bv = .int .i64 bg ∧ av = .int .i64 a ∧ NumAt l rr i bg a ns ∧ BlkA wr w.heap.size 120 (arr4 []) ∧ BlkA wr (w.heap.size + 1) 120 (arr4 ns) ∧ Below w.heap.size w wr) (fun _ _ i _ => (n + 2) - (intOf i).toNat)
  case atStart => exact ⟨0, 0, 0, [], rfl, rfl, rfl, .inl HST0.out, HB0.out, HB1.out, HBB.out⟩
  case round =>
    obtain ⟨i, bg, a, ns, rfl, rfl, rfl, hat, hb0, hb1, hbb⟩ := hrel
    obtain ⟨wo, rfl⟩ : ∃ W, W = wr := ⟨_, rfl⟩
    have HR0 := Lib.hid hb0
    have HR1 := Lib.hid hb1
    have HBW := Lib.hid hbb
    obtain ⟨x0, hx0⟩ : ∃ x : Nat, ns.getD 0 0 = x := ⟨_, rfl⟩
    obtain ⟨x1, hx1⟩ : ∃ x : Nat, ns.getD 1 0 = x := ⟨_, rfl⟩
    obtain ⟨x2, hx2⟩ : ∃ x : Nat, ns.getD 2 0 = x := ⟨_, rfl⟩
    obtain ⟨x3, hx3⟩ : ∃ x : Nat, ns.getD 3 0 = x := ⟨_, rfl⟩
    have HARR : Hid (arr4 ns = #[.int .i64 (x0 : Int), .int .i64 (x1 : Int), .int .i64 (x2 : Int), .int .i64 (x3 : Int)]) := Lib.hid (by unfold arr4; rw [hx0, hx1, hx2, hx3])
    have HFN : Hid (∀ W, BlkA W w.heap.size 120 (arr4 []) → Below w.heap.size w W →
      BlkA ((((W.setCell ⟨w.heap.size, 0, none⟩ (.int .i64 (x0 : Int))).setCell ⟨w.heap.size, 1, none⟩ (.int .i64 (x1 : Int))).setCell ⟨w.heap.size, 2, none⟩ (.int .i64 (x2 : Int))).setCell ⟨w.heap.size, 3, none⟩ (.int .i64 (x3 : Int))) w.heap.size 120 (arr4 ns) ∧
      Below w.heap.size w ((((W.setCell ⟨w.heap.size, 0, none⟩ (.int .i64 (x0 : Int))).setCell ⟨w.heap.size, 1, none⟩ (.int .i64 (x1 : Int))).setCell ⟨w.heap.size, 2, none⟩ (.int .i64 (x2 : Int))).setCell ⟨w.heap.size, 3, none⟩ (.int .i64 (x3 : Int)))) := Lib.hid (fun W h1 h2 => by have h := HF.out W ns h1 h2; rw [hx0, hx1, hx2, hx3] at h; exact h)
    clear hx0 hx1 hx2 hx3 hb0 hb1 hbb
    rcases hat with hst | ⟨hi, rfl, hnl, hlt, hre⟩
    rotate_left
    · rw [HN.out] at hi
      subst hi
      have tle : decide (((n + 1 : Nat) : Int) ≤ (n : Int)) = false := decide_eq_false (by omega)
      have tle' : decide ((n : Int) + 1 ≤ (n : Int)) = false := decide_eq_false (by omega)
      obtain ⟨g1, g2⟩ := HFN.out wo HR0.out HBW.out
      rw [HARR.out] at g1
      have G1 := Lib.hid g1
      have G2 := Lib.hid g2
      have HNL := Lib.hid hnl
      have HLT := Lib.hid hlt
      have HRE := Lib.hid hre
      clear g1 g2 hnl hlt hre
      have hb1' := HR1.out
      rw [HARR.out] at hb1'
      have y0 := hb1'.at 0
      have y1 := hb1'.at 1
      have y2 := hb1'.at 2
      have y3 := hb1'.at 3
      have k0 : wo.cell? ⟨w.heap.size, 0, none⟩ = some (.int .i64 0) := HR0.out.at 0
      have k1 : wo.cell? ⟨w.heap.size, 1, none⟩ = some (.int .i64 0) := HR0.out.at 1
      have k2 : wo.cell? ⟨w.heap.size, 2, none⟩ = some (.int .i64 0) := HR0.out.at 2
      have k3 : wo.cell? ⟨w.heap.size, 3, none⟩ = some (.int .i64 0) := HR0.out.at 3
      have f0 := HR0.out.frozen 0
      have f1 := HR0.out.frozen 1
      have f2 := HR0.out.frozen 2
      have f3 := HR0.out.frozen 3
      clear hb1'
      go_wp2_with fail
      have z0 := G1.out.at 0
      have z1 := G1.out.at 1
      have z2 := G1.out.at 2
      have z3 := G1.out.at 3
      exact bodyPost_ret (v := .tuple #[.agg #[.int .i64 (x0 : Int), .int .i64 (x1 : Int), .int .i64 (x2 : Int), .int .i64 (x3 : Int)], .bool true]) (by simp [results, Tryd.results90, go_sem, z0, z1, z2, z3]) rfl ⟨ns, true, by rw [HARR.out], by rw [HNL.out]; omega, HLT.out, .inl ⟨rfl, HRE.out⟩, G2.out⟩
    have HST := Lib.hid hst
    have hin : i ≤ n := by have := hst.li; rw [HN.out] at this; exact this
    have hbi : bg ≤ i := hst.le
    have ha3 : a ≤ 3 := hst.la
    have HNL : Hid (ns.length = a) := Lib.hid hst.ln
    have HLT := Lib.hid hst.lt
    obtain ⟨c, hc⟩ : ∃ c : UInt8, l.getD i 0 = c := ⟨_, rfl⟩
    obtain ⟨cn, hcn⟩ : ∃ m, c.toNat = m := ⟨_, rfl⟩
    have HIX : Hid (i < n → ∀ W, (Instr.index 9 (.string (str l)) (.int .i64 (i : Int))).run Tryd.prog W = .ok (.int .u8 (cn : Int)) W) := Lib.hid (fun hi W => by
      have h := run_at Tryd.prog 9 .i64 l i Tryd.underlying9 (by rw [HN.out]; exact hi) W
      rw [hc, hcn] at h; exact h)
    have HDG : Hid (isDg (l.getD i 0) = decide (48 ≤ cn ∧ cn ≤ 57)) := Lib.hid (by rw [hc]; unfold isDg; rw [hcn])
    have hcn256 : cn < 256 := by rw [← hcn]; exact c.toNat_lt
    have tle : decide ((i : Int) ≤ (n : Int)) = true := decide_eq_true (by omega)
    obtain ⟨wd, hwd⟩ : ∃ x, (l.drop bg).take (i - bg) = x := ⟨_, rfl⟩
    have HSL : Hid ((str l).extract bg i = str wd) := Lib.hid (by rw [str_cut, hwd])
    have hwl : wd.length ≤ 1048576 := by rw [← hwd]; simp; omega
    have HNM := Lib.hid (fun W => snum_any wd hwl W)
    have HMK : Hid (a < 3 → ∀ W, (Instr.index 9 (.string ⟨#[58, 120, 47]⟩) (.int .i64 (a : Int))).run Tryd.prog W = .ok (.int .u8 (((mks.getD a 0).toNat : Nat) : Int)) W) := Lib.hid (fun h W => run_at Tryd.prog 9 .i64 mks a Tryd.underlying9 (by show a < 3; exact h) W)
    obtain ⟨mk, hmk⟩ : ∃ m, (mks.getD a 0).toNat = m := ⟨_, rfl⟩
    have HMKE : Hid (l.getD i 0 = mks.getD a 0 ↔ cn = mk) := Lib.hid (by rw [hc, ← hcn, ← hmk]; exact ⟨fun h => by rw [h], fun h => UInt8.toNat_inj.1 h⟩)
    rw [hmk] at HMK
    obtain ⟨rn, hrn⟩ : ∃ r, num wd = r := ⟨_, rfl⟩
    have HNUM : Hid (num ((l.drop bg).take (i - bg)) = rn) := Lib.hid (by rw [hwd]; exact hrn)
    have HRN9 : Hid (∀ m, rn = some m → m < 1000000000) := Lib.hid (fun m h => (num_spec (hrn.trans h)).2)
    rw [hrn] at HNM
    clear hst hc hcn hwd hmk hrn
    by_cases hdg : i < n ∧ 48 ≤ cn ∧ cn ≤ 57
    · obtain ⟨hi, h1, h2⟩ := hdg
      have ti : decide ((i : Int) < (n : Int)) = true := decide_eq_true (by omega)
      have t1 : decide ((cn : Int) ≥ 48) = true := decide_eq_true (by omega)
      have t2 : decide ((cn : Int) ≤ 57) = true := decide_eq_true (by omega)
      have hix := HIX.out hi
      have HNX := Lib.hid (HST.out.digit (by rw [HN.out]; exact hi) (by rw [HDG.out]; exact decide_eq_true ⟨h1, h2⟩))
      have q1 : (48 : Int) ≤ (cn : Int) := by omega
      have q2 : (cn : Int) ≤ 57 := by omega
      have q3 : (i : Int) < (n : Int) := by omega
      clear h1 h2 HMK HNM HSL HMKE HNUM HRN9
      go_wp2_with fail
      go_roundw
      case rel => exact ⟨i + 1, bg, a, ns, by go_num, rfl, rfl, .inl HNX.out, HR0.out, HR1.out, HBW.out⟩
      case measure => simp [intOf]; omega
    have HND : Hid (i < l.length → isDg (l.getD i 0) = false) := Lib.hid (fun h => by rw [HDG.out]; exact decide_eq_false (fun e => hdg ⟨by rw [← HN.out]; exact h, e⟩))
    by_cases hi : i = n
    · have ti : decide ((i : Int) < (n : Int)) = false := decide_eq_false (by omega)
      have te : ((i : Int) == (n : Int)) = true := by rw [beq_iff_eq]; omega
      have HX : Hid ((str l).extract bg n = str wd) := Lib.hid (by rw [← hi, HSL.out])
      have hbz : (bg : Int) ≤ (i : Int) := by omega
      have hbz0 : (0 : Int) ≤ (bg : Int) := by omega
      cases rn with
      | none =>
        have HRR : Hid (rr = none) := Lib.hid (HST.out.bad HND.out HNUM.out)
        simp only [Option.getD_none, Option.isSome_none] at HNM
        clear HMK HRN9 HMKE
        go_wp2_with fail
        rw [HX.out]
        refine (HNM.out _).mono ?_
        rintro e _ ⟨rfl, rfl⟩
        go_wp2_with fail
        go_big_quiet (fail)
        obtain ⟨g1, g2⟩ := HFN.out (wo.drewN nq) HR0.out (below_drewN HBW.out nq)
        rw [HARR.out] at g1
        have G1 := Lib.hid g1
        have G2 := Lib.hid g2
        clear g1 g2
        have hb1' := HR1.out
        rw [HARR.out] at hb1'
        have y0 := hb1'.at 0
        have y1 := hb1'.at 1
        have y2 := hb1'.at 2
        have y3 := hb1'.at 3
        have k0 : wo.cell? ⟨w.heap.size, 0, none⟩ = some (.int .i64 0) := HR0.out.at 0
        have k1 : wo.cell? ⟨w.heap.size, 1, none⟩ = some (.int .i64 0) := HR0.out.at 1
        have k2 : wo.cell? ⟨w.heap.size, 2, none⟩ = some (.int .i64 0) := HR0.out.at 2
        have k3 : wo.cell? ⟨w.heap.size, 3, none⟩ = some (.int .i64 0) := HR0.out.at 3
        have f0 := HR0.out.frozen 0
        have f1 := HR0.out.frozen 1
        have f2 := HR0.out.frozen 2
        have f3 := HR0.out.frozen 3
        clear hb1'
        go_wp2_with fail
        have z0 := G1.out.at 0
        have z1 := G1.out.at 1
        have z2 := G1.out.at 2
        have z3 := G1.out.at 3
        exact bodyPost_ret (v := .tuple #[.agg #[.int .i64 (x0 : Int), .int .i64 (x1 : Int), .int .i64 (x2 : Int), .int .i64 (x3 : Int)], .bool false]) (by simp [results, Tryd.results90, go_sem, z0, z1, z2, z3]) rfl ⟨ns, false, by rw [HARR.out], by rw [HNL.out]; omega, HLT.out, .inr ⟨rfl, HRR.out⟩, G2.out⟩
      | some m =>
        have hm9 := HRN9.out m rfl
        simp only [Option.getD_some, Option.isSome_some] at HNM
        clear HRN9
        by_cases ha : a < 3
        · have ta : decide ((a : Int) > 3) = false := decide_eq_false (by omega)
          have ta' : decide ((3 : Int) < (a : Int)) = false := decide_eq_false (by omega)
          have tb : decide ((a : Int) < 3) = true := decide_eq_true (by omega)
          have tc : ((a : Int) == 3) = false := by rw [beq_eq_false_iff_ne]; omega
          have HRR : Hid (rr = none) := Lib.hid (HST.out.short ha (by rw [HN.out]; exact hi))
          go_wp2_with fail
          rw [HX.out]
          refine (HNM.out _).mono ?_
          rintro e _ ⟨rfl, rfl⟩
          go_wp2_with fail
          go_big_quiet (fail)
          obtain ⟨g1, g2⟩ := HFN.out (wo.drewN nq) HR0.out (below_drewN HBW.out nq)
          rw [HARR.out] at g1
          have G1 := Lib.hid g1
          have G2 := Lib.hid g2
          clear g1 g2
          have hb1' := HR1.out
          rw [HARR.out] at hb1'
          have y0 := hb1'.at 0
          have y1 := hb1'.at 1
          have y2 := hb1'.at 2
          have y3 := hb1'.at 3
          have k0 : wo.cell? ⟨w.heap.size, 0, none⟩ = some (.int .i64 0) := HR0.out.at 0
          have k1 : wo.cell? ⟨w.heap.size, 1, none⟩ = some (.int .i64 0) := HR0.out.at 1
          have k2 : wo.cell? ⟨w.heap.size, 2, none⟩ = some (.int .i64 0) := HR0.out.at 2
          have k3 : wo.cell? ⟨w.heap.size, 3, none⟩ = some (.int .i64 0) := HR0.out.at 3
          have f0 := HR0.out.frozen 0
          have f1 := HR0.out.frozen 1
          have f2 := HR0.out.frozen 2
          have f3 := HR0.out.frozen 3
          clear hb1'
          go_wp2_with fail
          have z0 := G1.out.at 0
          have z1 := G1.out.at 1
          have z2 := G1.out.at 2
          have z3 := G1.out.at 3
          exact bodyPost_ret (v := .tuple #[.agg #[.int .i64 (x0 : Int), .int .i64 (x1 : Int), .int .i64 (x2 : Int), .int .i64 (x3 : Int)], .bool false]) (by simp [results, Tryd.results90, go_sem, z0, z1, z2, z3]) rfl ⟨ns, false, by rw [HARR.out], by rw [HNL.out]; omega, HLT.out, .inr ⟨rfl, HRR.out⟩, G2.out⟩
        · obtain rfl : a = 3 := by omega
          have HDN : Hid (rr = some (ns ++ [m])) := Lib.hid (HST.out.done (by rw [HN.out]; exact hi) HNUM.out)
          go_wp2_with fail
          rw [HX.out]
          refine (HNM.out _).mono ?_
          rintro e _ ⟨rfl, rfl⟩
          go_wp2_with fail
          go_big_quiet (fail)
          have hb1w : BlkA (wo.drewN nq) (w.heap.size + 1) 120 (arr4 ns) := HR1.out
          have hset := hb1w.set 3 (.int .i64 (m : Int))
          rw [show (arr4 ns).setIfInBounds 3 (.int .i64 (m : Int)) = arr4 (ns ++ [m]) by rw [← HNL.out]; exact arr4_snoc m (by rw [HNL.out]; omega)] at hset
          have hr0 : BlkA ((wo.drewN nq).setCell ⟨w.heap.size + 1, 3, none⟩ (.int .i64 (m : Int))) w.heap.size 120 (arr4 []) := (heap_setCell_other (wo.drewN nq) ⟨w.heap.size + 1, 3, none⟩ w.heap.size _ (by show w.heap.size ≠ w.heap.size + 1; omega)).trans HR0.out
          have hbe : Below w.heap.size w ((wo.drewN nq).setCell ⟨w.heap.size + 1, 3, none⟩ (.int .i64 (m : Int))) := (below_drewN HBW.out nq).setCell (by show w.heap.size ≤ w.heap.size + 1; omega) _
          have HSET := Lib.hid hset
          have HS0 := Lib.hid hr0
          have HSB := Lib.hid hbe
          obtain ⟨va, hva⟩ : ∃ v, (arr4 ns)[3]? = some v := ⟨_, Array.getElem?_eq_getElem (by show 3 < 4; omega)⟩
          have ca := hb1w.at 3
          rw [hva] at ca
          have fa := hb1w.frozen 3
          clear hset hr0 hbe hb1w hva
          go_wp2_with fail
          go_roundw
          case rel => exact ⟨i + 1, i + 1, 4, ns ++ [m], by go_num, by go_num, by go_num, .inr ⟨by rw [HN.out]; omega, rfl, by rw [List.length_append, HNL.out]; rfl, (fun q hq => by
            rcases List.mem_append.1 hq with hq | hq
            · exact HLT.out q hq
            · have e : q = m := by simpa using hq
              rw [e]; exact hm9), HDN.out⟩, HS0.out, HSET.out, HSB.out⟩
          case measure => simp [intOf]; omega
    by_cases hlo : cn < 48
    · have hil : i < n := by omega
      have ti : decide ((i : Int) < (n : Int)) = true := decide_eq_true (by omega)
      have te : ((i : Int) == (n : Int)) = false := by rw [beq_eq_false_iff_ne]; omega
      have q3 : (i : Int) < (n : Int) := by omega
      have hix := HIX.out hil
      have t1 : decide ((cn : Int) ≥ 48) = false := decide_eq_false (by omega)
      have q1 : decide ((48 : Int) ≤ (cn : Int)) = false := decide_eq_false (by omega)
      have HX : Hid ((str l).extract bg i = str wd) := Lib.hid (by rw [HSL.out])
      have hbz : (bg : Int) ≤ (i : Int) := by omega
      have hbz0 : (0 : Int) ≤ (bg : Int) := by omega
      cases rn with
      | none =>
        have HRR : Hid (rr = none) := Lib.hid (HST.out.bad HND.out HNUM.out)
        simp only [Option.getD_none, Option.isSome_none] at HNM
        clear HMK HRN9 HMKE
        go_wp2_with fail
        rw [HX.out]
        refine (HNM.out _).mono ?_
        rintro e _ ⟨rfl, rfl⟩
        go_wp2_with fail
        go_big_quiet (fail)
        obtain ⟨g1, g2⟩ := HFN.out (wo.drewN nq) HR0.out (below_drewN HBW.out nq)
        rw [HARR.out] at g1
        have G1 := Lib.hid g1
        have G2 := Lib.hid g2
        clear g1 g2
        have hb1' := HR1.out
        rw [HARR.out] at hb1'
        have y0 := hb1'.at 0
        have y1 := hb1'.at 1
        have y2 := hb1'.at 2
        have y3 := hb1'.at 3
        have k0 : wo.cell? ⟨w.heap.size, 0, none⟩ = some (.int .i64 0) := HR0.out.at 0
        have k1 : wo.cell? ⟨w.heap.size, 1, none⟩ = some (.int .i64 0) := HR0.out.at 1
        have k2 : wo.cell? ⟨w.heap.size, 2, none⟩ = some (.int .i64 0) := HR0.out.at 2
        have k3 : wo.cell? ⟨w.heap.size, 3, none⟩ = some (.int .i64 0) := HR0.out.at 3
        have f0 := HR0.out.frozen 0
        have f1 := HR0.out.frozen 1
        have f2 := HR0.out.frozen 2
        have f3 := HR0.out.frozen 3
        clear hb1'
        go_wp2_with fail
        have z0 := G1.out.at 0
        have z1 := G1.out.at 1
        have z2 := G1.out.at 2
        have z3 := G1.out.at 3
        exact bodyPost_ret (v := .tuple #[.agg #[.int .i64 (x0 : Int), .int .i64 (x1 : Int), .int .i64 (x2 : Int), .int .i64 (x3 : Int)], .bool false]) (by simp [results, Tryd.results90, go_sem, z0, z1, z2, z3]) rfl ⟨ns, false, by rw [HARR.out], by rw [HNL.out]; omega, HLT.out, .inr ⟨rfl, HRR.out⟩, G2.out⟩
      | some m =>
        have hm9 := HRN9.out m rfl
        simp only [Option.getD_some, Option.isSome_some] at HNM
        clear HRN9
        by_cases ha : a < 3
        · have hmkx := HMK.out ha
          have ta : decide ((a : Int) > 3) = false := decide_eq_false (by omega)
          have ta' : decide ((3 : Int) < (a : Int)) = false := decide_eq_false (by omega)
          have tb : decide ((a : Int) < 3) = true := decide_eq_true (by omega)
          have tc : ((a : Int) == 3) = false := by rw [beq_eq_false_iff_ne]; omega
          by_cases hmk : cn = mk
          · have tm : ((cn : Int) != (mk : Int)) = false := by simp; omega
            have HNX := Lib.hid (HST.out.next ha (by rw [HN.out]; exact hil) (by have := HND.out (by rw [HN.out]; exact hil); exact this) (HMKE.out.2 hmk) HNUM.out)
            go_wp2_with fail
            rw [HX.out]
            refine (HNM.out _).mono ?_
            rintro e _ ⟨rfl, rfl⟩
            go_wp2_with fail
            go_big_quiet (fail)
            have hb1w : BlkA (wo.drewN nq) (w.heap.size + 1) 120 (arr4 ns) := HR1.out
            have hset := hb1w.set a (.int .i64 (m : Int))
            rw [show (arr4 ns).setIfInBounds a (.int .i64 (m : Int)) = arr4 (ns ++ [m]) by rw [← HNL.out]; exact arr4_snoc m (by rw [HNL.out]; omega)] at hset
            have hr0 : BlkA ((wo.drewN nq).setCell ⟨w.heap.size + 1, a, none⟩ (.int .i64 (m : Int))) w.heap.size 120 (arr4 []) := (heap_setCell_other (wo.drewN nq) ⟨w.heap.size + 1, a, none⟩ w.heap.size _ (by show w.heap.size ≠ w.heap.size + 1; omega)).trans HR0.out
            have hbe : Below w.heap.size w ((wo.drewN nq).setCell ⟨w.heap.size + 1, a, none⟩ (.int .i64 (m : Int))) := (below_drewN HBW.out nq).setCell (by show w.heap.size ≤ w.heap.size + 1; omega) _
            have HSET := Lib.hid hset
            have HS0 := Lib.hid hr0
            have HSB := Lib.hid hbe
            obtain ⟨va, hva⟩ : ∃ v, (arr4 ns)[a]? = some v := ⟨_, Array.getElem?_eq_getElem (by show a < 4; omega)⟩
            have ca := hb1w.at a
            rw [hva] at ca
            have fa := hb1w.frozen a
            clear hset hr0 hbe hb1w hva
            go_wp2_with fail
            go_roundw
            case rel => exact ⟨i + 1, i + 1, a + 1, ns ++ [m], by go_num, by go_num, by go_num, .inl HNX.out, HS0.out, HSET.out, HSB.out⟩
            case measure => simp [intOf]; omega
          · have tm : ((cn : Int) != (mk : Int)) = true := by simp; omega
            have HRR : Hid (rr = none) := Lib.hid (HST.out.wrong ha (by rw [HN.out]; exact hil) (by have := HND.out (by rw [HN.out]; exact hil); exact this) (fun e => hmk (HMKE.out.1 e)))
            go_wp2_with fail
            rw [HX.out]
            refine (HNM.out _).mono ?_
            rintro e _ ⟨rfl, rfl⟩
            go_wp2_with fail
            go_big_quiet (fail)
            obtain ⟨g1, g2⟩ := HFN.out (wo.drewN nq) HR0.out (below_drewN HBW.out nq)
            rw [HARR.out] at g1
            have G1 := Lib.hid g1
            have G2 := Lib.hid g2
            clear g1 g2
            have hb1' := HR1.out
            rw [HARR.out] at hb1'
            have y0 := hb1'.at 0
            have y1 := hb1'.at 1
            have y2 := hb1'.at 2
            have y3 := hb1'.at 3
            have k0 : wo.cell? ⟨w.heap.size, 0, none⟩ = some (.int .i64 0) := HR0.out.at 0
            have k1 : wo.cell? ⟨w.heap.size, 1, none⟩ = some (.int .i64 0) := HR0.out.at 1
            have k2 : wo.cell? ⟨w.heap.size, 2, none⟩ = some (.int .i64 0) := HR0.out.at 2
            have k3 : wo.cell? ⟨w.heap.size, 3, none⟩ = some (.int .i64 0) := HR0.out.at 3
            have f0 := HR0.out.frozen 0
            have f1 := HR0.out.frozen 1
            have f2 := HR0.out.frozen 2
            have f3 := HR0.out.frozen 3
            clear hb1'
            go_wp2_with fail
            have z0 := G1.out.at 0
            have z1 := G1.out.at 1
            have z2 := G1.out.at 2
            have z3 := G1.out.at 3
            exact bodyPost_ret (v := .tuple #[.agg #[.int .i64 (x0 : Int), .int .i64 (x1 : Int), .int .i64 (x2 : Int), .int .i64 (x3 : Int)], .bool false]) (by simp [results, Tryd.results90, go_sem, z0, z1, z2, z3]) rfl ⟨ns, false, by rw [HARR.out], by rw [HNL.out]; omega, HLT.out, .inr ⟨rfl, HRR.out⟩, G2.out⟩
        · obtain rfl : a = 3 := by omega
          have HRR : Hid (rr = none) := Lib.hid (HST.out.more (by rw [HN.out]; exact hil) (by have := HND.out (by rw [HN.out]; exact hil); exact this))
          go_wp2_with fail
          rw [HX.out]
          refine (HNM.out _).mono ?_
          rintro e _ ⟨rfl, rfl⟩
          go_wp2_with fail
          go_big_quiet (fail)
          obtain ⟨g1, g2⟩ := HFN.out (wo.drewN nq) HR0.out (below_drewN HBW.out nq)
          rw [HARR.out] at g1
          have G1 := Lib.hid g1
          have G2 := Lib.hid g2
          clear g1 g2
          have hb1' := HR1.out
          rw [HARR.out] at hb1'
          have y0 := hb1'.at 0
          have y1 := hb1'.at 1
          have y2 := hb1'.at 2
          have y3 := hb1'.at 3
          have k0 : wo.cell? ⟨w.heap.size, 0, none⟩ = some (.int .i64 0) := HR0.out.at 0
          have k1 : wo.cell? ⟨w.heap.size, 1, none⟩ = some (.int .i64 0) := HR0.out.at 1
          have k2 : wo.cell? ⟨w.heap.size, 2, none⟩ = some (.int .i64 0) := HR0.out.at 2
          have k3 : wo.cell? ⟨w.heap.size, 3, none⟩ = some (.int .i64 0) := HR0.out.at 3
          have f0 := HR0.out.frozen 0
          have f1 := HR0.out.frozen 1
          have f2 := HR0.out.frozen 2
          have f3 := HR0.out.frozen 3
          clear hb1'
          go_wp2_with fail
          have z0 := G1.out.at 0
          have z1 := G1.out.at 1
          have z2 := G1.out.at 2
          have z3 := G1.out.at 3
          exact bodyPost_ret (v := .tuple #[.agg #[.int .i64 (x0 : Int), .int .i64 (x1 : Int), .int .i64 (x2 : Int), .int .i64 (x3 : Int)], .bool false]) (by simp [results, Tryd.results90, go_sem, z0, z1, z2, z3]) rfl ⟨ns, false, by rw [HARR.out], by rw [HNL.out]; omega, HLT.out, .inr ⟨rfl, HRR.out⟩, G2.out⟩
    · have hhi : 57 < cn := by omega
      have hil : i < n := by omega
      have ti : decide ((i : Int) < (n : Int)) = true := decide_eq_true (by omega)
      have te : ((i : Int) == (n : Int)) = false := by rw [beq_eq_false_iff_ne]; omega
      have q3 : (i : Int) < (n : Int) := by omega
      have hix := HIX.out hil
      have t1 : decide ((cn : Int) ≥ 48) = true := decide_eq_true (by omega)
      have q1 : (48 : Int) ≤ (cn : Int) := by omega
      have t2 : decide ((cn : Int) ≤ 57) = false := decide_eq_false (by omega)
      have HX : Hid ((str l).extract bg i = str wd) := Lib.hid (by rw [HSL.out])
      have hbz : (bg : Int) ≤ (i : Int) := by omega
      have hbz0 : (0 : Int) ≤ (bg : Int) := by omega
      cases rn with
      | none =>
        have HRR : Hid (rr = none) := Lib.hid (HST.out.bad HND.out HNUM.out)
        simp only [Option.getD_none, Option.isSome_none] at HNM
        clear HMK HRN9 HMKE
        go_wp2_with fail
        rw [HX.out]
        refine (HNM.out _).mono ?_
        rintro e _ ⟨rfl, rfl⟩
        go_wp2_with fail
        go_big_quiet (fail)
        obtain ⟨g1, g2⟩ := HFN.out (wo.drewN nq) HR0.out (below_drewN HBW.out nq)
        rw [HARR.out] at g1
        have G1 := Lib.hid g1
        have G2 := Lib.hid g2
        clear g1 g2
        have hb1' := HR1.out
        rw [HARR.out] at hb1'
        have y0 := hb1'.at 0
        have y1 := hb1'.at 1
        have y2 := hb1'.at 2
        have y3 := hb1'.at 3
        have k0 : wo.cell? ⟨w.heap.size, 0, none⟩ = some (.int .i64 0) := HR0.out.at 0
        have k1 : wo.cell? ⟨w.heap.size, 1, none⟩ = some (.int .i64 0) := HR0.out.at 1
        have k2 : wo.cell? ⟨w.heap.size, 2, none⟩ = some (.int .i64 0) := HR0.out.at 2
        have k3 : wo.cell? ⟨w.heap.size, 3, none⟩ = some (.int .i64 0) := HR0.out.at 3
        have f0 := HR0.out.frozen 0
        have f1 := HR0.out.frozen 1
        have f2 := HR0.out.frozen 2
        have f3 := HR0.out.frozen 3
        clear hb1'
        go_wp2_with fail
        have z0 := G1.out.at 0
        have z1 := G1.out.at 1
        have z2 := G1.out.at 2
        have z3 := G1.out.at 3
        exact bodyPost_ret (v := .tuple #[.agg #[.int .i64 (x0 : Int), .int .i64 (x1 : Int), .int .i64 (x2 : Int), .int .i64 (x3 : Int)], .bool false]) (by simp [results, Tryd.results90, go_sem, z0, z1, z2, z3]) rfl ⟨ns, false, by rw [HARR.out], by rw [HNL.out]; omega, HLT.out, .inr ⟨rfl, HRR.out⟩, G2.out⟩
      | some m =>
        have hm9 := HRN9.out m rfl
        simp only [Option.getD_some, Option.isSome_some] at HNM
        clear HRN9
        by_cases ha : a < 3
        · have hmkx := HMK.out ha
          have ta : decide ((a : Int) > 3) = false := decide_eq_false (by omega)
          have ta' : decide ((3 : Int) < (a : Int)) = false := decide_eq_false (by omega)
          have tb : decide ((a : Int) < 3) = true := decide_eq_true (by omega)
          have tc : ((a : Int) == 3) = false := by rw [beq_eq_false_iff_ne]; omega
          by_cases hmk : cn = mk
          · have tm : ((cn : Int) != (mk : Int)) = false := by simp; omega
            have HNX := Lib.hid (HST.out.next ha (by rw [HN.out]; exact hil) (by have := HND.out (by rw [HN.out]; exact hil); exact this) (HMKE.out.2 hmk) HNUM.out)
            go_wp2_with fail
            rw [HX.out]
            refine (HNM.out _).mono ?_
            rintro e _ ⟨rfl, rfl⟩
            go_wp2_with fail
            go_big_quiet (fail)
            have hb1w : BlkA (wo.drewN nq) (w.heap.size + 1) 120 (arr4 ns) := HR1.out
            have hset := hb1w.set a (.int .i64 (m : Int))
            rw [show (arr4 ns).setIfInBounds a (.int .i64 (m : Int)) = arr4 (ns ++ [m]) by rw [← HNL.out]; exact arr4_snoc m (by rw [HNL.out]; omega)] at hset
            have hr0 : BlkA ((wo.drewN nq).setCell ⟨w.heap.size + 1, a, none⟩ (.int .i64 (m : Int))) w.heap.size 120 (arr4 []) := (heap_setCell_other (wo.drewN nq) ⟨w.heap.size + 1, a, none⟩ w.heap.size _ (by show w.heap.size ≠ w.heap.size + 1; omega)).trans HR0.out
            have hbe : Below w.heap.size w ((wo.drewN nq).setCell ⟨w.heap.size + 1, a, none⟩ (.int .i64 (m : Int))) := (below_drewN HBW.out nq).setCell (by show w.heap.size ≤ w.heap.size + 1; omega) _
            have HSET := Lib.hid hset
            have HS0 := Lib.hid hr0
            have HSB := Lib.hid hbe
            obtain ⟨va, hva⟩ : ∃ v, (arr4 ns)[a]? = some v := ⟨_, Array.getElem?_eq_getElem (by show a < 4; omega)⟩
            have ca := hb1w.at a
            rw [hva] at ca
            have fa := hb1w.frozen a
            clear hset hr0 hbe hb1w hva
            go_wp2_with fail
            go_roundw
            case rel => exact ⟨i + 1, i + 1, a + 1, ns ++ [m], by go_num, by go_num, by go_num, .inl HNX.out, HS0.out, HSET.out, HSB.out⟩
            case measure => simp [intOf]; omega
          · have tm : ((cn : Int) != (mk : Int)) = true := by simp; omega
            have HRR : Hid (rr = none) := Lib.hid (HST.out.wrong ha (by rw [HN.out]; exact hil) (by have := HND.out (by rw [HN.out]; exact hil); exact this) (fun e => hmk (HMKE.out.1 e)))
            go_wp2_with fail
            rw [HX.out]
            refine (HNM.out _).mono ?_
            rintro e _ ⟨rfl, rfl⟩
            go_wp2_with fail
            go_big_quiet (fail)
            obtain ⟨g1, g2⟩ := HFN.out (wo.drewN nq) HR0.out (below_drewN HBW.out nq)
            rw [HARR.out] at g1
            have G1 := Lib.hid g1
            have G2 := Lib.hid g2
            clear g1 g2
            have hb1' := HR1.out
            rw [HARR.out] at hb1'
            have y0 := hb1'.at 0
            have y1 := hb1'.at 1
            have y2 := hb1'.at 2
            have y3 := hb1'.at 3
            have k0 : wo.cell? ⟨w.heap.size, 0, none⟩ = some (.int .i64 0) := HR0.out.at 0
            have k1 : wo.cell? ⟨w.heap.size, 1, none⟩ = some (.int .i64 0) := HR0.out.at 1
            have k2 : wo.cell? ⟨w.heap.size, 2, none⟩ = some (.int .i64 0) := HR0.out.at 2
            have k3 : wo.cell? ⟨w.heap.size, 3, none⟩ = some (.int .i64 0) := HR0.out.at 3
            have f0 := HR0.out.frozen 0
            have f1 := HR0.out.frozen 1
            have f2 := HR0.out.frozen 2
            have f3 := HR0.out.frozen 3
            clear hb1'
            go_wp2_with fail
            have z0 := G1.out.at 0
            have z1 := G1.out.at 1
            have z2 := G1.out.at 2
            have z3 := G1.out.at 3
            exact bodyPost_ret (v := .tuple #[.agg #[.int .i64 (x0 : Int), .int .i64 (x1 : Int), .int .i64 (x2 : Int), .int .i64 (x3 : Int)], .bool false]) (by simp [results, Tryd.results90, go_sem, z0, z1, z2, z3]) rfl ⟨ns, false, by rw [HARR.out], by rw [HNL.out]; omega, HLT.out, .inr ⟨rfl, HRR.out⟩, G2.out⟩
        · obtain rfl : a = 3 := by omega
          have HRR : Hid (rr = none) := Lib.hid (HST.out.more (by rw [HN.out]; exact hil) (by have := HND.out (by rw [HN.out]; exact hil); exact this))
          go_wp2_with fail
          rw [HX.out]
          refine (HNM.out _).mono ?_
          rintro e _ ⟨rfl, rfl⟩
          go_wp2_with fail
          go_big_quiet (fail)
          obtain ⟨g1, g2⟩ := HFN.out (wo.drewN nq) HR0.out (below_drewN HBW.out nq)
          rw [HARR.out] at g1
          have G1 := Lib.hid g1
          have G2 := Lib.hid g2
          clear g1 g2
          have hb1' := HR1.out
          rw [HARR.out] at hb1'
          have y0 := hb1'.at 0
          have y1 := hb1'.at 1
          have y2 := hb1'.at 2
          have y3 := hb1'.at 3
          have k0 : wo.cell? ⟨w.heap.size, 0, none⟩ = some (.int .i64 0) := HR0.out.at 0
          have k1 : wo.cell? ⟨w.heap.size, 1, none⟩ = some (.int .i64 0) := HR0.out.at 1
          have k2 : wo.cell? ⟨w.heap.size, 2, none⟩ = some (.int .i64 0) := HR0.out.at 2
          have k3 : wo.cell? ⟨w.heap.size, 3, none⟩ = some (.int .i64 0) := HR0.out.at 3
          have f0 := HR0.out.frozen 0
          have f1 := HR0.out.frozen 1
          have f2 := HR0.out.frozen 2
          have f3 := HR0.out.frozen 3
          clear hb1'
          go_wp2_with fail
          have z0 := G1.out.at 0
          have z1 := G1.out.at 1
          have z2 := G1.out.at 2
          have z3 := G1.out.at 3
          exact bodyPost_ret (v := .tuple #[.agg #[.int .i64 (x0 : Int), .int .i64 (x1 : Int), .int .i64 (x2 : Int), .int .i64 (x3 : Int)], .bool false]) (by simp [results, Tryd.results90, go_sem, z0, z1, z2, z3]) rfl ⟨ns, false, by rw [HARR.out], by rw [HNL.out]; omega, HLT.out, .inr ⟨rfl, HRR.out⟩, G2.out⟩
end Go.Proofs.YtbclmafplaipaaaDoor
