/-
  The program's FirstRolls.
-/
import Derived.Test.YtlobfhhdddedbaaRollS
import Derived.Deep.LoopGhost
namespace Go.Proofs.Ytlobfhhdddedbaa
open Go Go.RowKit
set_option linter.unusedVariables false

/-- The rolls so far, and 0 for the cuts that are still to come. -/
def soFar (O : List Int) (n : Nat) : List Int := O ++ List.replicate (n - O.length) 0
theorem soFar_nil (n : Nat) : soFar [] n = List.replicate n 0 := by simp [soFar]
theorem soFar_all {O : List Int} {n : Nat} (h : O.length = n) : soFar O n = O := by simp [soFar, h]
theorem soFar_len {O : List Int} {n : Nat} (h : O.length ≤ n) : (soFar O n).length = n := by simp [soFar]; omega
theorem soFar_set {O : List Int} {n : Nat} (x : Int) (h : O.length < n) : (soFar O n).set O.length x = soFar (O ++ [x]) n := by
  unfold soFar
  rw [List.set_append_right _ _ (Nat.le_refl _), Nat.sub_self, show n - O.length = (n - (O ++ [x]).length) + 1 by simp; omega, List.replicate_succ, List.set_cons_zero, List.append_assoc]
  rfl

set_option maxHeartbeats 4000000 in
set_option maxRecDepth 100000 in
theorem iroll_any (v : Value) (xs : List Int) (long : Int) (w : World) (hv : ReadsI w v xs) (hn : xs.length ≤ 1048576) :
    Calls Try.prog 9 #[v, .int .i64 long] w (RetRoll w.heap.size w xs long) := by
  have HRD := Lib.hid hv
  obtain ⟨i0, hi, hz0, hz1, hz2⟩ := info_parts info_i64
  by_cases hc0 : rollC xs long = 0
  · obtain ⟨h10, hlong, hbt⟩ := rollC_spec hc0
    have HC := Lib.hid hc0
    have HX := Lib.hid (roll_0 hc0)
    have HBT := Lib.hid hbt
    obtain ⟨hl1, hl2⟩ := hlong
    obtain ⟨a, cap, rfl, ha⟩ := hv
    have HA := Lib.hid ha
    obtain ⟨n, hn'⟩ : ∃ n, xs.length = n := ⟨_, rfl⟩
    rw [hn'] at HRD h10 hn ⊢
    have HN := Lib.hid hn'
    clear hc0 hbt ha hn'
    go_enter Try.func9, Try.ntmps9
    go_wp2_with fail
    go_step3
    go_wp2_with fail
    refine (irolls_any _ xs long _ HRD.out (by rw [HN.out]; exact hn)).mono ?_
    rintro e w2 ⟨rfl, rfl⟩
    rw [HC.out]
    go_wp2_with (refine wpList_make_full _ rfl _ _ 22 rfl w.heap.size 2 i0 (.int .i64 0) 1 Try.underlying22 hi hz0 hz1 .i64 .i64 _ _ n rfl rfl rfl rfl (by rw [hz2]; omega) (by unfold maxLen; omega) (Nat.le_refl _) ?_; intro w1 hown1 hg1)
    have hown2 := made_own hown1
    rw [← soFar_nil n] at hown2
    have hs1 : w.heap.size < w1.heap.size := (hown1.lt w.heap.size rfl).2
    have HB0 : Hid (Below w.heap.size w w1) := Lib.hid ((Below.refl _ _).grown hg1 (Nat.le_refl _) (fun k hk => by simp at hk))
    have HO := Lib.hid hown2
    clear hown1 hg1 hown2
    go_wp2_with fail
    go_step3
    go_wp2_with fail
    go_loopg [9, 25] n (fun gh l i wr => ∃ (k : Nat) (O L : List Int), k + gh = n ∧ i = .int .i64 k ∧ rollK xs long k = (O, L) ∧ wr.ownsRow w.heap.size 2 1 (.slice (some ⟨w.heap.size, 0, none⟩) n n) n ((soFar O n).map (Value.int .i64)) ∧ OwnI (w.heap.size + 1) wr l L ∧ w.heap.size < wr.heap.size ∧ Below w.heap.size w wr)
    case atStart => exact ⟨0, [], [], by omega, rfl, rfl, HO.out, World.ownsRow_nil _ _ _ _, hs1, HB0.out⟩
    case round =>
      obtain ⟨k, O, L, hkg, rfl, hrk, hO, hL, hsz, hnx⟩ := hrel
      have hbd := rollK_bd HBT.out k (by have := HN.out; omega)
      rw [hrk] at hbd
      obtain ⟨bd1, bd2, bd3⟩ := hbd
      simp only at bd1 bd2 bd3
      cases gk with
      | zero =>
        have hk' : k = n := by omega
        have HR : Hid (rollX xs long = O ∧ rollN xs long = (L.length : Int)) := Lib.hid (by
          have h := HX.out
          rw [HN.out, ← hk', hrk] at h
          exact h)
        have HE : Hid (OwnI w.heap.size wr (.slice (some ⟨w.heap.size, 0, none⟩) n n) O) := Lib.hid (by
          rw [soFar_all (by omega)] at hO
          unfold OwnI
          rw [show O.length = n by omega]
          exact hO)
        obtain ⟨al, cl, rfl, _⟩ := hL.reads
        have HB := Lib.hid hnx
        clear hrk hO hL hnx bd1 bd2 bd3 hk'
        go_wp2_with fail
        try rw [Exit.noGoto_ret]
        go_ret3
        exact ⟨_, by rw [HR.out.2, HC.out]; rfl, by rw [HR.out.1]; exact HE.out, HB.out⟩
      | succ gh =>
        have hlt : k < n := by omega
        obtain ⟨g, rfl, hc⟩ := HA.out (by intro e; have := HN.out; rw [e] at this; simp at this; omega)
        have hxb := HBT.out k (by have := HN.out; omega)
        have cx := (hc.below hnx) k (by have := HN.out; omega)
        have HAT := fun a ha => Lib.hid (rollK_at (a := a) hrk rfl ha)
        obtain ⟨c, hcx⟩ : ∃ c, xs.getD k 0 = c := ⟨_, rfl⟩
        rw [hcx] at hxb cx HAT
        obtain ⟨xb1, xb2⟩ := hxb
        obtain ⟨m, hm⟩ : ∃ m, L.length = m := ⟨_, rfl⟩
        obtain ⟨al, cl, rfl, hal⟩ := hL.reads
        have fo := hO.frozenAt k
        have do_ := own_cell hO k hlt
        obtain ⟨od, hod⟩ : ∃ x, (soFar O n).getD k 0 = x := ⟨_, rfl⟩
        rw [hod] at do_
        have HST : Hid (∀ x : Int, (wr.setCell ⟨w.heap.size, k, none⟩ (.int .i64 x)).ownsRow w.heap.size 2 1 (.slice (some ⟨w.heap.size, 0, none⟩) n n) n ((soFar (O ++ [x]) n).map (Value.int .i64))) := Lib.hid (fun x => by
          have h := own_store hO k x
          rw [show k = O.length from bd1.symm, soFar_set x (by omega)] at h
          rw [show k = O.length from bd1.symm]
          exact h)
        have HLK : Hid (∀ x : Int, OwnI (w.heap.size + 1) (wr.setCell ⟨w.heap.size, k, none⟩ (.int .i64 x)) (.slice al L.length cl) L) := Lib.hid (fun x => hL.kept (grown_set wr w.heap.size k _) (by
          cases hv : (Value.slice al L.length cl).ownBlock with
          | none => exact .inl rfl
          | some q => exact .inr (fun e => by have h1 := (hL.block q hv).1; have h2 : q = w.heap.size := (by simpa using e); omega)))
        rw [hm] at hL HLK ⊢
        rw [hm] at bd2 bd3
        have BD3 := Lib.hid bd3
        have HLO := Lib.hid hL
        have HAL := Lib.hid hal
        have HB := Lib.hid hnx
        have HM := Lib.hid hm
        have HK := Lib.hid bd1
        have hm10 : m ≤ 10 := by omega
        clear hO hL hnx hm bd1 bd3 hrk hcx hc hal hod
        go_wp2_with fail
        obtain ⟨wo, hwo⟩ : ∃ wo : World, wo = wr := ⟨_, rfl⟩
        rw [← hwo] at cx fo do_ HST HLK HLO HAL HB hsz ⊢
        clear hwo
        go_loopg [32] m (fun g2 i wx => ∃ j : Nat, j + g2 = m ∧ i = .int .i64 j ∧ tight long c L j ∧ wx = wo)
        case atStart => exact ⟨0, by omega, rfl, tight.zero _ _ _, rfl⟩
        case round =>
          obtain ⟨j, hjg, rfl, htt, rfl⟩ := hrel
          cases gk with
          | zero =>
            have hje : m = j := by omega
            subst hje
            have HF : Hid (fitR long c L = m) := Lib.hid (by
              have h := fitR_none (long := long) (c := c) (L := L) (by rw [HM.out]; exact htt)
              rw [h, HM.out])
            have RK : Hid (rollK xs long (k + 1) = (O ++ [(m : Int)], L ++ [c])) := Lib.hid (by
              have h := (HAT m HF.out).out
              rw [show putR L c m = L ++ [c] by rw [← HM.out]; exact putR_new L c] at h
              exact h)
            have ownl : (wr.setCell ⟨w.heap.size, k, none⟩ (.int .i64 m)).ownsRow (w.heap.size + 1) 2 1 (.slice al m cl) m (L.map (Value.int .i64)) := by
              have h := HLK.out m
              unfold OwnI at h
              rw [HM.out] at h
              exact h
            clear htt
            go_wp2_with (at_builtin; refine wpList_append_own _ rfl _ _ 22 rfl (w.heap.size + 1) 2 i0 (.int .i64 0) 1 8 Try.underlying22 hi hz0 hz1 hz2 rfl (by decide) _ _ _ rfl (ownl.alloc _) ⟨wr.heap.size, 0, none⟩ 1 1 [.int .i64 c] rfl rfl ?c1 ?c2 ?c3 ?c4 ?c5 ?_)
            case c1 =>
              intro j u hj
              match j, hj with
              | 0, hj =>
                simp at hj; subst hj
                have h := cell_one_new (wr.setCell ⟨w.heap.size, k, none⟩ (.int .i64 m)) (.int .i64 c) 2 0 _ rfl
                rw [show (wr.setCell ⟨w.heap.size, k, none⟩ (.int .i64 m)).heap.size = wr.heap.size by simp [World.setCell]] at h
                exact h
            case c2 => intro u hu; simp at hu; subst hu; rfl
            case c3 => unfold maxLen; omega
            case c4 => omega
            case c5 => simp; omega
            intro v' w3 hown' hgrow _
            have o3 : OwnI (w.heap.size + 1) w3 v' (L ++ [c]) := by
              unfold OwnI
              rw [List.length_append, List.map_append, HM.out]
              exact hown'
            have hlb : ∀ r, (Value.slice al m cl).ownBlock = some r → w.heap.size + 1 ≤ r := fun r e => (HLO.out.block r e).1
            have r3 : w3.ownsRow w.heap.size 2 1 (.slice (some ⟨w.heap.size, 0, none⟩) n n) n ((soFar (O ++ [(m : Int)]) n).map (Value.int .i64)) := World.ownsRow.kept ((HST.out m).alloc _) hgrow (.inr (fun e => by have := hlb w.heap.size e.symm; omega))
            have b3 : Below w.heap.size w w3 := ((HB.out.setCell (p := ⟨w.heap.size, k, none⟩) (Nat.le_refl _) _).alloc (by simp [World.setCell]; omega) _).grown hgrow (by simp [World.setCell]; omega) (fun r e => by have := hlb r e; omega)
            have hs3 : w.heap.size < w3.heap.size := by have h1 := hgrow.size; simp [World.setCell] at h1; omega
            have O3 := Lib.hid o3
            have R3 := Lib.hid r3
            have B3 := Lib.hid b3
            clear hown' hgrow o3 r3 b3 hlb ownl
            go_wp2_with fail
            go_roundg gh
            case measure => omega
            case rel => exact ⟨k + 1, _, _, by omega, by go_num, RK.out, R3.out, O3.out, hs3, B3.out⟩
          | succ g2 =>
            have hjm : j < m := by omega
            have hal' : L ≠ [] := fun e => by have := HM.out; rw [e] at this; simp at this; omega
            obtain ⟨gl, rfl, hcl⟩ := HAL.out hal'
            have dl := hcl j (by rw [HM.out]; exact hjm)
            obtain ⟨lb1, lb2⟩ := BD3.out j hjm
            have HSU : Hid (long < L.getD j 0 + c → tight long c L (j + 1)) := Lib.hid htt.succ
            have HFI : Hid (L.getD j 0 + c ≤ long → fitR long c L = j) := Lib.hid (fitR_eq (by rw [HM.out]; exact hjm) htt)
            obtain ⟨lj, hlj⟩ : ∃ x, L.getD j 0 = x := ⟨_, rfl⟩
            rw [hlj] at dl lb1 lb2 HSU HFI
            have HLJ := Lib.hid hlj
            have hne : w.heap.size ≠ gl := by have := (HLO.out.block gl rfl).1; omega
            have hjm2 : (j : Int) < (m : Int) := by omega
            clear htt hlj hcl
            by_cases hf : lj + c ≤ long
            · have HF := Lib.hid (HFI.out hf)
              have t2 : decide (lj + c ≤ long) = true := by simp; omega
              have RK : Hid (rollK xs long (k + 1) = (O ++ [(j : Int)], L.set j (lj + c))) := Lib.hid (by
                have h := (HAT j HF.out).out
                rw [putR_old (by rw [HM.out]; exact hjm), HLJ.out] at h
                exact h)
              have l1 := HLK.out j
              have dl1 : (wr.setCell ⟨w.heap.size, k, none⟩ (.int .i64 j)).cell? ⟨gl, j, none⟩ = some (.int .i64 lj) := by
                have h := l1.cell j (by rw [HM.out]; exact hjm)
                rw [HLJ.out] at h
                exact h
              have fl1 : (wr.setCell ⟨w.heap.size, k, none⟩ (.int .i64 j)).frozen? ⟨gl, j, none⟩ = false := by
                have h := l1
                unfold OwnI at h
                rw [HM.out] at h
                exact World.ownsRow.frozenAt h j
              have l2 : OwnI (w.heap.size + 1) ((wr.setCell ⟨w.heap.size, k, none⟩ (.int .i64 j)).setCell ⟨gl, j, none⟩ (.int .i64 (lj + c))) (.slice (some ⟨gl, 0, none⟩) m cl) (L.set j (lj + c)) := by
                have h := l1
                unfold OwnI at h ⊢
                rw [List.length_set]
                rw [HM.out] at h ⊢
                exact own_store h j (lj + c)
              have r2 := World.ownsRow.kept (HST.out j) (grown_set (wr.setCell ⟨w.heap.size, k, none⟩ (.int .i64 j)) gl j (.int .i64 (lj + c))) (.inr (by simpa [Value.ownBlock] using hne))
              have L2 := Lib.hid l2
              have R2 := Lib.hid r2
              have B2 : Hid (Below w.heap.size w ((wr.setCell ⟨w.heap.size, k, none⟩ (.int .i64 j)).setCell ⟨gl, j, none⟩ (.int .i64 (lj + c)))) := Lib.hid ((HB.out.setCell (p := ⟨w.heap.size, k, none⟩) (Nat.le_refl _) _).setCell (p := ⟨gl, j, none⟩) (by show w.heap.size ≤ gl; have := (HLO.out.block gl rfl).1; omega) _)
              clear l1 l2 r2 hf
              go_wp2_with fail
              go_roundg gh
              case measure => omega
              case rel => exact ⟨k + 1, _, _, by omega, by go_num, RK.out, R2.out, L2.out, by simpa [World.setCell] using hsz, B2.out⟩
            · have t2 : decide (lj + c ≤ long) = false := by simp; omega
              have HS := Lib.hid (HSU.out (by omega))
              clear hf
              go_wp2_with fail
              go_roundg g2
              case measure => omega
              case rel => exact ⟨j + 1, by omega, by go_num, HS.out, rfl⟩
  · have HX := Lib.hid (roll_c hc0)
    obtain ⟨c, hcc⟩ : ∃ c, rollC xs long = c := ⟨_, rfl⟩
    have t1 : (c != 0) = true := by rw [← hcc]; simpa using hc0
    have HC := Lib.hid hcc
    have HN := Lib.hid hn
    obtain ⟨a, cap, rfl, ha⟩ := hv
    clear hc0 hcc ha hn
    go_enter Try.func9, Try.ntmps9
    go_wp2_with fail
    go_step3
    go_wp2_with fail
    refine (irolls_any _ xs long _ HRD.out HN.out).mono ?_
    rintro e w2 ⟨rfl, rfl⟩
    rw [HC.out]
    go_wp2_with fail
    go_ret3
    exact ⟨_, by rw [HX.out.2, HC.out]; rfl, by rw [HX.out.1]; exact World.ownsRow_nil _ _ _ _, Below.refl _ _⟩
end Go.Proofs.Ytlobfhhdddedbaa
