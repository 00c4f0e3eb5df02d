/-
  The program's DutyInAll and RoundingGap.
-/
import Derived.Test.YtlgimedadjpdiaaCuM
namespace Go.Proofs.Ytlgimedadjpdiaa
open Go Go.RowKit
set_option linter.unusedVariables false

set_option maxHeartbeats 400000 in
theorem ikinds_zero (a : Option Addr) (cap : Nat) (v : Value) (cs : List Quad) (L : Nat → Lit) (w : World) :
    Calls Try.prog 27 #[v, .slice a 0 cap] w fun e w' => ∃ D : DataW Unit, e = .returned (.map (some w.heap.size)) ∧ w'.ownsMap Try.prog 60 R3 w.heap.size 0 D ∧ KSums cs [] L 0 D ∧ Below w.heap.size w w' := by
  have HD : Hid ((w.alloc (.map #[] 0)).ownsMap Try.prog 60 R3 w.heap.size 0 (.map []) ∧ Below w.heap.size w (w.alloc (.map #[] 0))) := Lib.hid ⟨World.ownsMap_made w _ _ _, (Below.refl _ _).alloc (Nat.le_refl _) _⟩
  have hmm := @run_makeMap Try.prog
  go_enter Try.func27, Try.ntmps27
  go_wp2_with fail
  clear hmm
  refine wp_loop_rounds 1 ?_
  rw [rounds_succ]
  go_wp2_with fail
  go_ret
  exact ⟨.map [], rfl, HD.out.1, KSums.zero cs [] L, HD.out.2⟩
theorem ikinds_any (v u : Value) (cs ls : List Quad) (L : Nat → Lit) (h : vldF cs ls = true) (hfl : FitsL ls) (hL : ∀ j, j < cs.length → keyOf Try.prog 60 (keyV (cs.getD j (0, 0, 0, 0)) j) = some (L j)) (hinj : ∀ i j, i < cs.length → j < cs.length → L i = L j → i = j) (w : World) (hv : ReadsC w v cs) (hu : ReadsL w u ls) :
    Calls Try.prog 27 #[v, u] w fun e w' => ∃ D : DataW Unit, e = .returned (.map (some w.heap.size)) ∧ w'.ownsMap Try.prog 60 R3 w.heap.size ls.length D ∧ KSums cs ls L ls.length D ∧ Below w.heap.size w w' := by
  obtain ⟨a, cap, rfl, hc⟩ := hu
  by_cases h0 : ls = []
  · subst h0
    exact ikinds_zero a cap v cs L w
  · obtain ⟨b, rfl, hcl⟩ := hc h0
    exact ikinds_row b ls.length cap v cs ls L rfl h hfl hL hinj w hv hcl

theorem sumP_in {p : Nat → Bool} {f : Nat → Int} {B : Int} {n : Nat} (hB : 0 ≤ B) (h : ∀ j, j < n → 0 ≤ f j ∧ f j ≤ B) : 0 ≤ sumP p f n ∧ sumP p f n ≤ B * n := by
  induction n with
  | zero => simp [sumP]
  | succ n ih =>
    have h1 := ih (fun j hj => h j (by omega))
    have h2 := h n (by omega)
    rw [sumP, show B * ((n + 1 : Nat) : Int) = B * n + B from by rw [Int.natCast_add, Int.mul_add]; simp]
    split <;> omega
/-- What a class is charged for all its lines. -/
def chg (cs ls : List Quad) (how : Int) (j : Nat) : Int := chargeR (cs.getD j (0, 0, 0, 0)) (q2 ls j ls.length) (q3 ls j ls.length) how
/-- The classes that are done: present, and no longer left. -/
def dn (ls : List Quad) (L : Nat → Lit) (left : Lit → Bool) (j : Nat) : Bool := decide (0 < q0 ls j ls.length) && !left (L j)
theorem dn_start {cs ls : List Quad} {L : Nat → Lit} {D : DataW Unit} {how : Int} (h : KSums cs ls L ls.length D) : sumP (dn ls L (Maps.has D)) (chg cs ls how) cs.length = 0 :=
  sumP_none (fun j hj => by unfold dn; rw [h.has_ j hj]; simp)
theorem dn_end {cs ls : List Quad} {L : Nat → Lit} {left : Lit → Bool} {how : Int} (h : ∀ kl, left kl = false) : sumP (dn ls L left) (chg cs ls how) cs.length = allTo cs ls how cs.length :=
  sumP_all cs.length (fun j hj => by unfold dn; rw [h]; simp)
theorem dn_step {cs ls : List Quad} {L : Nat → Lit} {left : Lit → Bool} {how : Int} {i : Nat} (hi : i < cs.length) (hp : 0 < q0 ls i ls.length) (hl : left (L i) = true) (hk : WideAt.IsKeyLit (L i)) (hinj : ∀ i j, i < cs.length → j < cs.length → L i = L j → i = j) :
    sumP (dn ls L (fun z => left z && !z.sameKey (L i))) (chg cs ls how) cs.length = sumP (dn ls L left) (chg cs ls how) cs.length + chg cs ls how i := by
  refine sumP_more hi ?_ ?_ (fun j hj hne => ?_)
  · unfold dn; rw [hl]; simp
  · show (decide (0 < q0 ls i ls.length) && !(left (L i) && !(L i).sameKey (L i))) = true
    rw [hl, WideAt.sameKey_self hk]; simp [hp]
  · show (decide (0 < q0 ls j ls.length) && !(left (L j) && !(L j).sameKey (L i))) = (decide (0 < q0 ls j ls.length) && !left (L j))
    rw [Maps.sameKey_ne (fun e => hne (hinj _ _ hj hi e))]; simp

theorem ranges_below {w w' : World} {P : Program} {k : TypeId} {R : Value → Option (DataW Unit × List MemPlace)} {b r n m cnt : Nat} {D : DataW Unit} {left : Lit → Bool} (h : w.ranges P k R b r n D left cnt) (hb : Below m w w') (h1 : b < m) (h2 : r < m) : w'.ranges P k R b r n D left cnt := by
  obtain ⟨es, clock, since, seen, c0, g1, g2, g3, g4, g5, rest⟩ := h
  exact ⟨es, clock, since, seen, c0, by rw [hb.block b h1]; exact g1, g2, g3, g4, by rw [hb.block r h2]; exact g5, rest⟩

set_option maxHeartbeats 600000 in
set_option maxRecDepth 100000 in
theorem iall2_any (v u : Value) (cs ls : List Quad) (how : Int) (w : World) (hv : ReadsC w v cs) (hu : ReadsL w u ls) (hfc : FitsC cs) (hfl : FitsL ls) (hx : cs.length ≤ 1048576) (hy : ls.length ≤ 1048576) :
    Calls Try.prog 11 #[v, u, .int .i64 how] w fun e w' => e = .returned (.tuple #[.int .i64 (allRes cs ls how), .int .i64 (askF cs ls (isHow how))]) ∧ Below w.heap.size w w' := by
  obtain ⟨c, hc⟩ : ∃ c, askF cs ls (isHow how) = c := ⟨_, rfl⟩
  have HC := Lib.hid hc
  by_cases h0 : c = 0
  · subst h0
    obtain ⟨hvf, hh⟩ := askF_ok hc
    have HR : Hid (allRes cs ls how = allTo cs ls how cs.length) := Lib.hid (if_pos hc)
    obtain ⟨V, hV⟩ : ∃ V, wayV how = V := ⟨_, rfl⟩
    have HW : Hid (wayA 0 how = V) := Lib.hid (by rw [wayA_0, hV])
    obtain ⟨L, hL, hinj⟩ := key_names cs (vldF_spec hvf).1
    have hc8 : cs.length ≤ 8 := (vldC_spec (vldF_spec hvf).1).1.2
    have HL := Lib.hid hL
    have HIN := Lib.hid hinj
    have HVF := Lib.hid hvf
    have HKIND : Hid (∀ W, Below w.heap.size w W → Calls Try.prog 27 #[v, u] W fun e w' => ∃ D : DataW Unit, e = .returned (.map (some W.heap.size)) ∧ w'.ownsMap Try.prog 60 R3 W.heap.size ls.length D ∧ KSums cs ls L ls.length D ∧ Below W.heap.size W w') := Lib.hid (fun W hb => ikinds_any v u cs ls L hvf hfl hL hinj W (hv.below hb) (hu.below hb))
    have HDU : Hid (∀ (n0 n1 n2 n3 ix n a g : Int) (W : World), okC (n0, n1, n2, n3) → (0 ≤ a ∧ a ≤ 10000000) → (0 ≤ g ∧ g ≤ 10000000) → Calls Try.prog 28 #[.agg #[.int .i16 n0, .int .i16 n1, .int .i16 n2, .int .i32 n3, .int .i8 ix, .int .i64 n, .int .i64 a, .int .i64 g], V] W fun e w' => e = .returned (.int .i64 (chargeR (n0, n1, n2, n3) a g how)) ∧ Below W.heap.size W w') := Lib.hid (fun n0 n1 n2 n3 ix n a g W ho ha hg => by rw [← hV]; exact iduty_any n0 n1 n2 n3 ix n a g how ho ha hg hh W)
    have HCHK : Hid (Calls Try.prog 26 #[v, u, .int .i64 how] w fun e w' => e = .returned (.tuple #[V, .int .i64 0]) ∧ Below w.heap.size w w') := Lib.hid (by
      have h := icheck_any v u cs ls how w hv hu hfc hfl hx hy
      rw [HC.out, HW.out] at h
      exact h)
    rw [hc, HR.out]
    clear hc hV hL hinj hvf hh hv hu hfc hfl
    go_enter Try.func11, Try.ntmps11
    go_wp2_with fail
    refine (HCHK.out).mono ?_
    rintro e w2 ⟨rfl, b2⟩
    go_wp2_with fail
    refine (HKIND.out _ b2).mono ?_
    rintro e w3 ⟨D, rfl, hown, hks, b3⟩
    have HB3 := Lib.hid (blink b2 b3)
    have HKS := Lib.hid hks
    have hm2 : w.heap.size ≤ w2.heap.size := b2.size
    have hm3 : w2.heap.size < w3.heap.size := hown.lt
    clear b2 b3 hks
    go_wp2_with (at_range; refine wpList_range_own _ rfl _ 57 rfl 60 62 keyedK Try.underlying57 R3 w2.heap.size ls.length D rfl hown ?_; intro w4 hrg4 hg4 hs4)
    go_frame
    go_loopw [10] (fun s wr => ∃ (left : Lit → Bool) (cnt : Nat), wr.ranges Try.prog 60 R3 w2.heap.size w3.heap.size ls.length D left cnt ∧ s = .int .i64 (sumP (dn ls L left) (chg cs ls how) cs.length) ∧ (∀ kl, left kl = true → Maps.has D kl = true) ∧ Below w.heap.size w wr) (fun _ wr => wr.rangeLeft w2.heap.size w3.heap.size)
    case atStart => exact ⟨_, _, hrg4, by rw [dn_start HKS.out], fun kl h => h, HB3.out.grown hg4 HB3.out.size (fun i hi => by cases hi)⟩
    case round =>
      obtain ⟨left, cnt, hrg, rfl, hsub, hnx⟩ := hrel
      have HB := Lib.hid hnx
      have hwr : w.heap.size ≤ wr.heap.size := hnx.size
      have hr3 : w3.heap.size < wr.heap.size := hrg.lt
      have hcnt := hrg.left_eq
      obtain ⟨d0, d1⟩ := sumP_in (p := dn ls L left) (f := chg cs ls how) (B := 20000000000) (n := cs.length) (by omega) (fun j hj => charge_all HVF.out how hj)
      have HSUB := Lib.hid hsub
      have HRG := Lib.hid hrg
      have HCNT := Lib.hid hcnt
      obtain ⟨dt, hdt⟩ : ∃ x, sumP (dn ls L left) (chg cs ls how) cs.length = x := ⟨_, rfl⟩
      rw [hdt] at d0 d1 ⊢
      have HDT := Lib.hid hdt
      clear hnx hsub hdt hcnt
      go_wp2_with (at_next; refine wpList_next_ranges _ rfl _ rfl 60 keyedK R3 (fun v : Value => v) (fun v : Value => v) (fun key kl _ => ⟨key, rfl⟩) (fun v y _ => ⟨v, rfl⟩) w2.heap.size w3.heap.size ls.length _ _ _ rfl HRG.out ?_ ?_)
      · intro hc0 hl0
        have HE : Hid (dt = allTo cs ls how cs.length) := Lib.hid (by rw [← HDT.out]; exact dn_end hl0)
        go_wp2_with fail
        go_ret2
        exact ⟨ret_two ⟨HE.out.symm, rfl⟩, HB.out⟩
      · intro x c kl y ps w5 cnt' hkey hleft hval hat hrg5 hlt5 hsz hgr hent
        obtain ⟨j, hj, rfl⟩ := HKS.out.only kl (HSUB.out kl hleft)
        have hkj := HL.out j hj
        have hxe : x = keyV (cs.getD j (0, 0, 0, 0)) j := keyedK.inj hkey hkj
        obtain ⟨a1, a2, a3, rfl, hy⟩ := R3_inv hval
        have hpos : 0 < q0 ls j ls.length := by
          have h := HKS.out.has_ j hj
          rw [HSUB.out _ hleft] at h
          exact of_decide_eq_true h.symm
        have hae := hat (enc3 0 0 0)
        rw [HKS.out.at_ j hj] at hae
        simp only [Prod.mk.injEq] at hy
        rw [hy.1] at hae
        obtain ⟨e1, e2, e3⟩ := enc3_inj hae
        obtain ⟨_, _, hq2, hq3⟩ := qs_all HVF.out (j : Int)
        have hoc := (vldC_spec (vldF_spec HVF.out).1).2 j hj
        have hch := charge_all HVF.out how hj
        have HSTEP : Hid (sumP (dn ls L (fun z => left z && !z.sameKey (L j))) (chg cs ls how) cs.length = dt + chargeR (cs.getD j (0, 0, 0, 0)) a2 a3 how) := Lib.hid (by
          rw [dn_step hj hpos hleft (keyedK.key hkj) HIN.out, HDT.out, ← e2, ← e3]; rfl)
        rw [e2] at hq2 hch
        rw [e3] at hq3 hch
        obtain ⟨cq, hcq⟩ : ∃ c, cs.getD j (0, 0, 0, 0) = c := ⟨_, rfl⟩
        rw [hcq] at hxe hoc hch HSTEP
        obtain ⟨n0, n1, n2, n3⟩ := cq
        have hxe2 : x = .agg #[.int .i16 n0, .int .i16 n1, .int .i16 n2, .int .i32 n3, .int .i8 (j : Int)] := hxe
        clear hxe
        rw [hxe2] at hent ⊢
        clear hxe2
        have HDJ : Hid (∀ W, Calls Try.prog 28 #[.agg #[.int .i16 n0, .int .i16 n1, .int .i16 n2, .int .i32 n3, .int .i8 (j : Int), .int .i64 a1, .int .i64 a2, .int .i64 a3], V] W fun e w' => e = .returned (.int .i64 (chargeR (n0, n1, n2, n3) a2 a3 how)) ∧ Below W.heap.size W w') := Lib.hid (fun W => HDU.out n0 n1 n2 n3 (j : Int) a1 a2 a3 W hoc hq2 hq3)
        obtain ⟨ch, hchq⟩ : ∃ x, chargeR (n0, n1, n2, n3) a2 a3 how = x := ⟨_, rfl⟩
        rw [hchq] at hch HSTEP HDJ
        obtain ⟨h0, h1⟩ := hch
        have HB5 : Hid (Below w.heap.size w w5) := Lib.hid (HB.out.grown hsz hwr (fun i hi => by cases hi; omega))
        have hw5 : w.heap.size ≤ w5.heap.size := HB5.out.size
        have HRG5 := Lib.hid hrg5
        have HLEFT : Hid (∀ kl, (fun z => left z && !z.sameKey (L j)) kl = true → Maps.has D kl = true) := Lib.hid (fun kl h => HSUB.out kl (by simp at h; exact h.1))
        have hltm : cnt' < cnt := hlt5
        clear hkey hleft hval hat hrg5 hlt5 hgr hsz hkj hy hpos hae e1 e2 e3 hcq hchq hoc
        unfold sumV at hent ⊢
        have hr5 : w3.heap.size < w5.heap.size := HRG5.out.lt
        go_wp2_with fail
        refine (HDJ.out _).mono ?_
        rintro e w6 ⟨rfl, b6⟩
        have HB6 : Hid (Below w.heap.size w w6) := Lib.hid (((HB5.out.alloc hw5 _).alloc (by simp; omega) _).trans (b6.mono (by simp; omega)))
        have HRG6 := Lib.hid (ranges_below ((HRG5.out.alloc _).alloc _) b6 (by simp; omega) (by simp; omega))
        clear b6 hent
        go_wp2_with fail
        go_roundw
        case rel => exact ⟨_, cnt', HRG6.out, by rw [HSTEP.out], HLEFT.out, HB6.out⟩
        case measure => rw [HRG6.out.left_eq, HCNT.out]; exact hltm
  · have hn : (c != 0) = true := by simpa using h0
    have HR : Hid (allRes cs ls how = 0) := Lib.hid (if_neg (by rw [hc]; exact h0))
    obtain ⟨V, hV⟩ : ∃ V, wayA c how = V := ⟨_, rfl⟩
    have HW := Lib.hid hV
    rw [hc]
    clear hc h0 hV
    go_enter Try.func11, Try.ntmps11
    go_wp2_with fail
    refine (icheck_any _ _ cs ls how _ hv hu hfc hfl hx hy).mono ?_
    rintro e w2 ⟨rfl, b2⟩
    rw [HC.out, HW.out]
    go_wp2_with fail
    go_ret2
    exact ⟨ret_two ⟨HR.out, rfl⟩, b2⟩
end Go.Proofs.Ytlgimedadjpdiaa
