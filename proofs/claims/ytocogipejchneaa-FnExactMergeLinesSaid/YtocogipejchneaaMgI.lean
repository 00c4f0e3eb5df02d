/-
  The program's MergeLines.
-/
import Derived.Test.YtocogipejchneaaCuQ
import Derived.Test.YtocogipejchneaaMgJ
import Derived.Test.YtocogipejchneaaMgS
import Derived.Test.YtocogipejchneaaKeepO
namespace Go.Proofs.Ytocogipejchneaa
open Go Go.RowKit
set_option linter.unusedVariables false

theorem OwnL.out {T : TypeId} {B lo hi : Nat} {w w' : World} {v : Value} {ps : List (Int × Int × Int × Int)} (h : OwnL T B w v ps) (K : KeepsOut lo hi w w') (hd : ∀ k, v.ownBlock = some k → k < lo ∨ hi ≤ k) : OwnL T B w' v ps := row_out h K hd
theorem nodup_lenJ : ∀ (n : Nat) (l : List Int), l.Nodup → (∀ x ∈ l, 0 ≤ x ∧ x < (n : Int)) → l.length ≤ n
  | 0, l, _, h => by
    cases l with
    | nil => simp
    | cons x l => have := h x (by simp); omega
  | n + 1, l, hn, h => by
    have h1 := nodup_lenJ n (l.erase (n : Int)) (hn.erase _) (fun x hx => by
      have hm := (List.Nodup.mem_erase_iff hn).1 hx
      have := h x hm.2
      have := hm.1
      omega)
    rw [List.length_erase] at h1
    split at h1 <;> omega
/-- What has been merged so far. -/
structure Mg (ls : List Quad) (L : Nat → Lit) (left : Lit → Bool) (nc : Nat) (M : List Quad) : Prop where
  one : (M.map (·.1)).Nodup
  mem : ∀ x, x ∈ M ↔ ∃ j : Nat, j < nc ∧ dn ls L left j = true ∧ x = mgOne ls j
theorem Mg.start {cs ls : List Quad} {L : Nat → Lit} {D : DataW Unit} {nc : Nat} (hnc : cs.length = nc) (h : KSums cs ls L ls.length D) : Mg ls L (Maps.has D) nc [] :=
  ⟨by simp, fun x => ⟨fun h => (by cases h), fun ⟨j, hj, hd, _⟩ => by
    exfalso
    unfold dn at hd
    rw [h.has_ j (by omega)] at hd
    simp at hd⟩⟩
theorem Mg.more {ls : List Quad} {L : Nat → Lit} {left : Lit → Bool} {nc i : Nat} {M : List Quad} (h : Mg ls L left nc M) (hi : i < nc) (hp : 0 < q0 ls i ls.length) (hl : left (L i) = true) (hk : WideAt.IsKeyLit (L i)) (hinj : ∀ i j, i < nc → j < nc → L i = L j → i = j) :
    Mg ls L (fun z => left z && !z.sameKey (L i)) nc (M ++ [mgOne ls i]) := by
  have d1 : dn ls L (fun z => left z && !z.sameKey (L i)) i = true := by
    show (decide (0 < q0 ls i ls.length) && !(left (L i) && !(L i).sameKey (L i))) = true
    rw [hl, WideAt.sameKey_self hk]; simp [hp]
  have d2 : ∀ j, j < nc → j ≠ i → dn ls L (fun z => left z && !z.sameKey (L i)) j = dn ls L left j := fun j hj hne => by
    show (decide (0 < q0 ls j ls.length) && !(left (L j) && !(L j).sameKey (L i))) = (decide (0 < q0 ls j ls.length) && !left (L j))
    rw [Maps.sameKey_ne (fun e => hne (hinj _ _ hj hi e))]; simp
  have d3 : dn ls L left i = false := by unfold dn; rw [hl]; simp
  refine ⟨?_, fun x => ?_⟩
  · rw [List.map_append, List.map_cons, List.map_nil]
    refine List.nodup_append.2 ⟨h.one, by simp, fun a ha b hb e => ?_⟩
    obtain ⟨y, hy, rfl⟩ := List.mem_map.1 ha
    obtain ⟨j, hj, hd, rfl⟩ := (h.mem y).1 hy
    have hb2 : b = (i : Int) := by simpa [mgOne] using hb
    subst hb2
    have : j = i := by simp only [mgOne] at e; omega
    subst this
    rw [d3] at hd; cases hd
  · rw [List.mem_append, h.mem]
    constructor
    · rintro (⟨j, hj, hd, rfl⟩ | hx)
      · refine ⟨j, hj, ?_, rfl⟩
        rw [d2 j hj (fun e => by subst e; rw [d3] at hd; cases hd)]; exact hd
      · exact ⟨i, hi, d1, by simpa using hx⟩
    · rintro ⟨j, hj, hd, rfl⟩
      by_cases e : j = i
      · subst e; exact .inr (by simp)
      · exact .inl ⟨j, hj, by rw [← d2 j hj e]; exact hd, rfl⟩
theorem Mg.len {ls : List Quad} {L : Nat → Lit} {left : Lit → Bool} {nc : Nat} {M : List Quad} (h : Mg ls L left nc M) : M.length ≤ nc := by
  have := nodup_lenJ nc (M.map (·.1)) h.one (fun x hx => by
    obtain ⟨y, hy, rfl⟩ := List.mem_map.1 hx
    obtain ⟨j, hj, hd, rfl⟩ := (h.mem y).1 hy
    simp only [mgOne]
    omega)
  simpa using this
theorem Mg.fits {cs ls : List Quad} {L : Nat → Lit} {left : Lit → Bool} {nc : Nat} {M : List Quad} (h : Mg ls L left nc M) (hv : vldF cs ls = true) (h8 : nc ≤ 8) : FitsL M := by
  intro x hx
  obtain ⟨j, hj, hd, rfl⟩ := (h.mem x).1 hx
  obtain ⟨_, a1, a2, a3⟩ := qs_all hv (j : Int)
  unfold FitL mgOne
  simp only
  omega
theorem Mg.done {ls : List Quad} {L : Nat → Lit} {left : Lit → Bool} {nc : Nat} {M : List Quad} (h : Mg ls L left nc M) (hl : ∀ kl, left kl = false) (hq : ∀ j : Nat, 0 ≤ q0 ls j ls.length) : M.Perm (mgT ls nc) := by
  have n1 : M.Nodup := List.Pairwise.imp (fun hne e => hne (by rw [e])) (List.pairwise_map.1 h.one)
  have n2 : (mgT ls nc).Nodup := (mgT_asc ls nc).imp (fun hlt e => by subst e; omega)
  refine (List.perm_ext_iff_of_nodup n1 n2).2 (fun x => ?_)
  rw [h.mem, mgT_mem]
  constructor
  · rintro ⟨j, hj, hd, rfl⟩
    refine ⟨j, hj, ?_, rfl⟩
    unfold dn at hd
    rw [hl] at hd
    have : 0 < q0 ls j ls.length := by simpa using hd
    omega
  · rintro ⟨j, hj, hd, rfl⟩
    refine ⟨j, hj, ?_, rfl⟩
    unfold dn
    rw [hl]
    have := hq j
    simp
    omega
/-- The sorted list is the one of the model. -/
theorem mg_sorted {ls : List Quad} {nc : Nat} {M M' : List Quad} (hp : M.Perm (mgT ls nc)) (hp2 : M'.Perm M) (hs : M'.Pairwise (fun a b => a.1 ≤ b.1)) : M' = mgT ls nc := by
  have hper := hp2.trans hp
  have hn : ((mgT ls nc).map (·.1)).Nodup := List.pairwise_map.2 ((mgT_asc ls nc).imp (fun h e => by omega))
  have hn2 : (M'.map (·.1)).Nodup := ((hper.map (·.1)).symm).nodup hn
  refine quad_one ?_ (mgT_asc ls nc) (fun x => hper.mem_iff)
  have h2 := List.pairwise_map.1 hn2
  exact (hs.and h2).imp (fun ⟨h1, h3⟩ => by omega)

set_option maxHeartbeats 1000000 in
theorem ilineM_any (n0 n1 n2 n3 ix n a g : Int) (hn : 0 ≤ n ∧ n ≤ 10000) (ha : 0 ≤ a ∧ a ≤ 10000000) (hg : 0 ≤ g ∧ g ≤ 10000000) (W : World) :
    Calls Try.prog 22 #[.agg #[.int .i16 n0, .int .i16 n1, .int .i16 n2, .int .i32 n3, .int .i8 ix, .int .i64 n, .int .i64 a, .int .i64 g]] W fun e w' => e = .returned (.agg #[.int .i8 ix, .int .i16 n, .int .i32 a, .int .i32 g]) ∧ Below W.heap.size W w' := by
  have v1 := w16G hn.1 hn.2
  have v2 := w32G ha.1 ha.2
  have v3 := w32G hg.1 hg.2
  go_enter Try.func22, Try.ntmps22
  go_wp2_with fail
  exact bodyPost_ret (v := .agg #[.int .i8 ix, .int .i16 n, .int .i32 a, .int .i32 g]) (by simp [results, Try.results22, go_sem]) rfl ⟨rfl, by repeat (first | exact Below.refl _ _ | refine Below.drew ?_ | refine Below.setCell ?_ (by first | (simp; done) | (simp; omega) | omega) _ | refine Below.alloc ?_ (by first | (simp; done) | (simp; omega) | omega) _)⟩

set_option maxHeartbeats 1600000 in
set_option maxRecDepth 100000 in
theorem img_any (v u : Value) (cs ls : List Quad) (w : World) (hv : ReadsC w v cs) (hu : ReadsL w u ls) (hfc : FitsC cs) (hfl : FitsL ls) (hx : cs.length ≤ 1048576) (hy : ls.length ≤ 1048576) :
    Calls Try.prog 9 #[v, u] w (RetMg w.heap.size w (mgR cs ls) (mgC cs ls)) := by
  have HVL := Lib.hid (ivldF_any v u cs ls w hv hu hfc hfl hx hy)
  cases hvf : vldF cs ls with
  | false =>
    obtain ⟨e1, e2⟩ := mg_inv hvf
    rw [e1, e2]
    rw [hvf] at HVL
    clear hv hu hfc hfl hvf e1 e2
    go_enter Try.func9, Try.ntmps9
    go_wp2_with fail
    refine HVL.out.mono ?_
    rintro e w2 ⟨rfl, b2⟩
    have HB2 := Lib.hid b2
    clear b2 HVL
    go_wp2_with fail
    go_ret2
    exact ⟨_, rfl, World.ownsRow_nil _ _ _ _, HB2.out⟩
  | true =>
  rw [hvf] at HVL
  obtain ⟨o0, ho0, oz0, oz1, oz2⟩ := info_parts infoR_L
  have HVF := Lib.hid hvf
  obtain ⟨L, hL, hinj⟩ := key_names cs (vldF_spec hvf).1
  have hc8 : cs.length ≤ 8 := (vldC_spec (vldF_spec hvf).1).1.2
  have HL := Lib.hid hL
  have HIN := Lib.hid hinj
  have HKIND : Hid (∀ W, Below w.heap.size w W → Calls Try.prog 21 #[v, u] W fun e w' => ∃ D : DataW Unit, e = .returned (.map (some W.heap.size)) ∧ w'.ownsMap Try.prog 54 R3 W.heap.size ls.length D ∧ KSums cs ls L ls.length D ∧ Below W.heap.size W w') := Lib.hid (fun W hb => ikinds_any v u cs ls L hvf hfl hL hinj W (hv.below hb) (hu.below hb))
  have HV2 : Hid (∀ (M : List Quad) (s : Value) (W : World), Below w.heap.size w W → ReadsL W s M → FitsL M → M.Perm (mgT ls cs.length) → Calls Try.prog 20 #[v, s] W fun e w' => e = .returned (.bool (vldF cs (mgT ls cs.length))) ∧ Below W.heap.size W w') := Lib.hid (fun M s W hb hr hf hp => by
    have h := ivldF_any v s cs M W (hv.below hb) hr hfc hf hx (by have := hp.length_eq; have := mgT_len ls cs.length; omega)
    have e : vldF cs M = vldF cs (mgT ls cs.length) := by
      cases h1 : vldF cs M with
      | true => exact (vldF_perm hp h1).symm
      | false =>
        cases h2 : vldF cs (mgT ls cs.length) with
        | false => rfl
        | true => rw [vldF_perm hp.symm h2] at h1; cases h1
    rw [e] at h
    exact h)
  have HQ0 : Hid (∀ j : Nat, 0 ≤ q0 ls j ls.length) := Lib.hid (fun j => (qs_all hvf (j : Int)).1.1)
  have HRES : Hid ((vldF cs (mgT ls cs.length) = false → mgR cs ls = [] ∧ mgC cs ls = 3) ∧ (vldF cs (mgT ls cs.length) = true → mgR cs ls = mgT ls cs.length ∧ mgC cs ls = 0)) := Lib.hid ⟨fun h => mg_lim hvf h, fun h => mg_yes hvf h⟩
  obtain ⟨MR, hMR⟩ : ∃ x, mgR cs ls = x := ⟨_, rfl⟩
  obtain ⟨MC, hMC⟩ : ∃ x, mgC cs ls = x := ⟨_, rfl⟩
  rw [hMR, hMC] at HRES ⊢
  clear hL hinj hv hu hfc hfl hx hy hMR hMC hvf
  go_enter Try.func9, Try.ntmps9
  go_wp2_with fail
  refine (HVL.out).mono ?_
  rintro e w2 ⟨rfl, b2⟩
  go_wp2_with fail
  refine (HKIND.out _ b2).mono ?_
  rintro e w3 ⟨D, rfl, hown, hks, b3⟩
  have HB3 := Lib.hid (blink b2 b3)
  have HKS := Lib.hid hks
  have hm2 : w.heap.size ≤ w2.heap.size := b2.size
  have hm3 : w2.heap.size < w3.heap.size := hown.lt
  clear b2 b3 hks
  go_wp2_with (at_range; refine wpList_range_own _ rfl _ 51 rfl 54 56 keyedK Try.underlying51 R3 w2.heap.size ls.length D rfl hown ?_; intro w4 hrg4 hg4 hs4)
  go_frame
  go_loopw [6] (fun s wr => ∃ (left : Lit → Bool) (cnt : Nat) (M : List Quad), wr.ranges Try.prog 54 R3 w2.heap.size w3.heap.size ls.length D left cnt ∧ OwnL 44 (w3.heap.size + 1) wr s M ∧ Mg ls L left cs.length M ∧ (∀ kl, left kl = true → Maps.has D kl = true) ∧ Below w.heap.size w wr) (fun _ wr => wr.rangeLeft w2.heap.size w3.heap.size)
  case atStart => exact ⟨_, _, [], hrg4, World.ownsRow_nil _ _ _ _, Mg.start rfl HKS.out, fun kl h => h, HB3.out.grown hg4 HB3.out.size (fun i hi => by cases hi)⟩
  case round =>
    obtain ⟨left, cnt, M, hrg, hom, hmg, hsub, hnx⟩ := hrel
    have HB := Lib.hid hnx
    have hwr : w.heap.size ≤ wr.heap.size := hnx.size
    have hr3 : w3.heap.size < wr.heap.size := hrg.lt
    have hcnt := hrg.left_eq
    have hml := hmg.len
    obtain ⟨sa, sc, rfl⟩ := own_isG hom
    have HSUB := Lib.hid hsub
    have HRG := Lib.hid hrg
    have HCNT := Lib.hid hcnt
    have HMG := Lib.hid hmg
    obtain ⟨m, hm⟩ : ∃ m, M.length = m := ⟨_, rfl⟩
    rw [hm] at hml ⊢
    have HM := Lib.hid hm
    have HOM : Hid (OwnL 44 (w3.heap.size + 1) wr (.slice sa m sc) M) := Lib.hid (by rw [← hm]; exact hom)
    clear hnx hsub hcnt hom hmg hm hrg
    go_wp2_with (at_next; refine wpList_next_ranges _ rfl _ rfl 54 keyedK R3 (fun v : Value => v) (fun v : Value => v) (fun key kl _ => ⟨key, rfl⟩) (fun v y _ => ⟨v, rfl⟩) w2.heap.size w3.heap.size ls.length _ _ _ rfl HRG.out ?_ ?_)
    · intro hc0 hl0
      have hp := HMG.out.done hl0 HQ0.out
      have HP := Lib.hid hp
      have hv2 := HV2.out M (.slice sa m sc) wr HB.out HOM.out.reads (HMG.out.fits HVF.out hc8) hp
      have HVV := Lib.hid hv2
      clear hp hv2
      cases ht : vldF cs (mgT ls cs.length) with
      | false =>
        obtain ⟨e1, e2⟩ := HRES.out.1 ht
        rw [ht] at HVV
        have HE1 := Lib.hid e1
        have HE2 := Lib.hid e2
        clear ht e1 e2 hc0 hl0
        go_wp2_with fail
        refine (HVV.out).mono ?_
        rintro e w6 ⟨rfl, b6⟩
        have HB6 := Lib.hid (blink HB.out b6)
        clear b6
        go_wp2_with fail
        go_ret2
        exact ⟨.slice none 0 0, by rw [HE2.out]; rfl, by rw [HE1.out]; exact World.ownsRow_nil _ _ _ _, HB6.out⟩
      | true =>
        obtain ⟨e1, e2⟩ := HRES.out.2 ht
        rw [ht] at HVV
        have HE1 := Lib.hid e1
        have HE2 := Lib.hid e2
        have HIS := Lib.hid (fun W b h => isortJ_any (w3.heap.size + 1) (.slice sa m sc) M W (by have := HM.out; omega) (HOM.out.below b) h)
        clear ht e1 e2 hc0 hl0
        go_wp2_with fail
        refine (HVV.out).mono ?_
        rintro e w6 ⟨rfl, b6⟩
        have HB6 := Lib.hid (blink HB.out b6)
        have HIS6 := Lib.hid (HIS.out w6 b6 (by have := b6.size; omega))
        clear b6 HIS
        go_wp2_with fail
        refine (HIS6.out).mono ?_
        rintro e w7 ⟨rfl, M', hom7, hp7, hs7, b7⟩
        have HE7 : Hid (M' = mgT ls cs.length) := Lib.hid (mg_sorted HP.out hp7 hs7)
        have HO7 : Hid (OwnL 44 w.heap.size w7 (.slice sa m sc) (mgT ls cs.length)) := Lib.hid (by rw [← HE7.out]; exact hom7.mono (by omega))
        have HB7 : Hid (Below w.heap.size w w7) := Lib.hid (HB6.out.trans (b7.mono (by omega)))
        clear hom7 hp7 hs7 b7
        go_wp2_with fail
        go_ret2
        exact ⟨.slice sa m sc, by rw [HE2.out]; rfl, by rw [HE1.out]; exact HO7.out, HB7.out⟩
    · intro x c kl y ps w5 cnt' hkey hleft hval hat hrg5 hlt5 hsz hgr hent
      obtain ⟨j, hj, rfl⟩ := HKS.out.only kl (HSUB.out kl hleft)
      have hkj := HL.out j hj
      have hxe : x = keyV (cs.getD j (0, 0, 0, 0)) j := keyedK.inj hkey hkj
      obtain ⟨a1, a2, a3, rfl, hy⟩ := R3_inv hval
      have hpos : 0 < q0 ls j ls.length := by
        have h := HKS.out.has_ j hj
        rw [HSUB.out _ hleft] at h
        exact of_decide_eq_true h.symm
      have hae := hat (enc3 0 0 0)
      rw [HKS.out.at_ j hj] at hae
      simp only [Prod.mk.injEq] at hy
      rw [hy.1] at hae
      obtain ⟨e1, e2, e3⟩ := enc3_inj hae
      obtain ⟨_, hq1, hq2, hq3⟩ := qs_all HVF.out (j : Int)
      have HSTEP : Hid (Mg ls L (fun z => left z && !z.sameKey (L j)) cs.length (M ++ [((j : Int), a1, a2, a3)])) := Lib.hid (by
        have h := HMG.out.more hj hpos hleft (keyedK.key hkj) HIN.out
        unfold mgOne at h
        rw [e1, e2, e3] at h
        exact h)
      rw [e1] at hq1
      rw [e2] at hq2
      rw [e3] at hq3
      obtain ⟨cq, hcq⟩ : ∃ c, cs.getD j (0, 0, 0, 0) = c := ⟨_, rfl⟩
      rw [hcq] at hxe
      obtain ⟨n0, n1, n2, n3⟩ := cq
      have hxe2 : x = .agg #[.int .i16 n0, .int .i16 n1, .int .i16 n2, .int .i32 n3, .int .i8 (j : Int)] := hxe
      clear hxe
      rw [hxe2] at hent ⊢
      clear hxe2
      have HDJ := Lib.hid (fun W => ilineM_any n0 n1 n2 n3 (j : Int) a1 a2 a3 hq1 hq2 hq3 W)
      have HB5 : Hid (Below w.heap.size w w5) := Lib.hid (HB.out.grown hsz hwr (fun i hi => by cases hi; omega))
      have HO5 : Hid (OwnL 44 (w3.heap.size + 1) w5 (.slice sa m sc) M) := Lib.hid (HOM.out.kept hsz (by
        rcases hb : (Value.slice sa m sc).ownBlock with _ | k
        · exact .inl rfl
        · refine .inr (fun e => ?_)
          have h := (HOM.out.block k hb).1
          injection e with e
          omega))
      have hw5 : w.heap.size ≤ w5.heap.size := HB5.out.size
      have HRG5 := Lib.hid hrg5
      have HLEFT : Hid (∀ kl, (fun z => left z && !z.sameKey (L j)) kl = true → Maps.has D kl = true) := Lib.hid (fun kl h => HSUB.out kl (by simp at h; exact h.1))
      have hltm : cnt' < cnt := hlt5
      have hr5 : w3.heap.size < w5.heap.size := HRG5.out.lt
      clear hkey hleft hval hat hrg5 hlt5 hgr hsz hkj hy hpos hae e1 e2 e3 hcq
      unfold sumV at hent ⊢
      go_wp2_with fail
      refine (HDJ.out _).mono ?_
      rintro e w6 ⟨rfl, b6⟩
      have HB6 : Hid (Below w.heap.size w w6) := Lib.hid (((HB5.out.alloc hw5 _).alloc (by simp; omega) _).trans (b6.mono (by simp; omega)))
      have HRG6 := Lib.hid (ranges_below ((HRG5.out.alloc _).alloc _) b6 (by simp; omega) (by simp; omega))
      have HO6 : Hid (OwnL 44 (w3.heap.size + 1) w6 (.slice sa m sc) M) := Lib.hid (HO5.out.below (((Below.refl w5.heap.size w5).alloc (Nat.le_refl _) _ |>.alloc (by simp) _).trans (b6.mono (by simp; omega))))
      have hr6 : w3.heap.size < w6.heap.size := HRG6.out.lt
      have hw6 : w.heap.size ≤ w6.heap.size := HB6.out.size
      clear b6 hent
      have HOA : Hid ((w6.alloc (.cells #[.int .i8 (j : Int), .int .i16 a1, .int .i32 a2, .int .i32 a3] 44)).ownsRow (w3.heap.size + 1) 44 4 (.slice sa m sc) m (flatL M)) := Lib.hid (by have h := World.ownsRow.alloc (show w6.ownsRow (w3.heap.size + 1) 44 4 (.slice sa m sc) M.length (flatL M) from HO6.out) (.cells #[.int .i8 (j : Int), .int .i16 a1, .int .i32 a2, .int .i32 a3] 44); rw [HM.out] at h; exact h)
      have HBA : Hid (Below w.heap.size w (w6.alloc (.cells #[.int .i8 (j : Int), .int .i16 a1, .int .i32 a2, .int .i32 a3] 44))) := Lib.hid (HB6.out.alloc hw6 _)
      have HRGA := Lib.hid (HRG6.out.alloc (.cells #[.int .i8 (j : Int), .int .i16 a1, .int .i32 a2, .int .i32 a3] 44))
      have HNEW : Hid (∀ i q, ([Value.int .i8 (j : Int), .int .i16 a1, .int .i32 a2, .int .i32 a3] : List Value)[i]? = some q → (w6.alloc (.cells #[.int .i8 (j : Int), .int .i16 a1, .int .i32 a2, .int .i32 a3] 44)).cell? (Addr.add ⟨w6.heap.size, 0, none⟩ i) = some q) := Lib.hid (fun i q h => newG i q h)
      go_wp2_with (at_builtin; refine wpList_append_own _ rfl _ _ 26 rfl (w3.heap.size + 1) 44 o0 (.agg #[.int .i8 0, .int .i16 0, .int .i32 0, .int .i32 0]) 4 12 Try.underlying26 ho0 oz0 oz1 oz2 rfl (by decide) _ _ _ rfl HOA.out ⟨w6.heap.size, 0, none⟩ 1 1 [.int .i8 (j : Int), .int .i16 a1, .int .i32 a2, .int .i32 a3] rfl rfl HNEW.out onesG ?c3 ?c4 ?c5 ?_)
      case c3 => unfold maxLen; omega
      case c4 => omega
      case c5 => first | omega | (simp; omega)
      intro v' w9 hown' hgrow _
      have HO9 : Hid (OwnL 44 (w3.heap.size + 1) w9 v' (M ++ [((j : Int), a1, a2, a3)])) := Lib.hid (by
        unfold OwnL
        rw [List.length_append, HM.out, flatL_append]
        exact hown')
      have HNB : Hid (∀ k, (Value.slice sa m sc).ownBlock = some k → w3.heap.size + 1 ≤ k) := Lib.hid (fun k h => (HO6.out.block k h).1)
      have HB9 : Hid (Below w.heap.size w w9) := Lib.hid (HBA.out.grown hgrow (by simp; omega) (fun k e => by have := HNB.out k e; omega))
      have HRG9 := Lib.hid (HRGA.out.kept hgrow (fun e => by have := HNB.out _ e.symm; omega) (fun e => by have := HNB.out _ e.symm; omega))
      clear hown' hgrow
      go_wp2_with fail
      go_roundw
      case rel => exact ⟨_, cnt', _, HRG9.out, HO9.out, HSTEP.out, HLEFT.out, HB9.out⟩
      case measure => rw [HRG9.out.left_eq, HCNT.out]; exact hltm
end Go.Proofs.Ytocogipejchneaa
