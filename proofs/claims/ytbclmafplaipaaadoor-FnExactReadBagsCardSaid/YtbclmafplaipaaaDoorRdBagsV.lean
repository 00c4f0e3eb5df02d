/-
  Reading the text of bags: both checks, for one row more than a text's bytes; rows of rows that grow.
-/
import Derived.Test.YtbclmafplaipaaaDoorBgS
import Derived.Test.YtbclmafplaipaaaDoorMatD
import Derived.Test.YtbclmafplaipaaaDoorShP
import Derived.Test.YtbclmafplaipaaaDoorRdBagsP
import Derived.Test.YtbclmafplaipaaaDoorRdS
import Derived.Maps.AppendAt
namespace Go.Proofs.YtbclmafplaipaaaDoor
open Go Go.RowKit
set_option linter.unusedVariables false

set_option maxHeartbeats 4000000 in
set_option maxRecDepth 100000 in
theorem svldB_row (b n cap : Nat) (R : List (List Int)) (hn : R.length = n) (hm : n ≤ 1048577) (hr : ∀ j, j < R.length → (R.getD j []).length ≤ 1048576) (w : World)
    (hc : ∀ j, j < R.length → ∃ u, w.cell? ⟨b, j, none⟩ = some u ∧ ReadsI w u (R.getD j [])) :
    Calls Tryd.prog 84 #[.slice (some ⟨b, 0, none⟩) n cap] w fun e w' => e = .returned (.bool (vldM R)) ∧ w = w' := by
  have HN := Lib.hid hn
  have HC := Lib.hid hc
  have HR := Lib.hid hr
  clear hn hc hr
  go_enter Tryd.func84, Tryd.ntmps84
  go_wp2_with fail
  go_loop [3] (fun i => ∃ k : Nat, k ≤ n ∧ i = .int .i64 k ∧ RowsOk R k) (fun i => n - (intOf i).toNat)
  case atStart => exact ⟨0, Nat.zero_le _, rfl, RowsOk.zero _⟩
  case round =>
    obtain ⟨k, hk, rfl, hrw⟩ := hrel
    have HRW := Lib.hid hrw
    clear hrw
    by_cases hlt : k < n
    · have hkR : k < R.length := by have := HN.out; omega
      have hkn : (k : Int) < (n : Int) := by omega
      obtain ⟨a, cp, c0, r0⟩ := ReadsM.row HC.out hkR
      have HRD := Lib.hid r0
      have HLR := Lib.hid (HR.out k hkR)
      have HOK : Hid (rowOk R.length (R.getD k []) ↔ ((R.getD k []).length ≤ 6 ∧ betwTo (R.getD k []) 0 ((n : Int) - 1) (R.getD k []).length)) := Lib.hid (by
        rw [HN.out]
        exact ⟨fun h => ⟨h.1, h.2⟩, fun h => ⟨h.1, h.2⟩⟩)
      obtain ⟨xs, hxs⟩ : ∃ xs, R.getD k [] = xs := ⟨_, rfl⟩
      rw [hxs] at c0 HRD HLR HOK
      have HXS := Lib.hid hxs
      have hlx := HLR.out
      clear r0 hxs
      by_cases h6 : xs.length ≤ 6
      · have d6 : decide ((6 : Int) < (xs.length : Int)) = false := decide_eq_false (by omega)
        obtain ⟨l, hl⟩ : ∃ l, xs.length = l := ⟨_, rfl⟩
        have HLL := Lib.hid hl
        rw [hl] at c0 d6 h6
        clear hl hlx
        go_wp2_with fail
        go_loop [4] (fun i => ∃ q : Nat, q ≤ l ∧ i = .int .i64 q ∧ betwTo xs 0 ((n : Int) - 1) q) (fun i => l - (intOf i).toNat)
        case atStart => exact ⟨0, Nat.zero_le _, rfl, betwTo.zero _ _ _⟩
        case round =>
          obtain ⟨q, hq, rfl, hb⟩ := hrel
          have HB := Lib.hid hb
          clear hb
          by_cases hlq : q < l
          · have hqx : q < xs.length := by have := HLL.out; omega
            obtain ⟨b2, hab, hcc⟩ : ∃ b2, a = some ⟨b2, 0, none⟩ ∧ Cells w b2 xs := by
              obtain ⟨a', cap', e1, e2⟩ := HRD.out
              simp only [Value.slice.injEq] at e1
              obtain ⟨rfl, _, rfl⟩ := e1
              exact e2 (fun e => by rw [e] at hqx; simp at hqx)
            subst hab
            have d0 := hcc q hqx
            have hql : (q : Int) < (l : Int) := by omega
            obtain ⟨x, hx⟩ : ∃ x, xs.getD q 0 = x := ⟨_, rfl⟩
            rw [hx] at d0
            have HX := Lib.hid hx
            clear hx hcc
            by_cases h1 : 0 ≤ x ∧ x ≤ (n : Int) - 1
            · have g1 := inB_true h1
              go_wp2_with (go_at_call 115; refine (in_any _ _ _ _).mono ?_; rintro e w2 ⟨rfl, hw2⟩; subst hw2)
              go_round
              case rel => exact ⟨q + 1, by omega, by go_num, HB.out.succ (by rw [HX.out]; exact h1)⟩
              case measure => simp [intOf]; omega
            · have g1 := inB_false h1
              have H1 := Lib.hid h1
              clear h1
              go_wp2_with (go_at_call 115; refine (in_any _ _ _ _).mono ?_; rintro e w2 ⟨rfl, hw2⟩; subst hw2)
              go_ret
              exact ⟨(ret_bool (vldM_bad hkR (by rw [HXS.out]; exact fun h => H1.out (by have := (HOK.out.1 h).2 q hqx; rw [HX.out] at this; exact this)))).symm, rfl⟩
          · have HE : Hid (q = xs.length) := Lib.hid (by have := HLL.out; omega)
            go_wp2_with fail
            go_round
            case rel => exact ⟨k + 1, by omega, by go_num, HRW.out.succ (by rw [HXS.out]; exact HOK.out.2 ⟨by rw [HLL.out]; exact h6, by rw [← HE.out]; exact HB.out⟩)⟩
            case measure => simp [intOf]; omega
      · have d6 : decide ((6 : Int) < (xs.length : Int)) = true := decide_eq_true (by omega)
        go_wp2_with fail
        go_ret
        exact ⟨(ret_bool (vldM_bad hkR (by rw [HXS.out]; exact fun h => h6 h.1))).symm, rfl⟩
    · have HE : Hid (k = R.length) := Lib.hid (by have := HN.out; omega)
      by_cases h4 : 1 ≤ (n : Int) ∧ (n : Int) ≤ 4
      · have g1 := inB_true h4
        go_wp2_with (go_at_call 115; refine (in_any _ _ _ _).mono ?_; rintro e w2 ⟨rfl, hw2⟩; subst hw2)
        go_ret
        exact ⟨(ret_bool (vldM_true (by rw [HN.out]; omega) (by rw [HN.out]; omega) (by rw [← HE.out]; exact HRW.out))).symm, rfl⟩
      · have g1 := inB_false h4
        have H4 := Lib.hid h4
        clear h4
        go_wp2_with (go_at_call 115; refine (in_any _ _ _ _).mono ?_; rintro e w2 ⟨rfl, hw2⟩; subst hw2)
        go_ret
        exact ⟨(ret_bool (vldM_len (by rw [HN.out]; exact fun h => H4.out (by omega)))).symm, rfl⟩

set_option maxHeartbeats 1000000 in
theorem ivldB_len (a : Option Addr) (n cap : Nat) (hn : n ≤ 1048577) (h : ¬ (1 ≤ n ∧ n ≤ 4)) (w : World) :
    Calls Tryd.prog 85 #[.slice a n cap] w fun e w' => e = .returned (.bool false) ∧ w = w' := by
  by_cases h1 : 1 ≤ n
  · have d1 : decide ((n : Int) < 1) = false := decide_eq_false (by omega)
    have d2 : decide ((4 : Int) < (n : Int)) = true := decide_eq_true (by omega)
    go_enter Tryd.func85, Tryd.ntmps85
    go_wp2
    go_ret
    exact ⟨rfl, rfl⟩
  · have d1 : decide ((n : Int) < 1) = true := decide_eq_true (by omega)
    go_enter Tryd.func85, Tryd.ntmps85
    go_wp2
    go_ret
    exact ⟨rfl, rfl⟩

theorem ivldB_eq (v : Value) (R : List (List Int)) (w : World) (hv : ReadsM w v R) (hx : R.length ≤ 1048577) (hr : ∀ j, j < R.length → (R.getD j []).length ≤ 1048576) :
    Calls Tryd.prog 85 #[v] w fun e w' => e = .returned (.bool (vldM R)) ∧ w = w' := by
  obtain ⟨a, cap, rfl, h⟩ := hv
  by_cases hl : 1 ≤ R.length ∧ R.length ≤ 4
  · obtain ⟨b, rfl, hc⟩ := h (fun e => by rw [e] at hl; simp at hl)
    exact ivldM_row b R.length cap R rfl hl.1 hl.2 hr w hc
  · rw [vldM_len hl]
    exact ivldB_len a R.length cap hx hl w
theorem sbagsB_eq (v : Value) (R : List (List Int)) (w : World) (hv : ReadsM w v R) (hx : R.length ≤ 1048577) (hr : ∀ j, j < R.length → (R.getD j []).length ≤ 1048576) :
    Calls Tryd.prog 84 #[v] w fun e w' => e = .returned (.bool (vldM R)) ∧ w = w' := by
  obtain ⟨a, cap, rfl, h⟩ := hv
  by_cases h0 : R = []
  · subst h0
    rw [show vldM [] = false from vldM_len (by simp)]
    exact svldM_zero a cap w
  · obtain ⟨b, rfl, hc⟩ := h h0
    exact svldB_row b R.length cap R rfl hx hr w hc

/-! ### Rows of rows -/

def RetRdB (w : World) (R : List (List Int)) (c : Int) (e : Ending) (w' : World) : Prop := ∃ v, e = .returned (.tuple #[v, .int .i64 c]) ∧ OwnMD w.heap.size w'.heap.size w' v R ∧ Below w.heap.size w w'
theorem ownB_nil (lo hi : Nat) (w : World) : OwnMD lo hi w (.slice none 0 0) [] := ⟨[], World.ownsRow_nil _ _ _ _, fun j hj => absurd hj (by simp), fun p hp => by simp [Value.ownBlock] at hp, fun j hj => absurd hj (by simp), fun i j _ hj => absurd hj (by simp)⟩
theorem ownB_new (lo : Nat) (w : World) (h : lo ≤ w.heap.size) : OwnMD lo (w.alloc (.cells #[] 114)).heap.size (w.alloc (.cells #[] 114)) (.slice (some ⟨w.heap.size, 0, none⟩) 0 0) [] :=
  ⟨[], World.ownsRow_made w #[] 0 h (Nat.zero_le _) rfl, fun j hj => absurd hj (by simp), fun p hp => by
    have : w.heap.size = p := by simpa [Value.ownBlock] using hp
    subst this
    simp, fun j hj => absurd hj (by simp), fun i j _ hj => absurd hj (by simp)⟩
/-- No two of the first k rows share a block. -/
def DistB (us : List Value) (k : Nat) : Prop := ∀ i j, i < j → j < k → ∀ p q, (us.getD i nilS).ownBlock = some p → (us.getD j nilS).ownBlock = some q → p ≠ q
theorem getB_app (us : List Value) (u : Value) (j : Nat) (h : j < us.length) : (us ++ [u]).getD j nilS = us.getD j nilS := by simp [List.getD, List.getElem?_append_left h]
theorem getB_last (us : List Value) (u : Value) : (us ++ [u]).getD us.length nilS = u := by simp [List.getD]
theorem row_keptB {lo lo' : Nat} {w w' : World} {v : Value} {xs : List Int} {o : Value} {n : Nat} {us : List Value} (h : OwnI lo w v xs) (ho : w.ownsRow lo' 114 1 o n us) (g : w.grownBy w' o.ownBlock) : OwnI lo w' v xs :=
  h.kept g (by
    cases e : v.ownBlock with
    | none => exact .inl rfl
    | some p => exact .inr (fun e2 => row_ne_outer ho h p e2.symm e))
theorem ownB_is {w : World} {B : Nat} {v : Value} {xs : List Int} (h : OwnI B w v xs) : ∃ a c, v = .slice a xs.length c := own_is h
theorem spl_lenB {b : UInt8} : ∀ {l : List UInt8} {w : List UInt8}, w ∈ spl b l → w.length ≤ l.length
  | [], w, h => by simp [spl] at h; simp [h]
  | c :: r, w, h => by
    by_cases e : c = b
    · subst e
      rw [spl_cons_eq] at h
      rcases List.mem_cons.1 h with rfl | h
      · simp
      · have := spl_lenB h; simp only [List.length_cons]; omega
    · rw [spl_cons_ne e] at h
      obtain ⟨x, xs, hx⟩ : ∃ x xs, spl b r = x :: xs := by
        cases h : spl b r with
        | nil => exact absurd h (spl_ne b r)
        | cons x xs => exact ⟨x, xs, rfl⟩
      rw [hx] at h
      rcases List.mem_cons.1 h with rfl | h
      · have := spl_lenB (b := b) (l := r) (w := x) (by rw [hx]; simp)
        simp only [List.headD_cons, List.length_cons]; omega
      · have := spl_lenB (b := b) (l := r) (w := w) (by rw [hx]; exact List.mem_cons_of_mem _ h)
        simp only [List.length_cons]; omega
theorem row_typesB {T U : TypeId} (hT : T ≠ U) {lo lo' a b n n' : Nat} {w : World} {v u : Value} {xs ys : List Value} (h : w.ownsRow lo T a v n xs) (k : w.ownsRow lo' U b u n' ys) : ∀ p, v.ownBlock = some p → u.ownBlock = some p → False := by
  intro p hp hu
  rcases h.2 with ⟨rfl, _⟩ | ⟨g, cap, cur, rfl, _, hg, _⟩
  · simp [Value.ownBlock] at hp
  · rcases k.2 with ⟨rfl, _⟩ | ⟨g', cap', cur', rfl, _, hg', _⟩
    · simp [Value.ownBlock] at hu
    · simp [Value.ownBlock] at hp hu
      subst hp
      subst hu
      rw [hg] at hg'
      injection hg' with e
      injection e with _ e2 _
      exact hT e2
theorem ownW_someB {w : World} {B n : Nat} {a : Option Addr} {c : Nat} {ws : List (List UInt8)} (h : OwnW B w (.slice a n c) ws) (hn : 0 < n) : ∃ g, a = some ⟨g, 0, none⟩ ∧ ws.length = n ∧ g < w.heap.size ∧ ∀ j, j < n → w.cell? ⟨g, j, none⟩ = some (vS (ws.getD j [])) := by
  obtain ⟨a', c', e⟩ := own_is h
  injection e with e1 e2 e3
  rcases h.2 with ⟨e', _⟩ | ⟨g, cap, cur, e', _⟩
  · injection e' with _ e' _; omega
  · injection e' with e4 e5 e6
    subst e4
    refine ⟨g, rfl, e2.symm, (World.ownsRow.lt h g rfl).2, fun j hj => ?_⟩
    have h' : w.ownsRow B 9 1 (.slice (some ⟨g, 0, none⟩) n c) n (ws.map vS) := by have := h; unfold OwnW at this; rw [← e2] at this; exact this
    exact OwnW.cell h' j hj

theorem rdRBags_bd (l : List UInt8) : (rdRBags l).length ≤ 4 ∧ (∀ j, j < (rdRBags l).length → ((rdRBags l).getD j []).length ≤ 6) ∧ tot (rdRBags l) ≤ 24 := by
  cases h : vldM (bagsOf l)
  · rw [(rdBags_no h).1]
    simp [tot]
  · rw [(rdBags_yes h).1]
    exact vldM_tot h
end Go.Proofs.YtbclmafplaipaaaDoor
