/-
  Reading texts: the model's numbers and words.
-/
import Derived.Test.YtbclmafplaipaaaDoorRdP
import Derived.Test.YtbclmafplaipaaaDoorJn
import Derived.Test.YtbclmafplaipaaaDoorBlk
import Derived.Test.YtbclmafplaipaaaDoorProg
namespace Go.Proofs.YtbclmafplaipaaaDoor
open Go Go.RowKit
set_option linter.unusedVariables false

/-! ### Strings in the walk -/
theorem str_data (l : List UInt8) (i : Nat) (h : i < l.length) : (str l)[i]'(by rw [str_size]; exact h) = l[i] := by
  show (str l).data[i]'_ = _
  simp [str]
theorem str_cut (l : List UInt8) (a b : Nat) : (str l).extract a b = str ((l.drop a).take (b - a)) := ByteArray.extract_mk l a b
theorem run_at (P : Program) (t : TypeId) (k : IntKind) (l : List UInt8) (i : Nat) (h : P.underlying t = some .string) (hi : i < l.length) (w : World) :
    (Instr.index t (.string (str l)) (.int k (i : Int))).run P w = .ok (.int .u8 ((l.getD i 0).toNat : Int)) w := by
  rw [run_index_string w t (str l) k (i : Int) h, dif_pos ⟨by omega, by rw [str_size]; omega⟩]
  simp only [Int.toNat_natCast]
  rw [str_data l i hi]
  simp [List.getD, hi]
theorem run_mid (P : Program) (t : TypeId) (k k' : IntKind) (l : List UInt8) (a b : Nat) (h : P.underlying t = some .string) (h1 : a ≤ b) (h2 : b ≤ l.length) (w : World) :
    (Instr.slice t (.string (str l)) (some (.int k (a : Int))) (some (.int k' (b : Int))) none).run P w = .ok (.string (str ((l.drop a).take (b - a)))) w := by
  rw [run_slice_string w t (str l) k k' a b h (by omega) (by omega) (by rw [str_size]; omega)]
  simp only [Int.toNat_natCast]
  rw [str_cut]
theorem run_tail (P : Program) (t : TypeId) (k : IntKind) (l : List UInt8) (a : Nat) (h : P.underlying t = some .string) (h1 : a ≤ l.length) (w : World) :
    (Instr.slice t (.string (str l)) (some (.int k (a : Int))) none none).run P w = .ok (.string (str (l.drop a))) w := by
  rw [run_slice_string_from_if w t (str l) k a h, if_pos ⟨by omega, by rw [str_size]; omega⟩]
  simp only [Int.toNat_natCast]
  rw [str_cut, str_size, List.take_of_length_le (by simp)]
theorem numF_snoc (l : List UInt8) (i : Nat) (h : i < l.length) : numF 0 (l.take (i + 1)) = 10 * numF 0 (l.take i) + ((l.getD i 0).toNat - 48) := by
  rw [List.take_succ_eq_append_getElem h, numF_app, numF_cons, numF_nil]
  simp [List.getD, h]
theorem all_snoc (l : List UInt8) (i : Nat) (h : i < l.length) : (l.take (i + 1)).all isDg = ((l.take i).all isDg && isDg (l.getD i 0)) := by
  rw [List.take_succ_eq_append_getElem h, List.all_append]
  simp [List.getD, h]
theorem num_no {l : List UInt8} (h : l = [] ∨ 9 < l.length ∨ (l.head? = some 48 ∧ 1 < l.length)) : num l = none := by unfold num; rw [if_pos h]
theorem num_yes {l : List UInt8} (h : ¬ (l = [] ∨ 9 < l.length ∨ (l.head? = some 48 ∧ 1 < l.length))) : num l = if l.all isDg = true then some (numF 0 l) else none := by unfold num; rw [if_neg h]
theorem num_bad {l : List UInt8} {i : Nat} (hi : i < l.length) (h : isDg (l.getD i 0) = false) : num l = none := by
  unfold num
  split
  · rfl
  · rw [if_neg]
    intro e
    have := List.all_eq_true.1 e (l.getD i 0) (by simp [List.getD, hi])
    rw [h] at this; cases this

set_option maxHeartbeats 2000000 in
set_option maxRecDepth 100000 in
theorem snum_any (l : List UInt8) (hl : l.length ≤ 1048576) (w : World) :
    Calls Tryd.prog 56 #[.string (str l)] w fun e w' => e = .returned (.tuple #[.int .i64 (((num l).getD 0 : Nat) : Int), .bool (num l).isSome]) ∧ w = w' := by
  obtain ⟨n, hn⟩ : ∃ n, l.length = n := ⟨_, rfl⟩
  obtain ⟨r, hr⟩ : ∃ r, num l = r := ⟨_, rfl⟩
  rw [hr]
  have hsz : (str l).size = n := by rw [str_size, hn]
  by_cases h0 : l = []
  · have : r = none := by rw [← hr]; exact num_no (.inl h0)
    subst this
    subst h0
    have e0 : (str []).toList = [] := ByteArray.toList_mk []
    clear hr hn hsz hl
    go_enter Tryd.func56, Tryd.ntmps56
    go_wp2_with fail
    go_ret2
    exact ⟨rfl, rfl⟩
  have hn0 : 0 < n := by
    rcases Nat.eq_zero_or_pos n with e | e
    · rw [e] at hn; exact absurd (List.eq_nil_of_length_eq_zero hn) h0
    · exact e
  have teq : ((str l).toList == []) = false := by
    rw [beq_eq_false_iff_ne]
    intro e
    apply h0
    have : (str l).toList = l := by unfold str; exact ByteArray.toList_mk l
    rw [← this]; exact e
  obtain ⟨c0, hc0⟩ : ∃ c : UInt8, l.getD 0 0 = c := ⟨_, rfl⟩
  have hix0 : ∀ W, (Instr.index 9 (.string (str l)) (.int .i64 0)).run Tryd.prog W = .ok (.int .u8 (c0.toNat : Int)) W := fun W => by
    have := run_at Tryd.prog 9 .i64 l 0 Tryd.underlying9 (by omega) W
    rw [hc0] at this; exact this
  have hhead : l.head? = some c0 := by
    cases l with
    | nil => exact absurd rfl h0
    | cons a t => simp at hc0; rw [hc0]; rfl
  have t0 : n ≤ 9 → decide ((n : Int) > 9) = false := fun h => decide_eq_false (by omega)
  have HR := Lib.hid hr
  have HN := Lib.hid hn
  have hnl : (n : Int) ≤ 1048576 := by omega
  have hn0' := h0
  clear hr hn h0 hc0
  by_cases h9 : 9 < n
  · have hrn : r = none := by rw [← HR.out]; exact num_no (.inr (.inl (by rw [HN.out]; exact h9)))
    have h9' : (9 : Int) < (n : Int) := by omega
    subst hrn
    go_enter Tryd.func56, Tryd.ntmps56
    go_wp2_with fail
    go_ret2
    exact ⟨rfl, rfl⟩
  have hd9 : decide ((9 : Int) < (n : Int)) = false := decide_eq_false (by omega)
  by_cases hz : c0.toNat = 48 ∧ 1 < n
  · have hrn : r = none := by rw [← HR.out]; exact num_no (.inr (.inr ⟨by rw [hhead]; congr 1; exact UInt8.toNat_inj.1 (by rw [hz.1]; rfl), by rw [HN.out]; exact hz.2⟩))
    have h1' : decide ((1 : Int) < (n : Int)) = true := decide_eq_true (by omega)
    have h48 : ((c0.toNat : Int) == 48) = true := by rw [hz.1]; rfl
    subst hrn
    clear hz
    go_enter Tryd.func56, Tryd.ntmps56
    go_wp2_with fail
    go_ret2
    exact ⟨rfl, rfl⟩
  have hnum : num l = if l.all isDg = true then some (numF 0 l) else none := num_yes (fun e => by
    rcases e with e | e | ⟨e, e2⟩
    · exact hn0' e
    · rw [HN.out] at e; omega
    · rw [hhead] at e
      injection e with e
      exact hz ⟨by rw [e]; rfl, by rw [HN.out] at e2; exact e2⟩)
  have HNUM := Lib.hid hnum
  have h48 : ((c0.toNat : Int) == 48) = false ∨ decide ((1 : Int) < (n : Int)) = false := by
    rcases Decidable.em (c0.toNat = 48) with e | e
    · exact .inr (decide_eq_false (fun h => hz ⟨e, by omega⟩))
    · exact .inl (beq_eq_false_iff_ne.2 (fun h => e (by omega)))
  have hn9 : n ≤ 9 := by omega
  have key : ∀ W : World, w = W → True := fun _ _ => trivial
  clear hz hnum hhead h9 hn0' key
  have h1f : ((c0.toNat : Int) == 48) = true → decide ((1 : Int) < (n : Int)) = false := fun e => h48.resolve_left (by rw [e]; simp)
  rcases Bool.eq_false_or_eq_true ((c0.toNat : Int) == 48) with h4 | h4
  all_goals (first | (have h1' := h1f h4) | skip)
  all_goals
    clear h48 h1f
    go_enter Tryd.func56, Tryd.ntmps56
    go_wp2_with fail
    go_loopw [4, 5] (fun nv i wr => ∃ k : Nat, k ≤ n ∧ i = .int .i64 k ∧ nv = .int .i64 (numF 0 (l.take k)) ∧ (l.take k).all isDg = true ∧ w = wr) (fun _ i _ => n - (intOf i).toNat)
    case atStart => exact ⟨0, Nat.zero_le _, rfl, rfl, rfl, rfl⟩
    case round =>
      obtain ⟨k, hk, rfl, rfl, hall, rfl⟩ := hrel
      have HALL := Lib.hid hall
      obtain ⟨a, ha⟩ : ∃ a, numF 0 (l.take k) = a := ⟨_, rfl⟩
      have hab : a < 1000000000 := by
        have h1 := numF_lt (l.take k) 0 hall
        rw [ha] at h1
        have h2 : 10 ^ (l.take k).length ≤ 10 ^ 9 := Nat.pow_le_pow_right (by omega) (by rw [List.length_take]; omega)
        omega
      have HA := Lib.hid ha
      rw [ha]
      clear hall ha
      by_cases hlt : k < n
      · have hkn : (k : Int) < (n : Int) := by omega
        have hk0 : (0 : Int) ≤ (k : Int) := by omega
        obtain ⟨c, hc⟩ : ∃ c : UInt8, l.getD k 0 = c := ⟨_, rfl⟩
        have hix : ∀ W, (Instr.index 9 (.string (str l)) (.int .i64 (k : Int))).run Tryd.prog W = .ok (.int .u8 (c.toNat : Int)) W := fun W => by
          have := run_at Tryd.prog 9 .i64 l k Tryd.underlying9 (by rw [HN.out]; exact hlt) W
          rw [hc] at this; exact this
        have hc256 : c.toNat < 256 := c.toNat_lt
        have HBAD : Hid (isDg c = false → r = none) := Lib.hid (fun h => by rw [← HR.out]; exact num_bad (i := k) (by rw [HN.out]; exact hlt) (by rw [hc]; exact h))
        have HSN : Hid (isDg c = true → (l.take (k + 1)).all isDg = true ∧ numF 0 (l.take (k + 1)) = 10 * a + (c.toNat - 48)) := Lib.hid (fun h => ⟨by rw [all_snoc l k (by rw [HN.out]; exact hlt), HALL.out, hc, h]; rfl, by rw [numF_snoc l k (by rw [HN.out]; exact hlt), HA.out, hc]⟩)
        clear hc
        by_cases h1 : c.toNat < 48
        · have hrn := HBAD.out (decide_eq_false (by omega))
          have t1 : decide ((c.toNat : Int) < 48) = true := decide_eq_true (by omega)
          subst hrn
          clear h1 HBAD HSN
          go_wp2_with fail
          go_ret2
          exact ⟨rfl, rfl⟩
        · have t1 : decide ((c.toNat : Int) < 48) = false := decide_eq_false (by omega)
          by_cases h2 : 57 < c.toNat
          · have hrn := HBAD.out (decide_eq_false (by omega))
            have t2 : decide ((57 : Int) < (c.toNat : Int)) = true := decide_eq_true (by omega)
            subst hrn
            clear HBAD HSN
            go_wp2_with fail
            go_ret2
            exact ⟨rfl, rfl⟩
          · have t2 : decide ((57 : Int) < (c.toNat : Int)) = false := decide_eq_false (by omega)
            obtain ⟨e1, e2⟩ := HSN.out (decide_eq_true (by omega))
            have HE1 := Lib.hid e1
            have HE2 := Lib.hid e2
            obtain ⟨d, hd⟩ : ∃ d, c.toNat - 48 = d := ⟨_, rfl⟩
            have hdc : (c.toNat : Int) = (d : Int) + 48 := by omega
            have hd9 : d ≤ 9 := by omega
            rw [hd] at HE2
            rw [hdc] at hix t1 t2
            clear e1 e2 hd hdc HBAD HSN h1 h2 hc256
            go_wp2_with fail
            go_roundw
            case rel => exact ⟨k + 1, by omega, by go_num, by rw [HE2.out]; go_num, HE1.out, by first | rfl | trivial⟩
            case measure => simp [intOf]; omega
      · have hrn : r = some a := by
          have hk' : k = n := by omega
          have h1 : l.take k = l := by rw [hk', ← HN.out]; exact List.take_length
          rw [← HR.out, HNUM.out, ← HA.out]
          have h2 := HALL.out
          rw [h1] at h2 ⊢
          rw [if_pos h2]
        have HRN := Lib.hid hrn
        clear hrn
        go_wp2_with fail
        go_ret2
        exact ⟨by rw [HRN.out]; rfl, rfl⟩

theorem infoStr : (Tryd.prog.info? 9).map (fun i => (i.zero, i.size, i.bytes)) = some (some (.string ⟨#[]⟩), 1, 16) := by kernel_rfl
theorem ownW_below {B : Nat} {w w' : World} {v : Value} {ws : List (List UInt8)} (h : OwnW B w v ws) (hb : Below w.heap.size w w') : OwnW B w' v ws := by
  refine ⟨h.1, ?_⟩
  rcases h.2 with hn | ⟨g, cap, cur, e, hB, hg, rest⟩
  · exact .inl hn
  · exact .inr ⟨g, cap, cur, e, hB, by rw [hb.block g (Array.getElem?_eq_some_iff.1 hg).1]; exact hg, rest⟩
theorem own_is {w : World} {B n k : Nat} {T : TypeId} {v : Value} {xs : List Value} (h : w.ownsRow B T n v k xs) : ∃ a c, v = .slice a k c := by
  rcases h.2 with ⟨rfl, h0⟩ | ⟨g, cap, cur, rfl, _⟩
  · exact ⟨none, 0, by rw [h0]⟩
  · exact ⟨_, cap, rfl⟩
theorem str_oneCell (x : List UInt8) : ∀ u ∈ [Value.string (str x)], u.oneCell' = true := fun u hu => by simp at hu; subst hu; rfl
/-- Where the words stand when the first k bytes have been read, the last of these words from place a on. -/
theorem spl_hit {b : UInt8} {l : List UInt8} {a k : Nat} {ws : List (List UInt8)} (ha : a ≤ k) (hk : k < l.length) (h : spl b l = ws ++ spl b (l.drop a)) (hf : b ∉ (l.drop a).take (k - a)) (he : l.getD k 0 = b) : spl b l = (ws ++ [(l.drop a).take (k - a)]) ++ spl b (l.drop (k + 1)) := by
  have e : l.drop a = (l.drop a).take (k - a) ++ b :: l.drop (k + 1) := by
    conv => lhs; rw [← List.take_append_drop (k - a) (l.drop a)]
    congr 1
    rw [List.drop_drop, show a + (k - a) = k by omega, List.drop_eq_getElem_cons hk]
    congr 1
    rw [← he]; simp [List.getD, hk]
  rw [h]
  conv => lhs; rw [e]
  rw [spl_app _ hf, List.append_assoc]
  rfl
theorem spl_on {b : UInt8} {l : List UInt8} {a k : Nat} (ha : a ≤ k) (hk : k < l.length) (hf : b ∉ (l.drop a).take (k - a)) (he : l.getD k 0 ≠ b) : b ∉ (l.drop a).take (k + 1 - a) := by
  rw [show k + 1 - a = (k - a) + 1 by omega, List.take_succ_eq_append_getElem (by rw [List.length_drop]; omega)]
  simp only [List.mem_append, List.mem_singleton, not_or]
  refine ⟨hf, fun e => he ?_⟩
  rw [e]
  simp [List.getD, hk, show a + (k - a) = k by omega]
theorem spl_end {b : UInt8} {l : List UInt8} {a : Nat} {ws : List (List UInt8)} (ha : a ≤ l.length) (h : spl b l = ws ++ spl b (l.drop a)) (hf : b ∉ (l.drop a).take (l.length - a)) : spl b l = ws ++ [l.drop a] := by
  rw [h, spl_free]
  rw [List.take_of_length_le (by simp)] at hf
  exact hf
theorem spl_count (b : UInt8) : ∀ l : List UInt8, (spl b l).length ≤ l.length + 1
  | [] => by simp [spl]
  | c :: r => by
    have ih := spl_count b r
    unfold spl
    split
    · simp; omega
    · have : (spl b r).tail.length ≤ r.length := by rw [List.length_tail]; omega
      simp only [List.length_cons]; omega

set_option maxHeartbeats 2000000 in
set_option maxRecDepth 100000 in
theorem ssplit_any (l : List UInt8) (b : UInt8) (hl : l.length ≤ 1048576) (w : World) :
    Calls Tryd.prog 55 #[.string (str l), .int .u8 (b.toNat : Int)] w fun e w' => ∃ v, e = .returned v ∧ OwnW w.heap.size w' v (spl b l) ∧ Below w.heap.size w w' := by
  obtain ⟨i0, hi, hz0, hz1, hz2⟩ := info_parts infoStr
  obtain ⟨n, hn⟩ : ∃ n, l.length = n := ⟨_, rfl⟩
  obtain ⟨R, hR⟩ : ∃ R, spl b l = R := ⟨_, rfl⟩
  have HR := Lib.hid hR
  have HN := Lib.hid hn
  have HCT : Hid (R.length ≤ n + 1) := Lib.hid (by rw [← hR, ← hn]; exact spl_count b l)
  have hsz : (str l).size = n := by rw [str_size, hn]
  have ho1 : (w.alloc (.cells #[] 9)).ownsRow w.heap.size 9 1 (.slice (some ⟨w.heap.size, 0, none⟩) 0 0) 0 [] := World.ownsRow_made w #[] 0 (Nat.le_refl _) (Nat.zero_le _) rfl
  have HO1 : Hid (OwnW w.heap.size (w.alloc (.cells #[] 9)) (.slice (some ⟨w.heap.size, 0, none⟩) 0 0) []) := Lib.hid ho1
  have HB1 : Hid (Below w.heap.size w (w.alloc (.cells #[] 9))) := Lib.hid ((Below.refl _ _).alloc (Nat.le_refl _) _)
  have hb256 : b.toNat < 256 := b.toNat_lt
  rw [hR]
  rw [hn] at hl
  clear hn hR ho1
  go_enter Tryd.func55, Tryd.ntmps55
  go_wp2_with fail
  go_loopw [5, 6, 7] (fun ov bv iv wr => ∃ (k a : Nat) (ws : List (List UInt8)), a ≤ k ∧ k ≤ n ∧ iv = .int .i64 k ∧ bv = .int .i64 a ∧ OwnW w.heap.size wr ov ws ∧ spl b l = ws ++ spl b (l.drop a) ∧ b ∉ (l.drop a).take (k - a) ∧ Below w.heap.size w wr) (fun _ _ i _ => n - (intOf i).toNat)
  case atStart => exact ⟨0, 0, [], Nat.le_refl _, Nat.zero_le _, rfl, rfl, HO1.out, rfl, by simp, HB1.out⟩
  case round =>
    obtain ⟨k, a, ws, hak, hk, rfl, rfl, ho, hs, hf, hb⟩ := hrel
    have HO := Lib.hid ho
    have HS := Lib.hid hs
    have HF := Lib.hid hf
    have HB := Lib.hid hb
    have hwl : ws.length ≤ n := by
      have h1 := HCT.out
      rw [← HR.out, hs, List.length_append] at h1
      have h2 : 0 < (spl b (l.drop a)).length := Nat.pos_of_ne_zero (fun e => spl_ne _ _ (List.eq_nil_of_length_eq_zero e))
      omega
    have hwr : w.heap.size ≤ wr.heap.size := hb.size
    obtain ⟨va, vc, hv⟩ : ∃ a c, u5 = .slice a ws.length c := own_is ho
    clear ho hs hf hb
    obtain ⟨m, hm⟩ : ∃ m, ws.length = m := ⟨_, rfl⟩
    have HM := Lib.hid hm
    rw [hm] at hwl hv
    subst hv
    clear hm
    by_cases hlt : k < n
    · have hkn : (k : Int) < (n : Int) := by omega
      have hk0 : (0 : Int) ≤ (k : Int) := by omega
      obtain ⟨c, hc⟩ : ∃ c : UInt8, l.getD k 0 = c := ⟨_, rfl⟩
      have HC := Lib.hid hc
      have hix : ∀ W, (Instr.index 9 (.string (str l)) (.int .i64 (k : Int))).run Tryd.prog W = .ok (.int .u8 (c.toNat : Int)) W := fun W => by
        have := run_at Tryd.prog 9 .i64 l k Tryd.underlying9 (by rw [HN.out]; exact hlt) W
        rw [hc] at this; exact this
      have hc256 : c.toNat < 256 := c.toNat_lt
      by_cases hcb : c = b
      · have t1 : ((c.toNat : Int) == (b.toNat : Int)) = true := by rw [hcb]; simp
        obtain ⟨x, hx⟩ : ∃ x, (l.drop a).take (k - a) = x := ⟨_, rfl⟩
        have hmid : ∀ W, (Instr.slice 9 (.string (str l)) (some (.int .i64 (a : Int))) (some (.int .i64 (k : Int))) none).run Tryd.prog W = .ok (.string (str x)) W := fun W => by
          rw [← hx]; exact run_mid Tryd.prog 9 .i64 .i64 l a k Tryd.underlying9 hak (by rw [HN.out]; omega) W
        have HS2 : Hid (spl b l = (ws ++ [x]) ++ spl b (l.drop (k + 1))) := Lib.hid (by rw [← hx]; exact spl_hit hak (by rw [HN.out]; exact hlt) HS.out HF.out (by rw [HC.out, hcb]))
        have HOA : Hid ((wr.alloc (.cells #[.string (str x)] 9)).ownsRow w.heap.size 9 1 (.slice va m vc) m (ws.map vS)) := Lib.hid (by have h := World.ownsRow.alloc (show wr.ownsRow w.heap.size 9 1 (.slice va m vc) ws.length (ws.map vS) from HO.out) (.cells #[.string (str x)] 9); rw [HM.out] at h; exact h)
        have hba : Below w.heap.size w (wr.alloc (.cells #[.string (str x)] 9)) := HB.out.alloc hwr _
        have HBA := Lib.hid hba
        clear hx hcb hc hba
        go_wp2_with (at_builtin; refine wpList_append_own _ rfl _ _ 77 rfl w.heap.size 9 i0 (.string ⟨#[]⟩) 1 16 Tryd.underlying77 hi hz0 hz1 hz2 rfl (by decide) _ _ _ rfl HOA.out ⟨wr.heap.size, 0, none⟩ 1 1 [.string (str x)] rfl rfl (cell_one_new _ _ _) (str_oneCell x) ?c3 ?c4 ?c5 ?_)
        case c3 => unfold maxLen; omega
        case c4 => omega
        case c5 => first | (simp; omega) | omega
        intro v' w9 hown' hgrow _
        have HO3 : Hid (OwnW w.heap.size w9 v' (ws ++ [x])) := Lib.hid (by
          unfold OwnW
          rw [List.map_append, List.length_append, HM.out]
          exact hown')
        have HB3 : Hid (Below w.heap.size w w9) := Lib.hid (HBA.out.grown hgrow (by simp; omega) (fun k e => (HOA.out.lt k e).1))
        have HF2 : Hid (b ∉ (l.drop (k + 1)).take (k + 1 - (k + 1))) := Lib.hid (by simp)
        clear hown' hgrow
        go_wp2_with fail
        go_roundw
        case rel => exact ⟨k + 1, k + 1, _, Nat.le_refl _, by omega, by go_num, by go_num, HO3.out, HS2.out, HF2.out, HB3.out⟩
        case measure => simp [intOf]; omega
      · have t1 : ((c.toNat : Int) == (b.toNat : Int)) = false := by
          rw [beq_eq_false_iff_ne]
          intro e
          exact hcb (UInt8.toNat_inj.1 (by omega))
        have HF2 := Lib.hid (spl_on hak (by rw [HN.out]; exact hlt) HF.out (by rw [HC.out]; exact hcb))
        have HOR : Hid (OwnW w.heap.size wr (.slice va m vc) ws) := HO
        clear hcb hc
        go_wp2_with fail
        go_roundw
        case rel => exact ⟨k + 1, a, ws, by omega, by omega, by go_num, rfl, HOR.out, HS.out, HF2.out, HB.out⟩
        case measure => simp [intOf]; omega
    · obtain ⟨x, hx⟩ : ∃ x, l.drop a = x := ⟨_, rfl⟩
      have hkn : k = n := by omega
      have htail : ∀ W, (Instr.slice 9 (.string (str l)) (some (.int .i64 (a : Int))) none none).run Tryd.prog W = .ok (.string (str x)) W := fun W => by
        rw [← hx]; exact run_tail Tryd.prog 9 .i64 l a Tryd.underlying9 (by rw [HN.out]; omega) W
      have HE : Hid (R = ws ++ [x]) := Lib.hid (by rw [← HR.out, ← hx]; exact spl_end (by rw [HN.out]; omega) HS.out (by rw [HN.out, ← hkn]; exact HF.out))
      have HOA : Hid ((wr.alloc (.cells #[.string (str x)] 9)).ownsRow w.heap.size 9 1 (.slice va m vc) m (ws.map vS)) := Lib.hid (by have h := World.ownsRow.alloc (show wr.ownsRow w.heap.size 9 1 (.slice va m vc) ws.length (ws.map vS) from HO.out) (.cells #[.string (str x)] 9); rw [HM.out] at h; exact h)
      have hba : Below w.heap.size w (wr.alloc (.cells #[.string (str x)] 9)) := HB.out.alloc hwr _
      have HBA := Lib.hid hba
      clear hx hba hkn
      go_wp2_with (at_builtin; refine wpList_append_own _ rfl _ _ 77 rfl w.heap.size 9 i0 (.string ⟨#[]⟩) 1 16 Tryd.underlying77 hi hz0 hz1 hz2 rfl (by decide) _ _ _ rfl HOA.out ⟨wr.heap.size, 0, none⟩ 1 1 [.string (str x)] rfl rfl (cell_one_new _ _ _) (str_oneCell x) ?d3 ?d4 ?d5 ?_)
      case d3 => unfold maxLen; omega
      case d4 => omega
      case d5 => first | (simp; omega) | omega
      intro v' w9 hown' hgrow _
      have HO3 : Hid (OwnW w.heap.size w9 v' R) := Lib.hid (by
        rw [HE.out]
        unfold OwnW
        rw [List.map_append, List.length_append, HM.out]
        exact hown')
      have HB3 : Hid (Below w.heap.size w w9) := Lib.hid (HBA.out.grown hgrow (by simp; omega) (fun k e => (HOA.out.lt k e).1))
      clear hown' hgrow
      go_wp2_with fail
      go_ret
      exact ⟨_, rfl, HO3.out, HB3.out⟩
end Go.Proofs.YtbclmafplaipaaaDoor
