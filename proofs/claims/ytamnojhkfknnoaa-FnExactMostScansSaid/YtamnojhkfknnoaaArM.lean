/-
  The program's sets of hours: whether an hour is in a set; a set moved by some hours.
-/
import Derived.Test.YtamnojhkfknnoaaArH
import Derived.ChangeKeysEq
namespace Go.Proofs.Ytamnojhkfknnoaa
open Go Go.RowKit
set_option linter.unusedVariables false

theorem bit_word (N h : Nat) : (bits BinOp.and IntKind.u64 (((wd N (h / 64) : Nat) : Int) / 2 ^ ((h : Int) % 64).toNat) 1 == 1) = N.testBit h := by
  have h1 := wd_lt N (h / 64)
  have e0 : ((h : Int) % 64).toNat = h % 64 := by omega
  rw [e0, wd_has N h]
  obtain ⟨x, hx⟩ : ∃ x, wd N (h / 64) = x := ⟨_, rfl⟩
  rw [hx] at h1 ⊢
  have e1 : ((x : Nat) : Int) / 2 ^ (h % 64) = ((x / 2 ^ (h % 64) : Nat) : Int) := by simp
  have h2 : x / 2 ^ (h % 64) < 18446744073709551616 := Nat.lt_of_le_of_lt (Nat.div_le_self _ _) h1
  rw [e1]
  have e2 := u64_and_nat (x / 2 ^ (h % 64)) 1 h2 (by omega)
  rw [show ((1 : Nat) : Int) = 1 from rfl] at e2
  rw [e2, Nat.and_one_is_mod, Nat.testBit_eq_decide_div_mod_eq]
  rcases Nat.mod_two_eq_zero_or_one (x / 2 ^ (h % 64)) with h3 | h3 <;> simp [h3]

set_option maxHeartbeats 1000000 in
set_option maxRecDepth 100000 in
theorem has_core (x0 x1 x2 x3 x4 x h : Int) (b : Bool) (w : World) (h0 : 0 ≤ h) (h1 : h ≤ 300) (h2 : 0 ≤ x) (h3 : x < 18446744073709551616) (hl : [Value.int IntKind.u64 x0, Value.int IntKind.u64 x1, Value.int IntKind.u64 x2, Value.int IntKind.u64 x3, Value.int IntKind.u64 x4][(h / 64).toNat]? = some (.int .u64 x))
    (hb : (bits BinOp.and IntKind.u64 (x / 2 ^ (h % 64).toNat) 1 == 1) = b) :
    Calls Try.prog 69 #[.agg #[.int .u64 x0, .int .u64 x1, .int .u64 x2, .int .u64 x3, .int .u64 x4], .int .i64 h] w fun e w' => e = .returned (.bool b) ∧ Below w.heap.size w w' := by
  go_enter Try.func69, Try.ntmps69
  go_wp2_with fail
  go_ret
  exact ⟨rfl, (Below.refl _ _).alloc (Nat.le_refl _) _⟩
theorem hw_at (N i : Nat) (hi : i < 5) : [Value.int IntKind.u64 (wd N 0 : Nat), Value.int IntKind.u64 (wd N 1 : Nat), Value.int IntKind.u64 (wd N 2 : Nat), Value.int IntKind.u64 (wd N 3 : Nat), Value.int IntKind.u64 (wd N 4 : Nat)][i]? = some (.int .u64 (wd N i : Nat)) := by
  rcases i with _ | _ | _ | _ | _ | i <;> first | rfl | omega
theorem ihbit_any (N h : Nat) (hh : h ≤ 300) (w : World) :
    Calls Try.prog 69 #[hv N, .int .i64 (h : Int)] w fun e w' => e = .returned (.bool (N.testBit h)) ∧ Below w.heap.size w w' :=
  has_core _ _ _ _ _ ((wd N (h / 64) : Nat) : Int) h _ w (by omega) (by omega) (by omega) (by have := wd_lt N (h / 64); omega) (by rw [show ((h : Int) / 64).toNat = h / 64 by omega]; exact hw_at N (h / 64) (by omega)) (bit_word N h)

theorem eqItems_all {P : Program} (d : Nat) (e : TypeId) (c : Nat) (xs ys : Array Value) (w : World) (p : Nat → Bool) : ∀ (is : List Nat) (h : ∀ i ∈ is, ∃ a b, (part e xs (i * c)).run P w = .ok a w ∧ (part e ys (i * c)).run P w = .ok b w ∧ (Op.equalIn d e a b).run P w = .ok (p i) w),
    (Op.eqItems d e c xs ys is).run P w = .ok (is.all p) w
  | [], _ => by simp [Op.eqItems]
  | i :: is, h => by
    obtain ⟨a, b, h1, h2, h3⟩ := h i (by simp)
    have ih := eqItems_all d e c xs ys w p is (fun j hj => h j (by simp [hj]))
    simp only [Op.eqItems, Sem.run_bind, h1, h2, h3, Result.andThen_ok]
    cases hp : p i <;> simp [ih, hp]
theorem hw_get (N i : Nat) (hi : i < 5) : (hw N)[i]? = some (.int .u64 (wd N i : Nat)) := by
  rcases i with _ | _ | _ | _ | _ | i <;> first | rfl | omega
/-- Whether two sets of hours are equal. -/
theorem hours_eq (d N M : Nat) (hN : N < 2 ^ room) (hM : M < 2 ^ room) (w : World) : (Op.equalIn (d + 2) 92 (hv N) (hv M)).run Try.prog w = .ok (decide (N = M)) w := by
  have hu : Try.prog.underlying 92 = some (.array 5 90) := by kernel_rfl
  have hi : (Try.prog.info? 90).isSome = true := by kernel_rfl
  obtain ⟨i, hi⟩ := Option.isSome_iff_exists.1 hi
  have hc : Try.prog.cellsOf 90 = 1 := by kernel_rfl
  have hp : Try.prog.plainKey 90 = true := by kernel_rfl
  have hu8 : Try.prog.underlying 90 = some (.int .u64) := by kernel_rfl
  show (Op.equalIn (d + 1 + 1) 92 (.agg (hw N)) (.agg (hw M))).run Try.prog w = _
  have hall : (List.range 5).all (fun i => ((wd N i : Nat) : Int) == ((wd M i : Nat) : Int)) = decide (N = M) := by
    rw [Bool.eq_iff_iff]
    simp only [List.all_eq_true, List.mem_range, beq_iff_eq, decide_eq_true_eq]
    constructor
    · intro h; exact wd_ext hN hM (fun i hi => by have := h i hi; omega)
    · rintro rfl i hi; rfl
  rw [run_equalIn_array w (d + 1) _ _ hu hi, hc, eqItems_all (d + 1) 90 1 (hw N) (hw M) w (fun i => ((wd N i : Nat) : Int) == ((wd M i : Nat) : Int)) (List.range 5) (fun i hi => ⟨.int .u64 (wd N i : Nat), .int .u64 (wd M i : Nat), run_part_plain _ hp (by rw [Nat.mul_one]; exact hw_get N i (List.mem_range.1 hi)), run_part_plain _ hp (by rw [Nat.mul_one]; exact hw_get M i (List.mem_range.1 hi)), run_equalIn_int w d _ _ _ _ _ hu8⟩), hall]
theorem guard_hours : Try.prog.eqGuardType Try.prog.depth 92 = false := by kernel_rfl
theorem hv_zero : hv 0 = .agg #[.int .u64 0, .int .u64 0, .int .u64 0, .int .u64 0, .int .u64 0] := by simp [wd_zero]

/-- A block that holds a set of hours. -/
def BlkH (w : World) (B : Nat) (N : Nat) : Prop := BlkA w B 92 (hw N)
theorem BlkH.cells {w : World} {B N : Nat} (h : BlkH w B N) : w.cell? ⟨B, 0, none⟩ = some (.int .u64 (wd N 0 : Nat)) ∧ w.cell? ⟨B, 1, none⟩ = some (.int .u64 (wd N 1 : Nat)) ∧ w.cell? ⟨B, 2, none⟩ = some (.int .u64 (wd N 2 : Nat)) ∧ w.cell? ⟨B, 3, none⟩ = some (.int .u64 (wd N 3 : Nat)) ∧ w.cell? ⟨B, 4, none⟩ = some (.int .u64 (wd N 4 : Nat)) :=
  ⟨BlkA.at h 0, BlkA.at h 1, BlkA.at h 2, BlkA.at h 3, BlkA.at h 4⟩
theorem BlkH.store {w : World} {B N : Nat} (h : BlkH w B N) (M : Nat) : BlkH (((((w.setCell ⟨B, 0, none⟩ (.int .u64 (wd M 0 : Nat))).setCell ⟨B, 1, none⟩ (.int .u64 (wd M 1 : Nat))).setCell ⟨B, 2, none⟩ (.int .u64 (wd M 2 : Nat))).setCell ⟨B, 3, none⟩ (.int .u64 (wd M 3 : Nat))).setCell ⟨B, 4, none⟩ (.int .u64 (wd M 4 : Nat))) B M :=
  ((((BlkA.set h 0 _).set 1 _).set 2 _).set 3 _).set 4 _
theorem BlkH.other5 {w : World} {B N C : Nat} (h : BlkH w B N) (hne : B ≠ C) (a b c d e : Value) : BlkH (((((w.setCell ⟨C, 0, none⟩ a).setCell ⟨C, 1, none⟩ b).setCell ⟨C, 2, none⟩ c).setCell ⟨C, 3, none⟩ d).setCell ⟨C, 4, none⟩ e) B N :=
  ((((BlkA.other h _ _ hne).other _ _ hne).other _ _ hne).other _ _ hne).other _ _ hne
theorem below_store5 {w0 w : World} {m C : Nat} (h : Below m w0 w) (hC : m ≤ C) (a b c d e : Value) : Below m w0 (((((w.setCell ⟨C, 0, none⟩ a).setCell ⟨C, 1, none⟩ b).setCell ⟨C, 2, none⟩ c).setCell ⟨C, 3, none⟩ d).setCell ⟨C, 4, none⟩ e) :=
  ((((h.setCell hC _).setCell hC _).setCell hC _).setCell hC _).setCell hC _

set_option maxHeartbeats 4000000 in
set_option maxRecDepth 100000 in
/-- A set moved by 'least' to 'most' hours. -/
theorem imoved_any (N least most : Nat) (hN : N < 2 ^ room) (hl : least ≤ 1000) (hm : most ≤ 1000) (w : World) :
    Calls Try.prog 64 #[hv N, .func (.func 65) #[] #[], .int .i16 (least : Int), .int .i16 (most : Int)] w fun e w' => e = .returned (hv (mvK N least (most + 1))) ∧ Below w.heap.size w w' := by
  have HN := Lib.hid hN
  have HG := guard_hours
  have HZ : ∀ (k : Nat) (W : World), (Op.equalIn 10000 92 (hv (latK N k)) (.agg #[.int .u64 0, .int .u64 0, .int .u64 0, .int .u64 0, .int .u64 0])).run Try.prog W = .ok (decide (latK N k = 0)) W := fun k W => by
    rw [← hv_zero]; exact hours_eq 9998 _ 0 (latK_lt hN k) room_pos W
  have HHZ := Lib.hid HZ
  have hb0 : Below w.heap.size w (((w.alloc (.cells (hw N) 92)).alloc (.cells (hw 0) 92)).alloc (.cells (hw 0) 92)) := (((Below.refl _ _).alloc (Nat.le_refl _) _).alloc (by simp) _).alloc (by simp; omega) _
  have BX : BlkH (((w.alloc (.cells (hw N) 92)).alloc (.cells (hw 0) 92)).alloc (.cells (hw 0) 92)) w.heap.size N := ((BlkA.new rfl _ _).alloc _).alloc _
  have BA : BlkH (((w.alloc (.cells (hw N) 92)).alloc (.cells (hw 0) 92)).alloc (.cells (hw 0) 92)) (w.heap.size + 1 + 1) 0 := BlkA.new (by simp) _ _
  have BR : BlkH (((w.alloc (.cells (hw N) 92)).alloc (.cells (hw 0) 92)).alloc (.cells (hw 0) 92)) (w.heap.size + 1) 0 := (BlkA.new (by simp) _ _).alloc _
  clear HZ hN
  go_enter Try.func64, Try.ntmps64
  go_wp2_with fail
  have hz0 : ∀ i, ((wd 0 i : Nat) : Int) = 0 := fun i => by rw [wd_zero]; rfl
  obtain ⟨W1, hW⟩ : ∃ W, (((w.alloc (.cells (hw N) 92)).alloc (.cells (hw 0) 92)).alloc (.cells (hw 0) 92)) = W := ⟨_, rfl⟩
  have hW' : (((w.alloc (.cells #[.int .u64 (wd N 0 : Nat), .int .u64 (wd N 1 : Nat), .int .u64 (wd N 2 : Nat), .int .u64 (wd N 3 : Nat), .int .u64 (wd N 4 : Nat)] 92)).alloc (.cells #[.int .u64 0, .int .u64 0, .int .u64 0, .int .u64 0, .int .u64 0] 92)).alloc (.cells #[.int .u64 0, .int .u64 0, .int .u64 0, .int .u64 0, .int .u64 0] 92)) = W1 := by
    rw [← hW]; unfold hw; simp only [hz0]
  rw [hW] at hb0 BX BA BR
  rw [hW']
  have HB0 := Lib.hid hb0
  have HBX := Lib.hid BX
  have HBA := Lib.hid BA
  have HBR := Lib.hid BR
  clear hW hW' hz0 hb0 BX BA BR
  go_loopw [10] (fun i wr => ∃ k : Nat, k ≤ most + 1 ∧ i = .int .i16 k ∧ BlkH wr w.heap.size (latK N k) ∧ BlkH wr (w.heap.size + 1) 0 ∧ BlkH wr (w.heap.size + 1 + 1) (mvK N least k) ∧ Below w.heap.size w wr) (fun i _ => most + 1 - (intOf i).toNat)
  case atStart => exact ⟨0, Nat.zero_le _, rfl, HBX.out, HBR.out, HBA.out, HB0.out⟩
  case round =>
    obtain ⟨k, hk, rfl, bx, br, ba, hnx⟩ := hrel
    have ax : w.heap.size + 1 + 1 < wr.heap.size := BlkA.lt ba
    have xx : w.heap.size < wr.heap.size := BlkA.lt bx
    have rx : w.heap.size + 1 < wr.heap.size := BlkA.lt br
    have hww : w.heap.size ≤ wr.heap.size := hnx.size
    have hq := HHZ.out k
    have HL1 : Hid (latK N (k + 1) = lat (latK N k)) := Lib.hid rfl
    have HM1 : Hid (mvK N least (k + 1) = if least ≤ k then mvK N least k ||| latK N k else mvK N least k) := Lib.hid rfl
    have HSTOP : Hid (latK N k = 0 → mvK N least (most + 1) = mvK N least k) := Lib.hid (fun h => by
      have := mvK_stop (least := least) h (most + 1 - k)
      rwa [show k + (most + 1 - k) = most + 1 by omega] at this)
    have HEND : Hid (k = most + 1 → mvK N least (most + 1) = mvK N least k) := Lib.hid (fun h => by rw [h])
    obtain ⟨h, hh⟩ : ∃ h, latK N k = h := ⟨_, rfl⟩
    obtain ⟨a, ha⟩ : ∃ a, mvK N least k = a := ⟨_, rfl⟩
    rw [hh] at bx hq HL1 HM1 HSTOP
    rw [ha] at ba HM1 HSTOP HEND
    clear hh ha
    obtain ⟨x0, x1, x2, x3, x4⟩ := bx.cells
    obtain ⟨a0, a1, a2, a3, a4⟩ := ba.cells
    by_cases h0 : h = 0
    · have hq0 : ∀ W, (Op.equalIn 10000 92 (.agg #[.int .u64 (wd h 0 : Nat), .int .u64 (wd h 1 : Nat), .int .u64 (wd h 2 : Nat), .int .u64 (wd h 3 : Nat), .int .u64 (wd h 4 : Nat)]) (.agg #[.int .u64 0, .int .u64 0, .int .u64 0, .int .u64 0, .int .u64 0])).run Try.prog W = .ok true W := fun W => by rw [hq W, decide_eq_true h0]
      have HRES : Hid (mvK N least (most + 1) = a) := Lib.hid (HSTOP.out h0)
      clear hq h0
      by_cases hkm : (k : Int) ≤ (most : Int)
      · have t1 : decide ((k : Int) ≤ (most : Int)) = true := decide_eq_true hkm
        have f0 := BlkA.frozen br 0
        have f1 := BlkA.frozen br 1
        have f2 := BlkA.frozen br 2
        have f3 := BlkA.frozen br 3
        have f4 := BlkA.frozen br 4
        obtain ⟨r0, r1, r2, r3, r4⟩ := br.cells
        have E := (br.store a).cells
        have HE := Lib.hid E
        have HNX := Lib.hid hnx
        clear bx ba br hnx E
        go_wp2_with fail
        obtain ⟨q0, q1, q2, q3, q4⟩ := HE.out
        exact bodyPost_ret (v := hv a) (by simp [results, Try.results64, go_sem, q0, q1, q2, q3, q4]) rfl ⟨by rw [HRES.out], below_store5 HNX.out (by omega) _ _ _ _ _⟩
      · have t1 : decide ((k : Int) ≤ (most : Int)) = false := decide_eq_false hkm
        have f0 := BlkA.frozen br 0
        have f1 := BlkA.frozen br 1
        have f2 := BlkA.frozen br 2
        have f3 := BlkA.frozen br 3
        have f4 := BlkA.frozen br 4
        obtain ⟨r0, r1, r2, r3, r4⟩ := br.cells
        have E := (br.store a).cells
        have HE := Lib.hid E
        have HNX := Lib.hid hnx
        clear bx ba br hnx E
        go_wp2_with fail
        obtain ⟨q0, q1, q2, q3, q4⟩ := HE.out
        exact bodyPost_ret (v := hv a) (by simp [results, Try.results64, go_sem, q0, q1, q2, q3, q4]) rfl ⟨by rw [HRES.out], below_store5 HNX.out (by omega) _ _ _ _ _⟩
    · have hq0 : ∀ W, (Op.equalIn 10000 92 (.agg #[.int .u64 (wd h 0 : Nat), .int .u64 (wd h 1 : Nat), .int .u64 (wd h 2 : Nat), .int .u64 (wd h 3 : Nat), .int .u64 (wd h 4 : Nat)]) (.agg #[.int .u64 0, .int .u64 0, .int .u64 0, .int .u64 0, .int .u64 0])).run Try.prog W = .ok false W := fun W => by rw [hq W, decide_eq_false h0]
      clear hq h0
      by_cases hkm : (k : Int) ≤ (most : Int)
      · have t1 : decide ((k : Int) ≤ (most : Int)) = true := decide_eq_true hkm
        have fx0 := BlkA.frozen bx 0
        have fx1 := BlkA.frozen bx 1
        have fx2 := BlkA.frozen bx 2
        have fx3 := BlkA.frozen bx 3
        have fx4 := BlkA.frozen bx 4
        have fa0 := BlkA.frozen ba 0
        have fa1 := BlkA.frozen ba 1
        have fa2 := BlkA.frozen ba 2
        have fa3 := BlkA.frozen ba 3
        have fa4 := BlkA.frozen ba 4
        have HX := Lib.hid bx
        have HA := Lib.hid ba
        have HR := Lib.hid br
        have HNX := Lib.hid hnx
        clear bx ba br hnx
        by_cases hlk : least ≤ k
        · have t2 : decide ((least : Int) ≤ (k : Int)) = true := decide_eq_true (by omega)
          have HM2 : Hid (mvK N least (k + 1) = a ||| h) := Lib.hid (by rw [HM1.out, if_pos hlk])
          go_wp2_with fail
          refine (ior_any a h _).mono ?_
          rintro e w2 ⟨rfl, b2⟩
          have HX := Lib.hid (show BlkH w2 w.heap.size h from BlkA.below HX.out b2)
          have HA := Lib.hid (show BlkH w2 (w.heap.size + 1 + 1) a from BlkA.below HA.out b2)
          have HR := Lib.hid (show BlkH w2 (w.heap.size + 1) 0 from BlkA.below HR.out b2)
          have HNX := Lib.hid (HNX.out.trans (b2.mono HNX.out.size))
          clear x0 x1 x2 x3 x4 a0 a1 a2 a3 a4 fx0 fx1 fx2 fx3 fx4 fa0 fa1 fa2 fa3 fa4 ax xx rx
          clear b2
          obtain ⟨x0, x1, x2, x3, x4⟩ := HX.out.cells
          obtain ⟨a0, a1, a2, a3, a4⟩ := HA.out.cells
          have fx0 := BlkA.frozen HX.out 0
          have fa0 := BlkA.frozen HA.out 0
          have fx1 := BlkA.frozen HX.out 1
          have fa1 := BlkA.frozen HA.out 1
          have fx2 := BlkA.frozen HX.out 2
          have fa2 := BlkA.frozen HA.out 2
          have fx3 := BlkA.frozen HX.out 3
          have fa3 := BlkA.frozen HA.out 3
          have fx4 := BlkA.frozen HX.out 4
          have fa4 := BlkA.frozen HA.out 4
          have ax : w.heap.size + 1 + 1 < w2.heap.size := BlkA.lt HA.out
          have xx : w.heap.size < w2.heap.size := BlkA.lt HX.out
          have rx : w.heap.size + 1 < w2.heap.size := BlkA.lt HR.out
          go_wp2_with fail
          obtain ⟨w3, hw3⟩ : ∃ W, (((((w2.setCell ⟨w.heap.size + 1 + 1, 0, none⟩ (.int .u64 (wd (a ||| h) 0 : Nat))).setCell ⟨w.heap.size + 1 + 1, 1, none⟩ (.int .u64 (wd (a ||| h) 1 : Nat))).setCell ⟨w.heap.size + 1 + 1, 2, none⟩ (.int .u64 (wd (a ||| h) 2 : Nat))).setCell ⟨w.heap.size + 1 + 1, 3, none⟩ (.int .u64 (wd (a ||| h) 3 : Nat))).setCell ⟨w.heap.size + 1 + 1, 4, none⟩ (.int .u64 (wd (a ||| h) 4 : Nat))) = W := ⟨_, rfl⟩
          have HX : Hid (BlkH w3 w.heap.size h) := Lib.hid (by rw [← hw3]; exact HX.out.other5 (by omega) _ _ _ _ _)
          have HA : Hid (BlkH w3 (w.heap.size + 1 + 1) (a ||| h)) := Lib.hid (by rw [← hw3]; exact HA.out.store (a ||| h))
          have HR : Hid (BlkH w3 (w.heap.size + 1) 0) := Lib.hid (by rw [← hw3]; exact HR.out.other5 (by omega) _ _ _ _ _)
          have HNX : Hid (Below w.heap.size w w3) := Lib.hid (by rw [← hw3]; exact below_store5 HNX.out (by omega) _ _ _ _ _)
          rw [hw3]
          clear hw3
          refine (ilater_any h _).mono ?_
          rintro e w5 ⟨rfl, b5⟩
          have HX := Lib.hid (show BlkH w5 w.heap.size h from BlkA.below HX.out b5)
          have HA := Lib.hid (show BlkH w5 (w.heap.size + 1 + 1) (a ||| h) from BlkA.below HA.out b5)
          have HR := Lib.hid (show BlkH w5 (w.heap.size + 1) 0 from BlkA.below HR.out b5)
          have HNX := Lib.hid (HNX.out.trans (b5.mono HNX.out.size))
          clear x0 x1 x2 x3 x4 a0 a1 a2 a3 a4 fx0 fx1 fx2 fx3 fx4 fa0 fa1 fa2 fa3 fa4 ax xx rx
          clear b5
          obtain ⟨x0, x1, x2, x3, x4⟩ := HX.out.cells
          obtain ⟨a0, a1, a2, a3, a4⟩ := HA.out.cells
          have fx0 := BlkA.frozen HX.out 0
          have fa0 := BlkA.frozen HA.out 0
          have fx1 := BlkA.frozen HX.out 1
          have fa1 := BlkA.frozen HA.out 1
          have fx2 := BlkA.frozen HX.out 2
          have fa2 := BlkA.frozen HA.out 2
          have fx3 := BlkA.frozen HX.out 3
          have fa3 := BlkA.frozen HA.out 3
          have fx4 := BlkA.frozen HX.out 4
          have fa4 := BlkA.frozen HA.out 4
          have ax : w.heap.size + 1 + 1 < w5.heap.size := BlkA.lt HA.out
          have xx : w.heap.size < w5.heap.size := BlkA.lt HX.out
          have rx : w.heap.size + 1 < w5.heap.size := BlkA.lt HR.out
          have HX2 := Lib.hid (HX.out.store (lat h))
          have HA2 := Lib.hid (HA.out.other5 (C := w.heap.size) (by omega) (.int .u64 (wd (lat h) 0 : Nat)) (.int .u64 (wd (lat h) 1 : Nat)) (.int .u64 (wd (lat h) 2 : Nat)) (.int .u64 (wd (lat h) 3 : Nat)) (.int .u64 (wd (lat h) 4 : Nat)))
          have HR2 := Lib.hid (HR.out.other5 (C := w.heap.size) (by omega) (.int .u64 (wd (lat h) 0 : Nat)) (.int .u64 (wd (lat h) 1 : Nat)) (.int .u64 (wd (lat h) 2 : Nat)) (.int .u64 (wd (lat h) 3 : Nat)) (.int .u64 (wd (lat h) 4 : Nat)))
          have HN2 := Lib.hid (below_store5 HNX.out (Nat.le_refl w.heap.size) (.int .u64 (wd (lat h) 0 : Nat)) (.int .u64 (wd (lat h) 1 : Nat)) (.int .u64 (wd (lat h) 2 : Nat)) (.int .u64 (wd (lat h) 3 : Nat)) (.int .u64 (wd (lat h) 4 : Nat)))
          go_wp2_with fail
          go_roundw
          case rel => exact ⟨k + 1, by omega, by go_num, by rw [HL1.out]; exact HX2.out, HR2.out, by rw [HM2.out]; exact HA2.out, HN2.out⟩
          case measure => simp [intOf]; omega
        · have t2 : decide ((least : Int) ≤ (k : Int)) = false := decide_eq_false (by omega)
          have HM2 : Hid (mvK N least (k + 1) = a) := Lib.hid (by rw [HM1.out, if_neg hlk])
          go_wp2_with fail
          refine (ilater_any h _).mono ?_
          rintro e w5 ⟨rfl, b5⟩
          have HX := Lib.hid (show BlkH w5 w.heap.size h from BlkA.below HX.out b5)
          have HA := Lib.hid (show BlkH w5 (w.heap.size + 1 + 1) a from BlkA.below HA.out b5)
          have HR := Lib.hid (show BlkH w5 (w.heap.size + 1) 0 from BlkA.below HR.out b5)
          have HNX := Lib.hid (HNX.out.trans (b5.mono HNX.out.size))
          clear x0 x1 x2 x3 x4 a0 a1 a2 a3 a4 fx0 fx1 fx2 fx3 fx4 fa0 fa1 fa2 fa3 fa4 ax xx rx
          clear b5
          obtain ⟨x0, x1, x2, x3, x4⟩ := HX.out.cells
          obtain ⟨a0, a1, a2, a3, a4⟩ := HA.out.cells
          have fx0 := BlkA.frozen HX.out 0
          have fa0 := BlkA.frozen HA.out 0
          have fx1 := BlkA.frozen HX.out 1
          have fa1 := BlkA.frozen HA.out 1
          have fx2 := BlkA.frozen HX.out 2
          have fa2 := BlkA.frozen HA.out 2
          have fx3 := BlkA.frozen HX.out 3
          have fa3 := BlkA.frozen HA.out 3
          have fx4 := BlkA.frozen HX.out 4
          have fa4 := BlkA.frozen HA.out 4
          have ax : w.heap.size + 1 + 1 < w5.heap.size := BlkA.lt HA.out
          have xx : w.heap.size < w5.heap.size := BlkA.lt HX.out
          have rx : w.heap.size + 1 < w5.heap.size := BlkA.lt HR.out
          have HX2 := Lib.hid (HX.out.store (lat h))
          have HA2 := Lib.hid (HA.out.other5 (C := w.heap.size) (by omega) (.int .u64 (wd (lat h) 0 : Nat)) (.int .u64 (wd (lat h) 1 : Nat)) (.int .u64 (wd (lat h) 2 : Nat)) (.int .u64 (wd (lat h) 3 : Nat)) (.int .u64 (wd (lat h) 4 : Nat)))
          have HR2 := Lib.hid (HR.out.other5 (C := w.heap.size) (by omega) (.int .u64 (wd (lat h) 0 : Nat)) (.int .u64 (wd (lat h) 1 : Nat)) (.int .u64 (wd (lat h) 2 : Nat)) (.int .u64 (wd (lat h) 3 : Nat)) (.int .u64 (wd (lat h) 4 : Nat)))
          have HN2 := Lib.hid (below_store5 HNX.out (Nat.le_refl w.heap.size) (.int .u64 (wd (lat h) 0 : Nat)) (.int .u64 (wd (lat h) 1 : Nat)) (.int .u64 (wd (lat h) 2 : Nat)) (.int .u64 (wd (lat h) 3 : Nat)) (.int .u64 (wd (lat h) 4 : Nat)))
          go_wp2_with fail
          go_roundw
          case rel => exact ⟨k + 1, by omega, by go_num, by rw [HL1.out]; exact HX2.out, HR2.out, by rw [HM2.out]; exact HA2.out, HN2.out⟩
          case measure => simp [intOf]; omega
      · have t1 : decide ((k : Int) ≤ (most : Int)) = false := decide_eq_false hkm
        have HRES : Hid (mvK N least (most + 1) = a) := Lib.hid (HEND.out (by omega))
        have f0 := BlkA.frozen br 0
        have f1 := BlkA.frozen br 1
        have f2 := BlkA.frozen br 2
        have f3 := BlkA.frozen br 3
        have f4 := BlkA.frozen br 4
        obtain ⟨r0, r1, r2, r3, r4⟩ := br.cells
        have E := (br.store a).cells
        have HE := Lib.hid E
        have HNX := Lib.hid hnx
        clear bx ba br hnx E
        go_wp2_with fail
        obtain ⟨q0, q1, q2, q3, q4⟩ := HE.out
        exact bodyPost_ret (v := hv a) (by simp [results, Try.results64, go_sem, q0, q1, q2, q3, q4]) rfl ⟨by rw [HRES.out], below_store5 HNX.out (by omega) _ _ _ _ _⟩
end Go.Proofs.Ytamnojhkfknnoaa
