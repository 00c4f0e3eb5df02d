/-
  errors.As at an interface target (the program's refusal), by contracts: a nil error (false; nothing turns), and each of the program's errors (true; the target holds it).
-/
import Derived.Test.YtgimpmdiilmkoaaDoorIn
import Derived.WalkKit
import Derived.LaidEql
import Derived.Stop.Asserts
import Derived.RowKitTokens
namespace Go.Proofs.YtgimpmdiilmkoaaDoor
open Go Go.RowKit Go.Extern.Stop Go.Stop Go.Extern
set_option linter.unusedVariables false

theorem as_nil (t : Value) (w : World) : Calls Tryd.prog 92 #[.nilIface, t] w fun e w' => e = .returned (.bool false) ∧ w' = w := by
  go_enter Tryd.func92, Tryd.ntmps92
  go_wp2
  go_ret
  exact ⟨rfl, rfl⟩
theorem as_rlm (z : Sem Value) (f : TypeId → Addr → Nat → Nat → Sem Value) (v : Value) :
    ReflectliteValue.method z f #[v] = (do match ← ReflectliteValue.parts v with | none => z | some (t, a, fl) => f t a fl (fl % 32)) := rfl
theorem as_valueOf (t : Addr) (w : World) : (ReflectliteValue.unpack (.iface 134 (.pointer (some t)))).run Tryd.prog w
    = .ok (.agg #[.pointer (some ⟨1, 134, none⟩), .pointer (some ⟨w.heap.size, 0, none⟩), .int .u64 150]) (w.alloc (.cells #[.pointer (some t)] 134)) := by kernel_rfl
theorem as_type (a : Addr) (w : World) : (ReflectliteValue.methodAny (ReflectliteValue.valueError "reflectlite.Value.Type" 0) (fun t _ _ _ => ReflectliteType.toType t) #[.agg #[.pointer (some ⟨1, 134, none⟩), .pointer (some a), .int .u64 150]]).run Tryd.prog w
    = .ok (.iface 183 (.agg #[.pointer (some ⟨1, 134, none⟩)])) w := by kernel_rfl
theorem as_mKind (h : Value) (w : World) : (Go.method 353 183 (.agg #[h]) "Kind").run Tryd.prog w = .ok (168, h) w := by kernel_rfl
theorem as_mElem (h : Value) (w : World) : (Go.method 353 183 (.agg #[h]) "Elem").run Tryd.prog w = .ok (187, .agg #[h]) w := by kernel_rfl
theorem as_mAssign (h : Value) (w : World) : (Go.method 353 183 (.agg #[h]) "AssignableTo").run Tryd.prog w = .ok (185, .agg #[h]) w := by kernel_rfl
theorem as_kindP (w : World) : ((ReflectliteType.abiMethod fun t => (fun a : Nat => Value.int IntKind.u8 (a : Int)) <$> Rtype.kind t) #[.pointer (some ⟨1, 134, none⟩)]).run Tryd.prog w = .ok (.int .u8 22) w := by kernel_rfl
theorem as_kindE (w : World) : ((ReflectliteType.abiMethod fun t => (fun a : Nat => Value.int IntKind.u8 (a : Int)) <$> Rtype.kind t) #[.pointer (some ⟨1, 132, none⟩)]).run Tryd.prog w = .ok (.int .u8 20) w := by kernel_rfl
theorem as_parts (a : Addr) (w : World) : (ReflectliteValue.parts (.agg #[.pointer (some ⟨1, 134, none⟩), .pointer (some a), .int .u64 150])).run Tryd.prog w = .ok (some (134, a, 150)) w := by kernel_rfl
theorem as_isNil (a p : Addr) (W : World) (ha : W.cell? a = some (.pointer (some p))) :
    (ReflectliteValue.method (ReflectliteValue.valueError "reflectlite.Value.IsNil" 0) ReflectliteValue.isNil #[.agg #[.pointer (some ⟨1, 134, none⟩), .pointer (some a), .int .u64 150]]).run Tryd.prog W = .ok (.bool false) W := by
  rw [as_rlm]
  simp only [Sem.run_bind, as_parts, Result.andThen]
  simp [ReflectliteValue.isNil, loadVar, isAgg, underlying, Tryd.underlying134, ha, Result.andThen]
theorem as_elem (w : World) : (ReflectliteType.method ReflectliteType.elem #[.agg #[.pointer (some ⟨1, 134, none⟩)]]).run Tryd.prog w = .ok (.iface 183 (.agg #[.pointer (some ⟨1, 132, none⟩)])) w := by kernel_rfl
theorem as_elemOf (w : World) : (Rtype.elem? 134).run Tryd.prog w = .ok (some 132) w := by kernel_rfl
theorem as_mk (p : Addr) (w : World) : (ReflectliteValue.mk 132 p ReflectliteValue.flagAddr).run Tryd.prog w = .ok (.agg #[.pointer (some ⟨1, 132, none⟩), .pointer (some p), .int .u64 404]) w := by kernel_rfl
theorem as_elemV (a p : Addr) (W : World) (ha : W.cell? a = some (.pointer (some p))) :
    (ReflectliteValue.method (ReflectliteValue.valueError "reflectlite.Value.Elem" 0) ReflectliteValue.elem #[.agg #[.pointer (some ⟨1, 134, none⟩), .pointer (some a), .int .u64 150]]).run Tryd.prog W
      = .ok (.agg #[.pointer (some ⟨1, 132, none⟩), .pointer (some p), .int .u64 404]) W := by
  rw [as_rlm]
  simp only [Sem.run_bind, as_parts, Result.andThen]
  simp [ReflectliteValue.elem, loadVar, isAgg, underlying, Tryd.underlying134, ha, Result.andThen, as_elemOf, as_mk]
theorem as_rls (v x : Value) : ReflectliteValue.set #[v, x] = (do
    let (some (dst, a, fl), some (src, b, _)) := (← ReflectliteValue.parts v, ← ReflectliteValue.parts x)
      | unsupported (.noEntry "extern/(internal/reflectlite.Value).Set.zeroValue")
    if fl / ReflectliteValue.flagAddr % 2 == 0 then unsupported (.noEntry "extern/(internal/reflectlite.Value).Set.unaddressable")
    let val ← loadVar src b
    if ← Rtype.directlyAssignable dst src then storeVar dst a val
    else if ← Rtype.implements dst src then
      if (← Rtype.kind src) == 20 then
        match val with
        | .nilIface => unsupported (.noEntry "extern/reflectlite: a nil value of one interface type handed on as a value of another")
        | _ => storeVar dst a val
      else storeVar dst a (.iface src val)
    else panicString ("reflectlite.Set: value of type " ++ (← Rtype.spelt src) ++ " is not assignable to type " ++ (← Rtype.spelt dst))
    pure (.tuple #[])) := rfl
theorem as_partsE (a : Addr) (w : World) : (ReflectliteValue.parts (.agg #[.pointer (some ⟨1, 132, none⟩), .pointer (some a), .int .u64 404])).run Tryd.prog w = .ok (some (132, a, 404)) w := by kernel_rfl


/-! ### 128 -/
theorem as_typeOfA (v : Value) (w : World) : (ReflectliteType.typeOf #[.iface 128 v]).run Tryd.prog w = .ok (.iface 183 (.agg #[.pointer (some ⟨1, 128, none⟩)])) w := by kernel_rfl
theorem as_fitsA (w : World) : (ReflectliteType.relation "AssignableTo" ReflectliteType.assignableTo #[.agg #[.pointer (some ⟨1, 128, none⟩)], .iface 183 (.agg #[.pointer (some ⟨1, 132, none⟩)])]).run Tryd.prog w = .ok (.bool true) w := by kernel_rfl
theorem as_valueOfA (w : World) : (ReflectliteValue.unpack (.iface 128 (.agg #[]))).run Tryd.prog w
    = .ok (.agg #[.pointer (some ⟨1, 128, none⟩), .pointer (some ⟨w.heap.size, 0, none⟩), .int .u64 153]) (w.alloc (.cells #[] 128)) := by kernel_rfl
theorem as_partsA (b : Addr) (w : World) : (ReflectliteValue.parts (.agg #[.pointer (some ⟨1, 128, none⟩), .pointer (some b), .int .u64 153])).run Tryd.prog w = .ok (some (128, b, 153)) w := by kernel_rfl
theorem as_directA (w : World) : (Rtype.directlyAssignable 132 128).run Tryd.prog w = .ok false w := by kernel_rfl
theorem as_implA (w : World) : (Rtype.implements 132 128).run Tryd.prog w = .ok true w := by kernel_rfl
theorem as_kindA (w : World) : (Rtype.kind 128).run Tryd.prog w = .ok 25 w := by kernel_rfl
theorem as_loadA (b : Addr) (w : World) : (loadVar 128 b).run Tryd.prog w = .ok (.agg #[]) w := by kernel_rfl
theorem as_setA (ta b : Addr) (old : Value) (W : World) (ht : W.cell? ta = some old) (hf : W.frozen? ta = false) :
    (ReflectliteValue.set #[.agg #[.pointer (some ⟨1, 132, none⟩), .pointer (some ta), .int .u64 404], .agg #[.pointer (some ⟨1, 128, none⟩), .pointer (some b), .int .u64 153]]).run Tryd.prog W = .ok (.tuple #[]) (W.setCell ta (.iface 128 (.agg #[]))) := by
  rw [as_rls]
  simp only [Sem.run_bind, as_partsE, as_partsA, Result.andThen]
  simp [ReflectliteValue.flagAddr, as_loadA, Result.andThen, as_directA, as_implA, as_kindA, storeVar, Value.cells, storeCells, Addr.add]
  rw [run_store Tryd.prog W ta _ _ (by rfl)]
  simp [ht, hf]
theorem as_mRefA (w : World) : (Go.method 353 128 (.agg #[]) "loop.example/g01366/impl.refusedWith").run Tryd.prog w = .ok (177, .agg #[]) w := by kernel_rfl
theorem refusedA (w : World) : Calls Tryd.prog 177 #[.agg #[]] w fun e w' => e = .returned (.int .i64 1) ∧ Below w.heap.size w w' := by
  go_enter Tryd.func177, Tryd.ntmps177
  go_wp2
  go_ret
  exact ⟨rfl, by repeat (first | exact Below.refl _ _ | refine Below.alloc ?_ (by first | (simp; done) | (simp; omega) | omega) _)⟩


/-! ### 90 -/
theorem as_typeOfB (v : Value) (w : World) : (ReflectliteType.typeOf #[.iface 90 v]).run Tryd.prog w = .ok (.iface 183 (.agg #[.pointer (some ⟨1, 90, none⟩)])) w := by kernel_rfl
theorem as_fitsB (w : World) : (ReflectliteType.relation "AssignableTo" ReflectliteType.assignableTo #[.agg #[.pointer (some ⟨1, 90, none⟩)], .iface 183 (.agg #[.pointer (some ⟨1, 132, none⟩)])]).run Tryd.prog w = .ok (.bool true) w := by kernel_rfl
theorem as_valueOfB (w : World) : (ReflectliteValue.unpack (.iface 90 (.agg #[]))).run Tryd.prog w
    = .ok (.agg #[.pointer (some ⟨1, 90, none⟩), .pointer (some ⟨w.heap.size, 0, none⟩), .int .u64 153]) (w.alloc (.cells #[] 90)) := by kernel_rfl
theorem as_partsB (b : Addr) (w : World) : (ReflectliteValue.parts (.agg #[.pointer (some ⟨1, 90, none⟩), .pointer (some b), .int .u64 153])).run Tryd.prog w = .ok (some (90, b, 153)) w := by kernel_rfl
theorem as_directB (w : World) : (Rtype.directlyAssignable 132 90).run Tryd.prog w = .ok false w := by kernel_rfl
theorem as_implB (w : World) : (Rtype.implements 132 90).run Tryd.prog w = .ok true w := by kernel_rfl
theorem as_kindB (w : World) : (Rtype.kind 90).run Tryd.prog w = .ok 25 w := by kernel_rfl
theorem as_loadB (b : Addr) (w : World) : (loadVar 90 b).run Tryd.prog w = .ok (.agg #[]) w := by kernel_rfl
theorem as_setB (ta b : Addr) (old : Value) (W : World) (ht : W.cell? ta = some old) (hf : W.frozen? ta = false) :
    (ReflectliteValue.set #[.agg #[.pointer (some ⟨1, 132, none⟩), .pointer (some ta), .int .u64 404], .agg #[.pointer (some ⟨1, 90, none⟩), .pointer (some b), .int .u64 153]]).run Tryd.prog W = .ok (.tuple #[]) (W.setCell ta (.iface 90 (.agg #[]))) := by
  rw [as_rls]
  simp only [Sem.run_bind, as_partsE, as_partsB, Result.andThen]
  simp [ReflectliteValue.flagAddr, as_loadB, Result.andThen, as_directB, as_implB, as_kindB, storeVar, Value.cells, storeCells, Addr.add]
  rw [run_store Tryd.prog W ta _ _ (by rfl)]
  simp [ht, hf]
theorem as_mRefB (w : World) : (Go.method 353 90 (.agg #[]) "loop.example/g01366/impl.refusedWith").run Tryd.prog w = .ok (173, .agg #[]) w := by kernel_rfl
theorem refusedB (w : World) : Calls Tryd.prog 173 #[.agg #[]] w fun e w' => e = .returned (.int .i64 2) ∧ Below w.heap.size w w' := by
  go_enter Tryd.func173, Tryd.ntmps173
  go_wp2
  go_ret
  exact ⟨rfl, by repeat (first | exact Below.refl _ _ | refine Below.alloc ?_ (by first | (simp; done) | (simp; omega) | omega) _)⟩


/-! ### 118 -/
theorem as_typeOfC (v : Value) (w : World) : (ReflectliteType.typeOf #[.iface 118 v]).run Tryd.prog w = .ok (.iface 183 (.agg #[.pointer (some ⟨1, 118, none⟩)])) w := by kernel_rfl
theorem as_fitsC (w : World) : (ReflectliteType.relation "AssignableTo" ReflectliteType.assignableTo #[.agg #[.pointer (some ⟨1, 118, none⟩)], .iface 183 (.agg #[.pointer (some ⟨1, 132, none⟩)])]).run Tryd.prog w = .ok (.bool true) w := by kernel_rfl
theorem as_valueOfC (w : World) : (ReflectliteValue.unpack (.iface 118 (.agg #[]))).run Tryd.prog w
    = .ok (.agg #[.pointer (some ⟨1, 118, none⟩), .pointer (some ⟨w.heap.size, 0, none⟩), .int .u64 153]) (w.alloc (.cells #[] 118)) := by kernel_rfl
theorem as_partsC (b : Addr) (w : World) : (ReflectliteValue.parts (.agg #[.pointer (some ⟨1, 118, none⟩), .pointer (some b), .int .u64 153])).run Tryd.prog w = .ok (some (118, b, 153)) w := by kernel_rfl
theorem as_directC (w : World) : (Rtype.directlyAssignable 132 118).run Tryd.prog w = .ok false w := by kernel_rfl
theorem as_implC (w : World) : (Rtype.implements 132 118).run Tryd.prog w = .ok true w := by kernel_rfl
theorem as_kindC (w : World) : (Rtype.kind 118).run Tryd.prog w = .ok 25 w := by kernel_rfl
theorem as_loadC (b : Addr) (w : World) : (loadVar 118 b).run Tryd.prog w = .ok (.agg #[]) w := by kernel_rfl
theorem as_setC (ta b : Addr) (old : Value) (W : World) (ht : W.cell? ta = some old) (hf : W.frozen? ta = false) :
    (ReflectliteValue.set #[.agg #[.pointer (some ⟨1, 132, none⟩), .pointer (some ta), .int .u64 404], .agg #[.pointer (some ⟨1, 118, none⟩), .pointer (some b), .int .u64 153]]).run Tryd.prog W = .ok (.tuple #[]) (W.setCell ta (.iface 118 (.agg #[]))) := by
  rw [as_rls]
  simp only [Sem.run_bind, as_partsE, as_partsC, Result.andThen]
  simp [ReflectliteValue.flagAddr, as_loadC, Result.andThen, as_directC, as_implC, as_kindC, storeVar, Value.cells, storeCells, Addr.add]
  rw [run_store Tryd.prog W ta _ _ (by rfl)]
  simp [ht, hf]
theorem as_mRefC (w : World) : (Go.method 353 118 (.agg #[]) "loop.example/g01366/impl.refusedWith").run Tryd.prog w = .ok (175, .agg #[]) w := by kernel_rfl
theorem refusedC (w : World) : Calls Tryd.prog 175 #[.agg #[]] w fun e w' => e = .returned (.int .i64 3) ∧ Below w.heap.size w w' := by
  go_enter Tryd.func175, Tryd.ntmps175
  go_wp2
  go_ret
  exact ⟨rfl, by repeat (first | exact Below.refl _ _ | refine Below.alloc ?_ (by first | (simp; done) | (simp; omega) | omega) _)⟩

end Go.Proofs.YtgimpmdiilmkoaaDoor