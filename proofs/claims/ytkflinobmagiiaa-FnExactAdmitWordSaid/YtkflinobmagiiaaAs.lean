/-
  errors.As at a target of the program's own error type: after the kit's worked example (Toyas).
-/
import Derived.Test.YtkflinobmagiiaaProg
import Derived.WalkKit
import Derived.LaidEql
import Derived.Stop.Asserts
import Derived.RowKitTokens
import Derived.Below
import Derived.Lib.Hide
import Derived.WalkSpells
import Derived.WalkLawsBesides
namespace Go.Proofs.Ytkflinobmagiiaa
open Go.RowKit Go.Extern.Stop Go.Stop Go.Extern
set_option linter.unusedVariables false
set_option linter.unusedSimpArgs false

theorem as_kind0 (w : World) : ((ReflectliteType.abiMethod fun t => (fun a : Nat => Value.int IntKind.u8 (a : Int)) <$> Rtype.kind t) #[.pointer (some ⟨0, 145, none⟩)]).run Try.prog w = .ok (.int .u8 25) w := by kernel_rfl
theorem as_rlm (z : Sem Value) (f : TypeId → Addr → Nat → Nat → Sem Value) (v : Value) :
    ReflectliteValue.method z f #[v] = (do match ← ReflectliteValue.parts v with | none => z | some (t, a, fl) => f t a fl (fl % 32)) := rfl
theorem as_valueOf0 (n : Int) (w : World) : (ReflectliteValue.unpack (.iface 145 (.agg #[.int .i64 n]))).run Try.prog w
    = .ok (.agg #[.pointer (some ⟨0, 145, none⟩), .pointer (some ⟨w.heap.size, 0, none⟩), .int .u64 153]) (w.alloc (.cells #[.int .i64 n] 145)) := by kernel_rfl
theorem as_mk0 (p : Addr) (w : World) : (ReflectliteValue.mk 145 p ReflectliteValue.flagAddr).run Try.prog w = .ok (.agg #[.pointer (some ⟨0, 145, none⟩), .pointer (some p), .int .u64 409]) w := by kernel_rfl
theorem as_rls (v x : Value) : ReflectliteValue.set #[v, x] = (do
    let (some (dst, a, fl), some (src, b, _)) := (← ReflectliteValue.parts v, ← ReflectliteValue.parts x)
      | unsupported (.noEntry "extern/(internal/reflectlite.Value).Set.zeroValue")
    if fl / ReflectliteValue.flagAddr % 2 == 0 then unsupported (.noEntry "extern/(internal/reflectlite.Value).Set.unaddressable")
    let val ← loadVar src b
    if ← Rtype.directlyAssignable dst src then storeVar dst a val
    else if ← Rtype.implements dst src then
      if (← Rtype.kind src) == 20 then
        match val with
        | .nilIface => unsupported (.noEntry "extern/reflectlite: a nil value of one interface type handed on as a value of another")
        | _ => storeVar dst a val
      else storeVar dst a (.iface src val)
    else panicString ("reflectlite.Set: value of type " ++ (← Rtype.spelt src) ++ " is not assignable to type " ++ (← Rtype.spelt dst))
    pure (.tuple #[])) := rfl
theorem as_parts0a (a : Addr) (w : World) : (ReflectliteValue.parts (.agg #[.pointer (some ⟨0, 145, none⟩), .pointer (some a), .int .u64 409])).run Try.prog w = .ok (some (145, a, 409)) w := by kernel_rfl
theorem as_parts0 (a : Addr) (w : World) : (ReflectliteValue.parts (.agg #[.pointer (some ⟨0, 145, none⟩), .pointer (some a), .int .u64 153])).run Try.prog w = .ok (some (145, a, 153)) w := by kernel_rfl
theorem as_direct (w : World) : (Rtype.directlyAssignable 145 145).run Try.prog w = .ok true w := by kernel_rfl
theorem as_size (w : World) : (sizeOf 145).run Try.prog w = .ok 1 w := by kernel_rfl
theorem as_agg (w : World) : (isAgg 145).run Try.prog w = .ok true w := by kernel_rfl
theorem as_load0 (b : Addr) (n : Int) (W : World) (hb : W.cell? b = some (.int .i64 n)) : (loadVar 145 b).run Try.prog W = .ok (.agg #[.int .i64 n]) W := by
  have h0 : W.cell? (b.add 0) = some (.int .i64 n) := by simpa [Addr.add] using hb
  simp [loadVar, as_agg, as_size, Result.andThen, loadCells, loadCellsFrom, h0]
theorem as_set (ta b : Addr) (n : Int) (old : Value) (W : World) (hb : W.cell? b = some (.int .i64 n)) (ht : W.cell? ta = some old) (hf : W.frozen? ta = false) :
    (ReflectliteValue.set #[.agg #[.pointer (some ⟨0, 145, none⟩), .pointer (some ta), .int .u64 409], .agg #[.pointer (some ⟨0, 145, none⟩), .pointer (some b), .int .u64 153]]).run Try.prog W
      = .ok (.tuple #[]) (W.setCell ta (.int .i64 n)) := by
  rw [as_rls]
  simp only [Sem.run_bind, as_parts0a, as_parts0, Result.andThen]
  simp [ReflectliteValue.flagAddr, as_load0 b n W hb, Result.andThen, as_direct, storeVar, Value.cells, as_size, storeCells, Addr.add]
  rw [run_store Try.prog W ta _ _ (by rfl)]
  simp [ht, hf]

end Go.Proofs.Ytkflinobmagiiaa
