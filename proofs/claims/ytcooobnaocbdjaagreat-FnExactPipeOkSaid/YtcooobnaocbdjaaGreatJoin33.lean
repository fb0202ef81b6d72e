/-
  What a type switch sees of an operation.
-/
import Derived.Test.YtcooobnaocbdjaaGreatJoin4
import Derived.Stop.Asserts
import Derived.Stop.IfaceNil
namespace Go.Proofs.YtcooobnaocbdjaaGreat
open Go.RowKit
set_option linter.unusedVariables false

section
variable {P : Program} {t t' xT : TypeId} {v z : Value}
theorem assert_same {fs} (hu : P.underlying t = some (.struct fs)) (w : World) : (Instr.typeAssert (.iface t v) xT t true).run P w = .ok (.tuple #[v, .bool true]) w := by
  simp [Instr.typeAssert, run_underlying hu, go_sem, Result.andThen]
theorem assert_other {fs} (hu : P.underlying t = some (.struct fs)) (hz : (P.info? t).map (·.zero) = some (some z)) (hne : t' ≠ t) (w : World) : (Instr.typeAssert (.iface t' v) xT t true).run P w = .ok (.tuple #[z, .bool false]) w := by
  obtain ⟨j, hj, hz'⟩ := Option.map_eq_some_iff.1 hz
  simp [Instr.typeAssert, run_underlying hu, go_sem, Result.andThen, zeroValue, typeInfo, hj, hz', hne]
theorem assert_nil {fs} (hu : P.underlying t = some (.struct fs)) (hz : (P.info? t).map (·.zero) = some (some z)) (w : World) : (Instr.typeAssert .nilIface xT t true).run P w = .ok (.tuple #[z, .bool false]) w := by
  obtain ⟨j, hj, hz'⟩ := Option.map_eq_some_iff.1 hz
  simp [Instr.typeAssert, run_underlying hu, go_sem, Result.andThen, zeroValue, typeInfo, hj, hz']
end
theorem zeroDense : (Tryz.prog.info? 236).map (·.zero) = some (some (.agg #[.int .i64 0, .int .i64 0, .slice none 0 0])) := by kernel_rfl
theorem zeroRes : (Tryz.prog.info? 240).map (·.zero) = some (some (.agg #[.int .i64 0, .int .i64 0, .slice none 0 0])) := by kernel_rfl
theorem zeroBias : (Tryz.prog.info? 242).map (·.zero) = some (some (.agg #[.slice none 0 0])) := by kernel_rfl
theorem zeroScale : (Tryz.prog.info? 243).map (·.zero) = some (some (.agg #[.slice none 0 0])) := by kernel_rfl
section
variable (v : Value) (w : World)
theorem asDense_Dense : (Instr.typeAssert (.iface 236 v) 231 236 true).run Tryz.prog w = .ok (.tuple #[v, .bool true]) w := assert_same Tryz.underlying236 w
theorem asDense_Bias : (Instr.typeAssert (.iface 242 v) 231 236 true).run Tryz.prog w = .ok (.tuple #[.agg #[.int .i64 0, .int .i64 0, .slice none 0 0], .bool false]) w := assert_other Tryz.underlying236 zeroDense (by decide) w
theorem asDense_Relu : (Instr.typeAssert (.iface 245 v) 231 236 true).run Tryz.prog w = .ok (.tuple #[.agg #[.int .i64 0, .int .i64 0, .slice none 0 0], .bool false]) w := assert_other Tryz.underlying236 zeroDense (by decide) w
theorem asDense_Scale : (Instr.typeAssert (.iface 243 v) 231 236 true).run Tryz.prog w = .ok (.tuple #[.agg #[.int .i64 0, .int .i64 0, .slice none 0 0], .bool false]) w := assert_other Tryz.underlying236 zeroDense (by decide) w
theorem asDense_Res : (Instr.typeAssert (.iface 240 v) 231 236 true).run Tryz.prog w = .ok (.tuple #[.agg #[.int .i64 0, .int .i64 0, .slice none 0 0], .bool false]) w := assert_other Tryz.underlying236 zeroDense (by decide) w
theorem asDense_nil : (Instr.typeAssert .nilIface 231 236 true).run Tryz.prog w = .ok (.tuple #[.agg #[.int .i64 0, .int .i64 0, .slice none 0 0], .bool false]) w := assert_nil Tryz.underlying236 zeroDense w
theorem asRes_Dense : (Instr.typeAssert (.iface 236 v) 231 240 true).run Tryz.prog w = .ok (.tuple #[.agg #[.int .i64 0, .int .i64 0, .slice none 0 0], .bool false]) w := assert_other Tryz.underlying240 zeroRes (by decide) w
theorem asRes_Bias : (Instr.typeAssert (.iface 242 v) 231 240 true).run Tryz.prog w = .ok (.tuple #[.agg #[.int .i64 0, .int .i64 0, .slice none 0 0], .bool false]) w := assert_other Tryz.underlying240 zeroRes (by decide) w
theorem asRes_Relu : (Instr.typeAssert (.iface 245 v) 231 240 true).run Tryz.prog w = .ok (.tuple #[.agg #[.int .i64 0, .int .i64 0, .slice none 0 0], .bool false]) w := assert_other Tryz.underlying240 zeroRes (by decide) w
theorem asRes_Scale : (Instr.typeAssert (.iface 243 v) 231 240 true).run Tryz.prog w = .ok (.tuple #[.agg #[.int .i64 0, .int .i64 0, .slice none 0 0], .bool false]) w := assert_other Tryz.underlying240 zeroRes (by decide) w
theorem asRes_Res : (Instr.typeAssert (.iface 240 v) 231 240 true).run Tryz.prog w = .ok (.tuple #[v, .bool true]) w := assert_same Tryz.underlying240 w
theorem asRes_nil : (Instr.typeAssert .nilIface 231 240 true).run Tryz.prog w = .ok (.tuple #[.agg #[.int .i64 0, .int .i64 0, .slice none 0 0], .bool false]) w := assert_nil Tryz.underlying240 zeroRes w
theorem asBias_Dense : (Instr.typeAssert (.iface 236 v) 231 242 true).run Tryz.prog w = .ok (.tuple #[.agg #[.slice none 0 0], .bool false]) w := assert_other Tryz.underlying242 zeroBias (by decide) w
theorem asBias_Bias : (Instr.typeAssert (.iface 242 v) 231 242 true).run Tryz.prog w = .ok (.tuple #[v, .bool true]) w := assert_same Tryz.underlying242 w
theorem asBias_Relu : (Instr.typeAssert (.iface 245 v) 231 242 true).run Tryz.prog w = .ok (.tuple #[.agg #[.slice none 0 0], .bool false]) w := assert_other Tryz.underlying242 zeroBias (by decide) w
theorem asBias_Scale : (Instr.typeAssert (.iface 243 v) 231 242 true).run Tryz.prog w = .ok (.tuple #[.agg #[.slice none 0 0], .bool false]) w := assert_other Tryz.underlying242 zeroBias (by decide) w
theorem asBias_Res : (Instr.typeAssert (.iface 240 v) 231 242 true).run Tryz.prog w = .ok (.tuple #[.agg #[.slice none 0 0], .bool false]) w := assert_other Tryz.underlying242 zeroBias (by decide) w
theorem asBias_nil : (Instr.typeAssert .nilIface 231 242 true).run Tryz.prog w = .ok (.tuple #[.agg #[.slice none 0 0], .bool false]) w := assert_nil Tryz.underlying242 zeroBias w
theorem asScale_Dense : (Instr.typeAssert (.iface 236 v) 231 243 true).run Tryz.prog w = .ok (.tuple #[.agg #[.slice none 0 0], .bool false]) w := assert_other Tryz.underlying243 zeroScale (by decide) w
theorem asScale_Bias : (Instr.typeAssert (.iface 242 v) 231 243 true).run Tryz.prog w = .ok (.tuple #[.agg #[.slice none 0 0], .bool false]) w := assert_other Tryz.underlying243 zeroScale (by decide) w
theorem asScale_Relu : (Instr.typeAssert (.iface 245 v) 231 243 true).run Tryz.prog w = .ok (.tuple #[.agg #[.slice none 0 0], .bool false]) w := assert_other Tryz.underlying243 zeroScale (by decide) w
theorem asScale_Scale : (Instr.typeAssert (.iface 243 v) 231 243 true).run Tryz.prog w = .ok (.tuple #[v, .bool true]) w := assert_same Tryz.underlying243 w
theorem asScale_Res : (Instr.typeAssert (.iface 240 v) 231 243 true).run Tryz.prog w = .ok (.tuple #[.agg #[.slice none 0 0], .bool false]) w := assert_other Tryz.underlying243 zeroScale (by decide) w
theorem asScale_nil : (Instr.typeAssert .nilIface 231 243 true).run Tryz.prog w = .ok (.tuple #[.agg #[.slice none 0 0], .bool false]) w := assert_nil Tryz.underlying243 zeroScale w
theorem opIface : Tryz.prog.isIface 231 = true := by kernel_rfl
theorem eqNil_nil : (binOp .eql 231 .nilIface .nilIface).run Tryz.prog w = .ok (.bool true) w := run_eql_nil_nil_at w _ opIface
theorem eqNil_some (t : TypeId) : (binOp .eql 231 (.iface t v) .nilIface).run Tryz.prog w = .ok (.bool false) w := run_eql_iface_nil w _ opIface t v
end
end Go.Proofs.YtcooobnaocbdjaaGreat
