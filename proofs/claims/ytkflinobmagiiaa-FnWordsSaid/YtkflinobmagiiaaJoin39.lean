import Derived.Test.YtkflinobmagiiaaJoin38
import Derived.Test.YtkflinobmagiiaaJoin9
import Derived.Test.YtkflinobmagiiaaJoin15
import Derived.Test.YtkflinobmagiiaaJoin7
import Derived.Stop.Asserts
import Derived.Stop.IfaceNil
/-! YtkflinobmagiiaaMatI -/
section

namespace Go.Proofs.Ytkflinobmagiiaa
open Go.RowKit Go.Shelf
set_option linter.unusedVariables false

end Go.Proofs.Ytkflinobmagiiaa

end

/-! YtkflinobmagiiaaOpA -/
section

namespace Go.Proofs.Ytkflinobmagiiaa
open Go.RowKit
set_option linter.unusedVariables false

section
variable {P : Program} {t t' xT : TypeId} {v z : Value}
theorem assert_same {fs} (hu : P.underlying t = some (.struct fs)) (w : World) : (Instr.typeAssert (.iface t v) xT t true).run P w = .ok (.tuple #[v, .bool true]) w := by
  simp [Instr.typeAssert, run_underlying hu, go_sem, Result.andThen]
theorem assert_other {fs} (hu : P.underlying t = some (.struct fs)) (hz : (P.info? t).map (·.zero) = some (some z)) (hne : t' ≠ t) (w : World) : (Instr.typeAssert (.iface t' v) xT t true).run P w = .ok (.tuple #[z, .bool false]) w := by
  obtain ⟨j, hj, hz'⟩ := Option.map_eq_some_iff.1 hz
  simp [Instr.typeAssert, run_underlying hu, go_sem, Result.andThen, zeroValue, typeInfo, hj, hz', hne]
theorem assert_nil {fs} (hu : P.underlying t = some (.struct fs)) (hz : (P.info? t).map (·.zero) = some (some z)) (w : World) : (Instr.typeAssert .nilIface xT t true).run P w = .ok (.tuple #[z, .bool false]) w := by
  obtain ⟨j, hj, hz'⟩ := Option.map_eq_some_iff.1 hz
  simp [Instr.typeAssert, run_underlying hu, go_sem, Result.andThen, zeroValue, typeInfo, hj, hz']
end
theorem zeroDense : (Try.prog.info? 133).map (·.zero) = some (some (.agg #[.int .i64 0, .int .i64 0, .slice none 0 0])) := by kernel_rfl
theorem zeroRes : (Try.prog.info? 135).map (·.zero) = some (some (.agg #[.int .i64 0, .int .i64 0, .slice none 0 0])) := by kernel_rfl
theorem zeroBias : (Try.prog.info? 137).map (·.zero) = some (some (.agg #[.slice none 0 0])) := by kernel_rfl
theorem zeroScale : (Try.prog.info? 138).map (·.zero) = some (some (.agg #[.slice none 0 0])) := by kernel_rfl
section
variable (v : Value) (w : World)
theorem asDense_Dense : (Instr.typeAssert (.iface 133 v) 128 133 true).run Try.prog w = .ok (.tuple #[v, .bool true]) w := assert_same Try.underlying133 w
theorem asDense_Bias : (Instr.typeAssert (.iface 137 v) 128 133 true).run Try.prog w = .ok (.tuple #[.agg #[.int .i64 0, .int .i64 0, .slice none 0 0], .bool false]) w := assert_other Try.underlying133 zeroDense (by decide) w
theorem asDense_Relu : (Instr.typeAssert (.iface 140 v) 128 133 true).run Try.prog w = .ok (.tuple #[.agg #[.int .i64 0, .int .i64 0, .slice none 0 0], .bool false]) w := assert_other Try.underlying133 zeroDense (by decide) w
theorem asDense_Scale : (Instr.typeAssert (.iface 138 v) 128 133 true).run Try.prog w = .ok (.tuple #[.agg #[.int .i64 0, .int .i64 0, .slice none 0 0], .bool false]) w := assert_other Try.underlying133 zeroDense (by decide) w
theorem asDense_Res : (Instr.typeAssert (.iface 135 v) 128 133 true).run Try.prog w = .ok (.tuple #[.agg #[.int .i64 0, .int .i64 0, .slice none 0 0], .bool false]) w := assert_other Try.underlying133 zeroDense (by decide) w
theorem asDense_nil : (Instr.typeAssert .nilIface 128 133 true).run Try.prog w = .ok (.tuple #[.agg #[.int .i64 0, .int .i64 0, .slice none 0 0], .bool false]) w := assert_nil Try.underlying133 zeroDense w
theorem asRes_Dense : (Instr.typeAssert (.iface 133 v) 128 135 true).run Try.prog w = .ok (.tuple #[.agg #[.int .i64 0, .int .i64 0, .slice none 0 0], .bool false]) w := assert_other Try.underlying135 zeroRes (by decide) w
theorem asRes_Bias : (Instr.typeAssert (.iface 137 v) 128 135 true).run Try.prog w = .ok (.tuple #[.agg #[.int .i64 0, .int .i64 0, .slice none 0 0], .bool false]) w := assert_other Try.underlying135 zeroRes (by decide) w
theorem asRes_Relu : (Instr.typeAssert (.iface 140 v) 128 135 true).run Try.prog w = .ok (.tuple #[.agg #[.int .i64 0, .int .i64 0, .slice none 0 0], .bool false]) w := assert_other Try.underlying135 zeroRes (by decide) w
theorem asRes_Scale : (Instr.typeAssert (.iface 138 v) 128 135 true).run Try.prog w = .ok (.tuple #[.agg #[.int .i64 0, .int .i64 0, .slice none 0 0], .bool false]) w := assert_other Try.underlying135 zeroRes (by decide) w
theorem asRes_Res : (Instr.typeAssert (.iface 135 v) 128 135 true).run Try.prog w = .ok (.tuple #[v, .bool true]) w := assert_same Try.underlying135 w
theorem asRes_nil : (Instr.typeAssert .nilIface 128 135 true).run Try.prog w = .ok (.tuple #[.agg #[.int .i64 0, .int .i64 0, .slice none 0 0], .bool false]) w := assert_nil Try.underlying135 zeroRes w
theorem asBias_Dense : (Instr.typeAssert (.iface 133 v) 128 137 true).run Try.prog w = .ok (.tuple #[.agg #[.slice none 0 0], .bool false]) w := assert_other Try.underlying137 zeroBias (by decide) w
theorem asBias_Bias : (Instr.typeAssert (.iface 137 v) 128 137 true).run Try.prog w = .ok (.tuple #[v, .bool true]) w := assert_same Try.underlying137 w
theorem asBias_Relu : (Instr.typeAssert (.iface 140 v) 128 137 true).run Try.prog w = .ok (.tuple #[.agg #[.slice none 0 0], .bool false]) w := assert_other Try.underlying137 zeroBias (by decide) w
theorem asBias_Scale : (Instr.typeAssert (.iface 138 v) 128 137 true).run Try.prog w = .ok (.tuple #[.agg #[.slice none 0 0], .bool false]) w := assert_other Try.underlying137 zeroBias (by decide) w
theorem asBias_Res : (Instr.typeAssert (.iface 135 v) 128 137 true).run Try.prog w = .ok (.tuple #[.agg #[.slice none 0 0], .bool false]) w := assert_other Try.underlying137 zeroBias (by decide) w
theorem asBias_nil : (Instr.typeAssert .nilIface 128 137 true).run Try.prog w = .ok (.tuple #[.agg #[.slice none 0 0], .bool false]) w := assert_nil Try.underlying137 zeroBias w
theorem asScale_Dense : (Instr.typeAssert (.iface 133 v) 128 138 true).run Try.prog w = .ok (.tuple #[.agg #[.slice none 0 0], .bool false]) w := assert_other Try.underlying138 zeroScale (by decide) w
theorem asScale_Bias : (Instr.typeAssert (.iface 137 v) 128 138 true).run Try.prog w = .ok (.tuple #[.agg #[.slice none 0 0], .bool false]) w := assert_other Try.underlying138 zeroScale (by decide) w
theorem asScale_Relu : (Instr.typeAssert (.iface 140 v) 128 138 true).run Try.prog w = .ok (.tuple #[.agg #[.slice none 0 0], .bool false]) w := assert_other Try.underlying138 zeroScale (by decide) w
theorem asScale_Scale : (Instr.typeAssert (.iface 138 v) 128 138 true).run Try.prog w = .ok (.tuple #[v, .bool true]) w := assert_same Try.underlying138 w
theorem asScale_Res : (Instr.typeAssert (.iface 135 v) 128 138 true).run Try.prog w = .ok (.tuple #[.agg #[.slice none 0 0], .bool false]) w := assert_other Try.underlying138 zeroScale (by decide) w
theorem asScale_nil : (Instr.typeAssert .nilIface 128 138 true).run Try.prog w = .ok (.tuple #[.agg #[.slice none 0 0], .bool false]) w := assert_nil Try.underlying138 zeroScale w
theorem opIface : Try.prog.isIface 128 = true := by kernel_rfl
theorem eqNil_nil : (binOp .eql 128 .nilIface .nilIface).run Try.prog w = .ok (.bool true) w := run_eql_nil_nil_at w _ opIface
theorem eqNil_some (t : TypeId) : (binOp .eql 128 (.iface t v) .nilIface).run Try.prog w = .ok (.bool false) w := run_eql_iface_nil w _ opIface t v
end
end Go.Proofs.Ytkflinobmagiiaa

end
