import Derived.RangeFuncNested
import Derived.RangeFuncBound
import Derived.RangeFuncCalls
import Derived.RangeFuncLeaves
import Derived.RangeFuncBox
import Derived.RangeFuncWrites
import Derived.Shelf.Abstract
import Derived.Sort.QuietIn
import Derived.WalkKit
import Derived.OwnWalkIn
import Derived.TacticsInMore
import Derived.LoopNIn
import Derived.LoopIn
import Derived.Test.YtkmcfbopilieeaaJoin15
import Derived.Test.YtkmcfbopilieeaaJoin10
import Derived.Test.YtkmcfbopilieeaaJoin12
import Derived.Test.YtkmcfbopilieeaaJoin4
import Derived.Stop.Asserts
import Derived.Stop.IfaceNil
/-! YtkmcfbopilieeaaChunk -/
section

namespace Go.Proofs.Ytkmcfbopilieeaa
open Go.RowKit Go.Shelf
set_option linter.unusedVariables false
attribute [local go_sem] Oper.semAt_some

/-- What a round of a loop over a table's rows keeps: what lay below n₀, and the two cells that the iterator reads. -/
def KeepB (n₀ B1 B2 : Nat) (W W' : World) : Prop := Below n₀ W W' ∧ W'.heap[B1]? = W.heap[B1]? ∧ W'.heap[B2]? = W.heap[B2]?
theorem keepB_t {n₀ B1 B2 : Nat} {A B C : World} (h : KeepB n₀ B1 B2 A B) (k : KeepB n₀ B1 B2 B C) : KeepB n₀ B1 B2 A C := ⟨h.1.trans k.1, k.2.1.trans h.2.1, k.2.2.trans h.2.2⟩
theorem keepB_b {n₀ B1 B2 : Nat} {w : World} (hn : n₀ ≤ w.heap.size) (h1 : B1 < w.heap.size) (h2 : B2 < w.heap.size) (W : World) (l : Nat) (o o' : Obj) (hl : w.heap.size ≤ l) (h : W.heap[l]? = some o) (hc : o.isCells = false) (hw : o.isWalk = false) : KeepB n₀ B1 B2 W (W.putObj l o') :=
  ⟨belowK_b hn W l o o' hl h hc hw, World.putObj_heap_other (by omega), World.putObj_heap_other (by omega)⟩

/-- The rows, as the iterator hands them over. -/
def rowEnc (b o q : Nat) (m : Nat) (x : Fin m) : Array Value := #[.slice (some ⟨b, o + x.1 * q, none⟩) q q]
theorem marks_ret {F : Fence} {n : Nat} {P : Program} {fn : Func} {R : Ending → World → Prop} {a : Act} {w : World} {v : Value} (hd : a.defers = []) (hr : (results fn a.tmps).run P w = .ok v w) (hR : R (.returned v) w) : bodyPostM F n P fn R .ret a w := by
  show LeavesInM F n P fn a.tmps R a.defers .returning w
  rw [hd]
  exact ⟨v, hr, hR⟩
theorem marks_ret1 {F : Fence} {n : Nat} {P : Program} {fn : Func} {R : Ending → World → Prop} {a : Act} {w : World} {v : Value} {D : Nat} (hd : a.defers = [{ target := .collected D, args := #[] }]) (hK : w.heap[D]? = some (.deferred (some [])))
    (hr : (results fn a.tmps).run P (w.putObj D (.deferred none)) = .ok v (w.putObj D (.deferred none))) (hR : R (.returned v) (w.putObj D (.deferred none))) : bodyPostM F n P fn R .ret a w := by
  show LeavesInM F n P fn a.tmps R a.defers .returning w
  rw [hd]
  exact ⟨by simp, .inl ⟨D, _, rfl, run_takeDeferred hK, v, hr, hR⟩⟩
theorem boxed_put {W : World} {B D : Nat} {t : TypeId} {v : Value} (h : Boxed W B t v) (hne : B ≠ D) (o : Obj) : Boxed (W.putObj D o) B t v := (World.putObj_heap_other hne).trans h
theorem below_put {n₀ D : Nat} {W0 W : World} {o : Obj} (h : Below n₀ W0 W) (hD : n₀ ≤ D) (hK : W.heap[D]? = some o) (o' : Obj) : Below n₀ W0 (W.putObj D o') :=
  h.grown (grownBy_putObj' W D o') (by have := (Array.getElem?_eq_some_iff.1 hK).1; omega) (fun k e => by cases e; exact hD)
theorem results_bool {P : Program} {fn : Func} {p : Tmp} {ty : TypeId} (h : fn.results = #[.cell p ty]) (tmps : Array Value) (w : World) (g : Nat) (t : TypeId) (x : Bool) (hp : tmps.getD p undef = .pointer (some ⟨g, 0, none⟩)) (hb : Boxed w g t (.bool x)) (hu : P.underlying ty = some .bool) :
    (results fn tmps).run P w = .ok (.bool x) w := by
  have hp' : tmps[p]?.getD undef = .pointer (some ⟨g, 0, none⟩) := by simpa using hp
  have hc := hb.cell
  simp [results, h, hp', asAddr, loadVar, isAgg, run_underlying hu, hc, go_sem]
end Go.Proofs.Ytkmcfbopilieeaa

end

/-! YtkmcfbopilieeaaMatI -/
section

namespace Go.Proofs.Ytkmcfbopilieeaa
open Go.RowKit Go.Shelf
set_option linter.unusedVariables false

end Go.Proofs.Ytkmcfbopilieeaa

end

/-! YtkmcfbopilieeaaOpA -/
section

namespace Go.Proofs.Ytkmcfbopilieeaa
open Go.RowKit
set_option linter.unusedVariables false

section
variable {P : Program} {t t' xT : TypeId} {v z : Value}
theorem assert_same {fs} (hu : P.underlying t = some (.struct fs)) (w : World) : (Instr.typeAssert (.iface t v) xT t true).run P w = .ok (.tuple #[v, .bool true]) w := by
  simp [Instr.typeAssert, run_underlying hu, go_sem, Result.andThen]
theorem assert_other {fs} (hu : P.underlying t = some (.struct fs)) (hz : (P.info? t).map (·.zero) = some (some z)) (hne : t' ≠ t) (w : World) : (Instr.typeAssert (.iface t' v) xT t true).run P w = .ok (.tuple #[z, .bool false]) w := by
  obtain ⟨j, hj, hz'⟩ := Option.map_eq_some_iff.1 hz
  simp [Instr.typeAssert, run_underlying hu, go_sem, Result.andThen, zeroValue, typeInfo, hj, hz', hne]
theorem assert_nil {fs} (hu : P.underlying t = some (.struct fs)) (hz : (P.info? t).map (·.zero) = some (some z)) (w : World) : (Instr.typeAssert .nilIface xT t true).run P w = .ok (.tuple #[z, .bool false]) w := by
  obtain ⟨j, hj, hz'⟩ := Option.map_eq_some_iff.1 hz
  simp [Instr.typeAssert, run_underlying hu, go_sem, Result.andThen, zeroValue, typeInfo, hj, hz']
end
theorem zeroDense : (Try.prog.info? 80).map (·.zero) = some (some (.agg #[.int .i64 0, .int .i64 0, .slice none 0 0])) := by kernel_rfl
theorem zeroRes : (Try.prog.info? 82).map (·.zero) = some (some (.agg #[.int .i64 0, .int .i64 0, .slice none 0 0])) := by kernel_rfl
theorem zeroBias : (Try.prog.info? 104).map (·.zero) = some (some (.agg #[.slice none 0 0])) := by kernel_rfl
theorem zeroScale : (Try.prog.info? 84).map (·.zero) = some (some (.agg #[.slice none 0 0])) := by kernel_rfl
section
variable (v : Value) (w : World)
theorem asDense_Dense : (Instr.typeAssert (.iface 80 v) 75 80 true).run Try.prog w = .ok (.tuple #[v, .bool true]) w := assert_same Try.underlying80 w
theorem asDense_Bias : (Instr.typeAssert (.iface 104 v) 75 80 true).run Try.prog w = .ok (.tuple #[.agg #[.int .i64 0, .int .i64 0, .slice none 0 0], .bool false]) w := assert_other Try.underlying80 zeroDense (by decide) w
theorem asDense_Relu : (Instr.typeAssert (.iface 106 v) 75 80 true).run Try.prog w = .ok (.tuple #[.agg #[.int .i64 0, .int .i64 0, .slice none 0 0], .bool false]) w := assert_other Try.underlying80 zeroDense (by decide) w
theorem asDense_Scale : (Instr.typeAssert (.iface 84 v) 75 80 true).run Try.prog w = .ok (.tuple #[.agg #[.int .i64 0, .int .i64 0, .slice none 0 0], .bool false]) w := assert_other Try.underlying80 zeroDense (by decide) w
theorem asDense_Res : (Instr.typeAssert (.iface 82 v) 75 80 true).run Try.prog w = .ok (.tuple #[.agg #[.int .i64 0, .int .i64 0, .slice none 0 0], .bool false]) w := assert_other Try.underlying80 zeroDense (by decide) w
theorem asDense_nil : (Instr.typeAssert .nilIface 75 80 true).run Try.prog w = .ok (.tuple #[.agg #[.int .i64 0, .int .i64 0, .slice none 0 0], .bool false]) w := assert_nil Try.underlying80 zeroDense w
theorem asRes_Dense : (Instr.typeAssert (.iface 80 v) 75 82 true).run Try.prog w = .ok (.tuple #[.agg #[.int .i64 0, .int .i64 0, .slice none 0 0], .bool false]) w := assert_other Try.underlying82 zeroRes (by decide) w
theorem asRes_Bias : (Instr.typeAssert (.iface 104 v) 75 82 true).run Try.prog w = .ok (.tuple #[.agg #[.int .i64 0, .int .i64 0, .slice none 0 0], .bool false]) w := assert_other Try.underlying82 zeroRes (by decide) w
theorem asRes_Relu : (Instr.typeAssert (.iface 106 v) 75 82 true).run Try.prog w = .ok (.tuple #[.agg #[.int .i64 0, .int .i64 0, .slice none 0 0], .bool false]) w := assert_other Try.underlying82 zeroRes (by decide) w
theorem asRes_Scale : (Instr.typeAssert (.iface 84 v) 75 82 true).run Try.prog w = .ok (.tuple #[.agg #[.int .i64 0, .int .i64 0, .slice none 0 0], .bool false]) w := assert_other Try.underlying82 zeroRes (by decide) w
theorem asRes_Res : (Instr.typeAssert (.iface 82 v) 75 82 true).run Try.prog w = .ok (.tuple #[v, .bool true]) w := assert_same Try.underlying82 w
theorem asRes_nil : (Instr.typeAssert .nilIface 75 82 true).run Try.prog w = .ok (.tuple #[.agg #[.int .i64 0, .int .i64 0, .slice none 0 0], .bool false]) w := assert_nil Try.underlying82 zeroRes w
theorem asBias_Dense : (Instr.typeAssert (.iface 80 v) 75 104 true).run Try.prog w = .ok (.tuple #[.agg #[.slice none 0 0], .bool false]) w := assert_other Try.underlying104 zeroBias (by decide) w
theorem asBias_Bias : (Instr.typeAssert (.iface 104 v) 75 104 true).run Try.prog w = .ok (.tuple #[v, .bool true]) w := assert_same Try.underlying104 w
theorem asBias_Relu : (Instr.typeAssert (.iface 106 v) 75 104 true).run Try.prog w = .ok (.tuple #[.agg #[.slice none 0 0], .bool false]) w := assert_other Try.underlying104 zeroBias (by decide) w
theorem asBias_Scale : (Instr.typeAssert (.iface 84 v) 75 104 true).run Try.prog w = .ok (.tuple #[.agg #[.slice none 0 0], .bool false]) w := assert_other Try.underlying104 zeroBias (by decide) w
theorem asBias_Res : (Instr.typeAssert (.iface 82 v) 75 104 true).run Try.prog w = .ok (.tuple #[.agg #[.slice none 0 0], .bool false]) w := assert_other Try.underlying104 zeroBias (by decide) w
theorem asBias_nil : (Instr.typeAssert .nilIface 75 104 true).run Try.prog w = .ok (.tuple #[.agg #[.slice none 0 0], .bool false]) w := assert_nil Try.underlying104 zeroBias w
theorem asScale_Dense : (Instr.typeAssert (.iface 80 v) 75 84 true).run Try.prog w = .ok (.tuple #[.agg #[.slice none 0 0], .bool false]) w := assert_other Try.underlying84 zeroScale (by decide) w
theorem asScale_Bias : (Instr.typeAssert (.iface 104 v) 75 84 true).run Try.prog w = .ok (.tuple #[.agg #[.slice none 0 0], .bool false]) w := assert_other Try.underlying84 zeroScale (by decide) w
theorem asScale_Relu : (Instr.typeAssert (.iface 106 v) 75 84 true).run Try.prog w = .ok (.tuple #[.agg #[.slice none 0 0], .bool false]) w := assert_other Try.underlying84 zeroScale (by decide) w
theorem asScale_Scale : (Instr.typeAssert (.iface 84 v) 75 84 true).run Try.prog w = .ok (.tuple #[v, .bool true]) w := assert_same Try.underlying84 w
theorem asScale_Res : (Instr.typeAssert (.iface 82 v) 75 84 true).run Try.prog w = .ok (.tuple #[.agg #[.slice none 0 0], .bool false]) w := assert_other Try.underlying84 zeroScale (by decide) w
theorem asScale_nil : (Instr.typeAssert .nilIface 75 84 true).run Try.prog w = .ok (.tuple #[.agg #[.slice none 0 0], .bool false]) w := assert_nil Try.underlying84 zeroScale w
theorem opIface : Try.prog.isIface 75 = true := by kernel_rfl
theorem eqNil_nil : (binOp .eql 75 .nilIface .nilIface).run Try.prog w = .ok (.bool true) w := run_eql_nil_nil_at w _ opIface
theorem eqNil_some (t : TypeId) : (binOp .eql 75 (.iface t v) .nilIface).run Try.prog w = .ok (.bool false) w := run_eql_iface_nil w _ opIface t v
end
end Go.Proofs.Ytkmcfbopilieeaa

end
