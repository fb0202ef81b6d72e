/-
  The law on numbers: one call after the other.
-/
import Derived.Test.YtehlbloalfclcaaDoorNumM
namespace Go.Proofs.YtehlbloalfclcaaDoor
open Go.RowKit
set_option linter.unusedVariables false

/-- A call in a world that has grown out of the first one: it tells v, and the world goes on growing. -/
def Tells (w0 : World) (f : FuncId) (args : Array Value) (v : Value) : Prop :=
  ∀ w, Below w0.heap.size w0 w → Calls Tryd.prog f args w fun e w' => e = .returned v ∧ Below w0.heap.size w0 w'
theorem tells_of {w0 : World} {f : FuncId} {args : Array Value} {v : Value} (h : ∀ w, Below w0.heap.size w0 w → Calls Tryd.prog f args w fun e w' => e = .returned v ∧ Below w.heap.size w w') : Tells w0 f args v :=
  fun w hb => (h w hb).mono fun e w' ⟨he, hb'⟩ => ⟨he, hb.trans (hb'.mono hb.size)⟩
theorem tells_same {w0 : World} {f : FuncId} {args : Array Value} {v : Value} (h : ∀ w, Calls Tryd.prog f args w fun e w' => e = .returned v ∧ w = w') : Tells w0 f args v :=
  fun w hb => (h w).mono fun e w' ⟨he, hw⟩ => ⟨he, hw ▸ hb⟩

theorem big_no (a : Option Addr) (cap : Nat) (bs : List UInt8) (hroom : bs.length ≤ 1048576) (w : World) :
    Calls Tryd.prog 6 #[.slice a bs.length cap] w fun e w' => e = .returned (.bool false) ∧ w = w' := by
  have hd : decide (1048576 < (bs.length : Int)) = false := by simp; omega
  go_enter Tryd.func6, Tryd.ntmps6
  go_wp2
  go_ret
  exact ⟨rfl, rfl⟩
theorem big_yes (a : Option Addr) (len cap : Nat) (hbig : 1048576 < len) (hm : len ≤ 9223372036854775807) (w : World) :
    Calls Tryd.prog 6 #[.slice a len cap] w fun e w' => e = .returned (.bool true) ∧ w = w' := by
  have hd : decide (1048576 < (len : Int)) = true := by simp; omega
  go_enter Tryd.func6, Tryd.ntmps6
  go_wp2
  go_ret
  exact ⟨rfl, rfl⟩
end Go.Proofs.YtehlbloalfclcaaDoor
