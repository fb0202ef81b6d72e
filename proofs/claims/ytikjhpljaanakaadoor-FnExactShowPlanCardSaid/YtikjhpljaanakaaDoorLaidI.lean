/-
  From what the rows list to what the walks take; and one start that fits.
-/
import Derived.Test.YtikjhpljaanakaaDoorRows
import Derived.Test.YtikjhpljaanakaaDoorItoa
import Derived.Lib.LaidTab
import Derived.Stop.LaidErr
import Derived.LaidLaws
import Derived.LaidSub
namespace Go.Proofs.YtikjhpljaanakaaDoor
open Go.RowKit

theorem tyTab : (Tryd.prog.globals[1]?).map (·.type) = some 62 := by kernel_rfl
theorem cellsTab : Tryd.prog.cellsOf 62 = 20 := by kernel_rfl
theorem cellsU64 : Tryd.prog.cellsOf 55 = 1 := by kernel_rfl
theorem pow10_data {H : Type} : (Rows.laid_internal_strconv_uint64pow10 : DataW H) = Lib.tabData .u64 Lib.pow10Tab := by kernel_rfl
theorem var_lt {w : World} {n : String} {g : Nat} {cs : Array Value} (hg : Tryd.prog.globalNamed n = some g) (hv : w.var? Tryd.prog n = some cs) (h0 : 0 < cs.size) : g < w.heap.size := by
  have h1 := World.var?_cell hg hv 0
  have h2 : cs[0]? = some cs[0] := by simp [h0]
  rw [h2] at h1
  exact block_lt_of_cell h1

theorem laidT_of {W : World} {r : List (String × DataW Unit)} (h : laidMet Tryd.prog (("internal/strconv.uint64pow10", Rows.laid_internal_strconv_uint64pow10) :: r) W) : LaidT W := by
  rw [pow10_data] at h
  have ht : Lib.TabIs Tryd.prog W "internal/strconv.uint64pow10" .u64 Lib.pow10Tab := Lib.tabIs_of_head gTab tyTab Tryd.underlying62 Tryd.underlying55 cellsU64 cellsTab h
  exact ⟨var_lt gTab ht (by simp [Lib.pow10Tab]), ht⟩

/-! ### One start that fits: the variables as their initialisers lay them -/
def datumCells : DataW Unit → Array Value
  | .agg l => (l.map fun | .lit (.int k n) => Value.int k n | _ => undef).toArray
  | _ => #[]
def setVar (h : Array Obj) (g : Nat) (cs : Array Value) : Array Obj := h.modify g fun
  | .cells _ t f => .cells cs t f
  | o => o
noncomputable def low : Nat := (World.holding Tryd.prog default ⟨#[], #[], []⟩).heap.size
theorem laidMet_of_H {l l' : List (String × DataW Unit)} {W : World} (h : laidMetH Tryd.prog l W) (names : List String) (e : ((l.filter fun x => names.contains x.1).filter fun x => x.2.handleName?.isNone) = l') : laidMet Tryd.prog l' W := by
  have h1 := (laidMetH_iff.1 (h.filter fun x => names.contains x.1)).1
  rwa [e] at h1
end Go.Proofs.YtikjhpljaanakaaDoor
