/-
  From what the rows list to what the walks take; and one start that fits.
-/
import Derived.Test.YthficfeiomddmaaDoorRows
import Derived.Test.YthficfeiomddmaaDoorReadDec
import Derived.Lib.LaidTab
import Derived.Stop.LaidErr
import Derived.LaidLaws
import Derived.LaidSub
namespace Go.Proofs.YthficfeiomddmaaDoor
open Go.RowKit

theorem tyTab : (Tryd.prog.globals[4]?).map (·.type) = some 121 := by kernel_rfl
theorem tySyn : (Tryd.prog.globals[2]?).map (·.type) = some 57 := by kernel_rfl
theorem tyRng : (Tryd.prog.globals[3]?).map (·.type) = some 57 := by kernel_rfl
theorem cellsTab : Tryd.prog.cellsOf 121 = 20 := by kernel_rfl
theorem cellsU64 : Tryd.prog.cellsOf 106 = 1 := by kernel_rfl
theorem cellsES : Tryd.prog.cellsOf 128 = 1 := by kernel_rfl
theorem cellsStr : Tryd.prog.cellsOf 9 = 1 := by kernel_rfl
theorem pow10_data {H : Type} : (Rows.laid_internal_strconv_uint64pow10 : DataW H) = Lib.tabData .u64 Lib.pow10Tab := by kernel_rfl
theorem var_lt {w : World} {n : String} {g : Nat} {cs : Array Value} (hg : Tryd.prog.globalNamed n = some g) (hv : w.var? Tryd.prog n = some cs) (h0 : 0 < cs.size) : g < w.heap.size := by
  have h1 := World.var?_cell hg hv 0
  have h2 : cs[0]? = some cs[0] := by simp [h0]
  rw [h2] at h1
  exact block_lt_of_cell h1

theorem laidT_of {W : World} {r : List (String × DataW Unit)} (h : laidMet Tryd.prog (("internal/strconv.uint64pow10", Rows.laid_internal_strconv_uint64pow10) :: r) W) : LaidT W := by
  rw [pow10_data] at h
  have ht : Lib.TabIs Tryd.prog W "internal/strconv.uint64pow10" .u64 Lib.pow10Tab := Lib.tabIs_of_head gTab tyTab Tryd.underlying121 Tryd.underlying106 cellsU64 cellsTab h
  exact ⟨var_lt gTab ht (by simp [Lib.pow10Tab]), ht⟩

theorem starName : "*" ++ "errors.errorString" = "*errors.errorString" := by decide
theorem rowES (u : TypeId) (h : Tryd.prog.typeName? 3 u = some "*errors.errorString") : u = 126 :=
  typeName_ptr_named (nm := "errors.errorString") (by rw [starName]; kernel_rfl) (by kernel_rfl) (by decide) u (by rw [starName]; exact h)
theorem laidW_of {W : World} {r : List (String × DataW Unit)} (h : laidMet Tryd.prog (("math/bits.deBruijn32tab", Rows.laid_math_bits_deBruijn32tab) :: ("math/bits.deBruijn64tab", Rows.laid_math_bits_deBruijn64tab) :: ("internal/strconv.uint64pow10", Rows.laid_internal_strconv_uint64pow10) :: ("strconv.ErrRange", Rows.laid_strconv_ErrRange) :: ("strconv.ErrSyntax", Rows.laid_strconv_ErrSyntax) :: r) W) : LaidW W := by
  have h2 := h.tail.tail
  obtain ⟨a0, s0, hv0, -, -, -⟩ := laid_sentinel h2.tail gRng tyRng Tryd.underlying57 rowES Tryd.underlying126 Tryd.underlying128 rfl rfl Tryd.underlying9 cellsES cellsStr
  obtain ⟨a1, s1, hv1, -, -, -⟩ := laid_sentinel h2.tail.tail gSyn tySyn Tryd.underlying57 rowES Tryd.underlying126 Tryd.underlying128 rfl rfl Tryd.underlying9 cellsES cellsStr
  exact ⟨laidT_of h2, var_lt gSyn hv1 (by simp), var_lt gRng hv0 (by simp), ⟨_, _, hv1⟩, ⟨_, _, hv0⟩⟩

/-! ### One start that fits: the variables as their initialisers lay them -/
def datumCells : DataW Unit → Array Value
  | .agg l => (l.map fun | .lit (.int k n) => Value.int k n | _ => undef).toArray
  | _ => #[]
def setVar (h : Array Obj) (g : Nat) (cs : Array Value) : Array Obj := h.modify g fun
  | .cells _ t f => .cells cs t f
  | o => o
noncomputable def low : Nat := (World.holding Tryd.prog default ⟨#[], #[], []⟩).heap.size
theorem laidMet_of_H {l l' : List (String × DataW Unit)} {W : World} (h : laidMetH Tryd.prog l W) (names : List String) (e : ((l.filter fun x => names.contains x.1).filter fun x => x.2.handleName?.isNone) = l') : laidMet Tryd.prog l' W := by
  have h1 := (laidMetH_iff.1 (h.filter fun x => names.contains x.1)).1
  rwa [e] at h1
end Go.Proofs.YthficfeiomddmaaDoor
