/-
  The model's functions on operations.
-/
import Derived.Test.YtgnjcfbfbpjndaaDoorOpM
import Derived.Test.YtgnjcfbfbpjndaaDoorOpH
import Derived.Test.YtgnjcfbfbpjndaaDoorMatT
import Derived.Test.YtgnjcfbfbpjndaaDoorMatV
import Derived.Deep.DeepCutAuto
import Derived.Deep.RegionLaw
import Derived.Lib.QuietBelow
namespace Go.Proofs.YtgnjcfbfbpjndaaDoor
open Go.RowKit Go.Sort
set_option linter.unusedVariables false

theorem fwN_length (k i o : Int) (ps xs : List Int) : (fwN k i o ps xs).length ≤ 6 := by
  cases h : fwOk k i o ps xs with
  | false => rw [(fw_no h).1]; decide
  | true => exact (vecOkB_has (fw_size h).2).2.1

/-- What a kind's size is, once In and Out are right. -/
theorem opSz_no {k i o : Int} (h : inB 1 6 i = false ∨ inB 1 6 o = false) : opSz k i o = 0 := by
  unfold opSz
  rcases h with h | h <;> rw [h] <;> simp
theorem opSz_yes {k i o : Int} (hi : inB 1 6 i = true) (ho : inB 1 6 o = true) : opSz k i o = (if k = 1 ∨ k = 5 then i * o else if k = 2 then i else if k = 4 then 1 else 0) := by
  unfold opSz
  rw [hi, ho]
  rfl
theorem opOk_k {k i o : Int} {ps : List Int} (h : inB 1 5 k = false) : opOkB k i o ps = false := by unfold opOkB; rw [h]; simp
theorem opOk_i {k i o : Int} {ps : List Int} (h : inB 1 6 i = false) : opOkB k i o ps = false := by unfold opOkB; rw [h]; simp
theorem opOk_o {k i o : Int} {ps : List Int} (h : inB 1 6 o = false) : opOkB k i o ps = false := by unfold opOkB; rw [h]; simp
theorem opOk_d {k i o : Int} {ps : List Int} (h1 : ¬ k = 1) (h2 : ¬ i = o) : opOkB k i o ps = false := by unfold opOkB; rw [decide_eq_false h1, decide_eq_false h2]; simp
theorem opOk_l {k i o : Int} {ps : List Int} (h : ¬ (ps.length : Int) = opSz k i o) : opOkB k i o ps = false := by unfold opOkB; rw [decide_eq_false h]; simp
theorem opOk_all {k i o : Int} {ps : List Int} (h1 : inB 1 5 k = true) (h2 : inB 1 6 i = true) (h3 : inB 1 6 o = true) (h4 : k = 1 ∨ i = o) (h5 : (ps.length : Int) = opSz k i o) : opOkB k i o ps = ps.all okB := by
  unfold opOkB
  rw [h1, h2, h3, decide_eq_true h5]
  rcases h4 with h | h <;> simp [h]

end Go.Proofs.YtgnjcfbfbpjndaaDoor
