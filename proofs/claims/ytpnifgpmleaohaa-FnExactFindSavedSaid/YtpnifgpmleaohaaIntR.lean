/-
  A number of 64 bits that came in, as a shape. Of no program.
-/
import Derived.Test.YtpnifgpmleaohaaShape
import Derived.ChangeArms
namespace Go.Proofs.Ytpnifgpmleaohaa
open Go.RowKit
set_option linter.unusedVariables false

def Shape.intR : Shape Int where
  size := 1
  reads := fun _ _ cs x => cs = [.int .i64 x] ∧ -9223372036854775808 ≤ x ∧ x ≤ 9223372036854775807
  fits := fun P t => match P.underlying t with | some (.int .i64) => true | _ => false
  bulk := fun _ => 0
  len := by rintro _ _ _ _ ⟨rfl, -⟩; rfl
  keep := fun h _ => h
  sub := fun h _ => h
  opens := by
    intro H enc P w base spare held fuel t cs x hf h
    split at hf
    · rename_i ht
      obtain ⟨n, hn, -, hw⟩ := DataW.trod_int ht h
      unfold Lit.wf at hw
      simp only [Bool.and_eq_true, decide_eq_true_eq] at hw
      exact ⟨n, hn, hw.1, hw.2⟩
    · cases hf
end Go.Proofs.Ytpnifgpmleaohaa
