/-
  Rows of pairs of numbers that came in: numbers of 64 bits. Of no program.
-/
import Derived.Test.YtikjhpljaanakaaDoorTwo
import Derived.Test.YtikjhpljaanakaaDoorShowM
import Derived.ChangeArms
namespace Go.Proofs.YtikjhpljaanakaaDoor
open Go.RowKit
set_option linter.unusedVariables false

def Shape.intR : Shape Int where
  size := 1
  reads := fun _ _ cs x => cs = [.int .i64 x] ∧ -9223372036854775808 ≤ x ∧ x ≤ 9223372036854775807
  fits := fun P t => match P.underlying t with | some (.int .i64) => true | _ => false
  bulk := fun _ => 0
  len := by rintro _ _ _ _ ⟨rfl, -⟩; rfl
  keep := fun h _ => h
  sub := fun h _ => h
  opens := by
    intro H enc P w base spare held fuel t cs x hf h
    split at hf
    · rename_i ht
      obtain ⟨n, hn, -, hw⟩ := DataW.trod_int ht h
      unfold Lit.wf at hw
      simp only [Bool.and_eq_true, decide_eq_true_eq] at hw
      exact ⟨n, hn, hw.1, hw.2⟩
    · cases hf
def shTwoR : Shape dTwo := .struct (.cons .intR (.last .intR))
theorem shTwoR_reads {I : Nat → Prop} {w : World} {cs : List Value} {d : dTwo} (h : shTwoR.reads I w cs d) : cs = [.int .i64 d.1, .int .i64 d.2] ∧ -9223372036854775808 ≤ d.2 ∧ d.2 ≤ 9223372036854775807 := by
  obtain ⟨_, _, rfl, ⟨rfl, -⟩, ⟨rfl, h2⟩⟩ := h
  exact ⟨rfl, h2⟩
theorem ListAt.wide {I : Nat → Prop} {w : World} {a : Option Addr} {n : Nat} {xs : List dTwo} (h : ListAt shTwoR I w a n xs) : ListAt shTwo I w a n xs ∧ Wide xs := by
  refine ⟨⟨h.1, fun j x hx => ?_⟩, fun j hj => ?_⟩
  · obtain ⟨b, o, es, e, hb, hr, hs⟩ := h.2 j x hx
    exact ⟨b, o, es, e, hb, hr, shTwo_reads.2 (shTwoR_reads hs).1⟩
  · have hx : xs[j]? = some (xs.getD j (0, 0)) := by
      rw [List.getElem?_eq_getElem hj]
      simp [List.getD, hj]
    obtain ⟨b, o, es, e, hb, hr, hs⟩ := h.2 j _ hx
    exact (shTwoR_reads hs).2
end Go.Proofs.YtikjhpljaanakaaDoor
