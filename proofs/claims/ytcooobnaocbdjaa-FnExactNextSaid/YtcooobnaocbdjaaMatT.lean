/-
  The model's Transpose.
-/
import Derived.Test.YtcooobnaocbdjaaMatW
import Derived.Deep.AppendLies
import Derived.Deep.RegionLaw
namespace Go.Proofs.Ytcooobnaocbdjaa
open Go.RowKit
set_option linter.unusedVariables false

theorem ints_news {B : Nat} {w : World} {b o n : Nat} {xs : List Int} (h : IntsIn B w (some ⟨b, o, none⟩) n xs) : ∀ j u, (icells xs)[j]? = some u → w.cell? ((⟨b, o, none⟩ : Addr).add j) = some u := by
  intro j u hu
  have hj : j < xs.length := by
    have := (List.getElem?_eq_some_iff.1 hu).1
    rwa [icells_length] at this
  obtain ⟨b', o', e, _, hc⟩ := h.cells j (by rw [← h.len]; exact hj)
  cases e
  rw [icells_get xs j hj] at hu
  cases hu
  rw [Addr.add_lit]
  exact hc

end Go.Proofs.Ytcooobnaocbdjaa
