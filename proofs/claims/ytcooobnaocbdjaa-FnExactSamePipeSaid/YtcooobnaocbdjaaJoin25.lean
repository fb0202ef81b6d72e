/-
  Pipes: the model's Done and Next.
-/
import Derived.Test.YtcooobnaocbdjaaJoin23
import Derived.Test.YtcooobnaocbdjaaJoin24
namespace Go.Proofs.Ytcooobnaocbdjaa
open Go.RowKit Go.Sort
set_option linter.unusedVariables false
set_option linter.unusedSimpArgs false

/-- What one stage has planned at a place. -/
theorem plan_at {I : Nat → Prop} {w : World} {a : Option Addr} {n : Nat} {l : List dIns} (h : ListAt shIns I w a n l) (j : Nat) (hj : j < n) :
    ∃ b o, a = some ⟨b, o, none⟩ ∧ I b ∧ w.cell? ⟨b, o + j * 2, none⟩ = some (.int .i64 (l.getD j (0, 0)).1) ∧ w.cell? ⟨b, o + j * 2 + 1, none⟩ = some (.int .i64 (l.getD j (0, 0)).2) := by
  obtain ⟨x, hx⟩ : ∃ x, l[j]? = some x := ⟨_, List.getElem?_eq_getElem (by rw [h.1]; exact hj)⟩
  obtain ⟨b, o, es, e, hb, hr, hs⟩ := h.2 j x hx
  have hxe : l.getD j (0, 0) = x := by rw [List.getD_eq_getElem?_getD, hx]; rfl
  obtain ⟨_, _, rfl, rfl, rfl⟩ := hs
  rw [hxe]
  refine ⟨b, o, e, hb, ?_, ?_⟩
  · have := hr 0 _ rfl
    simpa [shIns_size] using this
  · have := hr 1 _ rfl
    simpa [shIns_size] using this
end Go.Proofs.Ytcooobnaocbdjaa
