/-
  Data with depth: what came in, opened. Of no program.
-/
import Derived.Test.YtcooobnaocbdjaaJoin2
import Derived.WideShapes
namespace Go.Proofs.Ytcooobnaocbdjaa
open Go.RowKit Go.WideShapes
set_option linter.unusedVariables false

theorem open_struct {α H : Type} {enc : TypeId × Value → H} {P : Program} {w : World} {r : Reach} {b0 base : Nat} {spare : Nat → Bool} {held : Bool} {t : TypeId} {fs : Array Field} {v : Value} {d : DataW H} {p : List MemPlace} (S : Shape α)
    (ht : P.underlying t = some (.struct fs)) (hf : S.fits P t = true) (hv : Value.okWide P w r b0 t v) (h : DataW.Trod enc P w base spare held t v d p) :
    ∃ es x, v = .agg es.toArray ∧ S.reads (Under w.heap.size) w es x := by
  obtain ⟨cs, rfl, _⟩ := okWide_struct ht hv
  obtain ⟨fuel, hfu⟩ := h
  obtain ⟨x, hx⟩ := S.opens hf hfu
  exact ⟨cs.toList, x, by simp, hx⟩
end Go.Proofs.Ytcooobnaocbdjaa
