/-
  Data with depth: what came in, opened. Of no program.
-/
import Derived.Test.YtcooobnaocbdjaaShape
import Derived.WideShapes
namespace Go.Proofs.Ytcooobnaocbdjaa
open Go.RowKit Go.WideShapes
set_option linter.unusedVariables false

theorem open_list {α H : Type} {enc : TypeId × Value → H} {P : Program} {w : World} {r : Reach} {b0 base : Nat} {spare : Nat → Bool} {held : Bool} {t e : TypeId} {v : Value} {d : DataW H} {p : List MemPlace} (S : Shape α)
    (ht : P.underlying t = some (.slice e)) (hf : (Shape.list S).fits P t = true) (hv : Value.okWide P w r b0 t v) (h : DataW.Trod enc P w base spare held t v d p) :
    ∃ a n c xs, v = .slice a n c ∧ n ≤ 9223372036854775807 ∧ ListAt S (Under w.heap.size) w a n xs := by
  obtain ⟨a, n, c, rfl⟩ := okWide_slice ht hv
  obtain ⟨fuel, hfu⟩ := h
  obtain ⟨xs, a', n', c', e', h1, h2, h3⟩ := (Shape.list S).opens hf hfu
  have e2 : [Value.slice a n c] = [Value.slice a' n' c'] := e'
  cases e2
  exact ⟨a, n, c, xs, rfl, by omega, h3⟩
theorem open_struct {α H : Type} {enc : TypeId × Value → H} {P : Program} {w : World} {r : Reach} {b0 base : Nat} {spare : Nat → Bool} {held : Bool} {t : TypeId} {fs : Array Field} {v : Value} {d : DataW H} {p : List MemPlace} (S : Shape α)
    (ht : P.underlying t = some (.struct fs)) (hf : S.fits P t = true) (hv : Value.okWide P w r b0 t v) (h : DataW.Trod enc P w base spare held t v d p) :
    ∃ es x, v = .agg es.toArray ∧ S.reads (Under w.heap.size) w es x := by
  obtain ⟨cs, rfl, _⟩ := okWide_struct ht hv
  obtain ⟨fuel, hfu⟩ := h
  obtain ⟨x, hx⟩ := S.opens hf hfu
  exact ⟨cs.toList, x, by simp, hx⟩
end Go.Proofs.Ytcooobnaocbdjaa
