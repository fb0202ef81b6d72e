/-
  The program's way through two rows: a step that it is handed, place by place.
-/
import Derived.Test.YtcooobnaocbdjaaVecOk
import Derived.Shelf.Abstract
import Derived.Laws.EntriesVeiled
import Derived.OneCell
namespace Go.Proofs.Ytcooobnaocbdjaa
open Go.RowKit
set_option linter.unusedVariables false

/-- A number behind a row of the call's own. -/
theorem Row.put {base : Nat} {w w' : World} {v v' : Value} {zs : List Int} {x : Int} (hrow : Row base w v zs) (hb : base ≤ w.heap.size) (o : Obj) (hown : w'.ownsRow base 3 1 v' (zs.length + 1) (icells zs ++ icells [x])) (hg : (w.alloc o).grownBy w' v.ownBlock) :
    Row base w' v' (zs ++ [x]) ∧ Below base w w' := by
  refine ⟨?_, ((Below.refl base w).alloc hb o).grown hg (by simp; omega) (fun k hk => (hrow.lt k hk).1)⟩
  unfold Row
  rw [icells_append]
  simpa using hown
theorem cell_num_put (w : World) (e : TypeId) (x : Int) : ∀ j u, (icells [x])[j]? = some u → (w.alloc (.cells #[.int .i64 x] e)).cell? ((⟨w.heap.size, 0, none⟩ : Addr).add j) = some u := by
  intro j u hu
  rw [Addr.add_lit, Nat.zero_add, cell_of_row _ _ _ _ _ _ (heap_alloc_new w _)]
  simpa [icells] using hu
theorem icells_one (l : List Int) : ∀ u ∈ icells l, u.oneCell' = true := by
  intro u hu
  obtain ⟨_, _, rfl⟩ := List.mem_map.1 hu
  rfl

end Go.Proofs.Ytcooobnaocbdjaa
