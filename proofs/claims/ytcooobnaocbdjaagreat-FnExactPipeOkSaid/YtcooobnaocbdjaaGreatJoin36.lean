/-
  A number more behind a row of the call's own.
-/
import Derived.Test.YtcooobnaocbdjaaGreatJoin1
import Derived.OwnWalk
import Derived.Laws.OwnMore
namespace Go.Proofs.YtcooobnaocbdjaaGreat
open Go.RowKit
set_option linter.unusedVariables false
set_option linter.unusedSimpArgs false

/-- One number more. -/
theorem cells_num (w : World) (k : Int) : ∀ j u, (icells [k])[j]? = some u → (w.alloc (.cells #[.int .i64 k] 3 (0, 0))).cell? ((⟨w.heap.size, 0, none⟩ : Addr).add j) = some u := by
  intro j u hu
  rw [Addr.add_lit, cell_of_row _ _ _ _ _ _ (heap_alloc_new w _)]
  simpa [icells] using hu
theorem icells_oneCell {l : List Int} : ∀ u ∈ icells l, u.oneCell' = true := by
  intro u hu
  obtain ⟨x, -, rfl⟩ := List.mem_map.1 hu
  rfl
theorem wpList_num {ops : Array Oper} {rest : List Oper} {o : Oper} {a : Act} {Q : Exit → Act → World → Prop} (hgd : o.guard = none) (s x : Operand)
    (ho : o.op = .call { callee := .builtin .append, args := #[s, x], argTypes := #[25, 25] }) {base : Nat} {w0 : World} (v : Value) (xs : List Int) (k : Int) (hs : a.eval s = v) (hown : Row base w0 v xs)
    (hx : a.eval x = .slice (some ⟨w0.heap.size, 0, none⟩) 1 1) (hlen : xs.length ≤ 1048000) (hbase : base ≤ w0.heap.size)
    (h : ∀ a' n' c' w', Row base w' (.slice a' n' c') (xs ++ [k]) → Below base w0 w' → wpList Tryz.prog ops Q rest (a.put o.dst (.slice a' n' c')) w') :
    wpList Tryz.prog ops Q (o :: rest) a (w0.alloc (.cells #[.int .i64 k] 3 (0, 0))) := by
  obtain ⟨i0, hi, hz0, hz1, hz2⟩ := info_parts Tryz.infoI64
  refine wpList_append_own _ hgd s x 25 ho base 3 i0 (.int .i64 0) 1 8 Tryz.underlying25 hi hz0 hz1 hz2 rfl (by decide) v xs.length (icells xs) hs (World.ownsRow.alloc hown _) ⟨w0.heap.size, 0, none⟩ 1 1 (icells [k]) hx rfl (cells_num _ _) icells_oneCell (by unfold maxLen; omega) (by omega) (by simp; omega) ?_
  intro v' w' hown' hg _
  have hr : Row base w' v' (xs ++ [k]) := by
    unfold Row
    rw [List.length_append, icells_append]
    exact hown'
  have hb : Below base w0 w' := ((Below.refl base w0).alloc hbase _).grown hg (by simp; omega) fun k hk => (Row.lt hown k hk).1
  obtain ⟨a', c', e, -⟩ := hr.form
  subst e
  exact h _ _ _ w' hr hb

end Go.Proofs.YtcooobnaocbdjaaGreat
