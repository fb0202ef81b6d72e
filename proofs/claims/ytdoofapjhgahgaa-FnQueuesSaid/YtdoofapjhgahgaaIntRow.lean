/-
  From a slice of numbers that came in to what the walks are told.
-/
import Derived.Test.YtdoofapjhgahgaaRow
namespace Go.Proofs.Ytdoofapjhgahgaa
open Go.RowKit
set_option linter.unusedVariables false

/-- What is told of a row that came in. -/
def CameIn (W : World) (a : Option Addr) (len : Nat) : Prop := ∃ xs : List Int, xs.length = len ∧ ∀ j, j < len → ∃ b o, a = some ⟨b, o, none⟩ ∧ b < W.heap.size ∧ W.cell? ⟨b, o + j, none⟩ = some (.int .i64 (xs.getD j 0))
theorem cameIn_nil (W : World) : CameIn W none 0 := ⟨[], rfl, fun j hj => absurd hj (Nat.not_lt_zero _)⟩
theorem cameIn_row (W : World) (x : Addr) (len : Nat) (zs : List Int) (hl : len ≤ zs.length) (hcell : ∀ i, i < zs.length → W.cell? (x.add i) = some (.int .i64 (zs.getD i 0))) : CameIn W (some x) len := by
  refine ⟨zs.take len, by simp [hl], fun j hj => ?_⟩
  obtain ⟨b, off, spot⟩ := x
  have hc := hcell j (by omega)
  have hspot : spot = none := by
    have := World.cell?_spot (hcell 0 (by omega))
    simpa [Addr.add] using this
  subst hspot
  rw [Addr.add_lit] at hc
  refine ⟨b, off, rfl, World.block_lt_of_cell? W _ hc, ?_⟩
  rw [hc]
  simp [List.getD, hj]
end Go.Proofs.Ytdoofapjhgahgaa
