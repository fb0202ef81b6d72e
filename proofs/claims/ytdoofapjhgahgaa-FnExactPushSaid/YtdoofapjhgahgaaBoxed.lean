/-
  A struct that a call has answered, in its box, where the box may have been laid ahead of the call or behind it. Of no program.
-/
import Derived.Test.YtdoofapjhgahgaaOwn
namespace Go.Proofs.Ytdoofapjhgahgaa
open Go.RowKit
set_option linter.unusedVariables false
set_option linter.unusedSimpArgs false

/-- A box that was laid behind W. -/
def BoxIn (W w : World) (g : Nat) (o : Obj) : Prop := w.heap[g]? = some o ∧ W.heap.size ≤ g ∧ g < w.heap.size
theorem BoxIn.call {W w w' : World} {g : Nat} {o : Obj} (h : BoxIn W w g o) (hb : Below w.heap.size w w') : BoxIn W w' g o :=
  ⟨(hb.block g h.2.2).trans h.1, h.2.1, Nat.lt_of_lt_of_le h.2.2 hb.size⟩
theorem BoxIn.new {W w : World} (h : Below W.heap.size W w) (o : Obj) : BoxIn W (w.alloc o) w.heap.size o :=
  ⟨heap_alloc_new w o, h.size, by simp⟩
theorem BoxIn.drew {W w : World} {g : Nat} {o : Obj} (h : BoxIn W w g o) : BoxIn W w.drew g o := h
/-- What came out lies in its box, and reads. -/
def BoxedR {α : Type} (S : Shape α) (T : TypeId) (W wx : World) (t : Value) (v : α) : Prop :=
  ∃ g es, t = .pointer (some ⟨g, 0, none⟩) ∧ wx.heap[g]? = some (.cells es.toArray T (0, 0)) ∧ S.reads (Under wx.heap.size) wx es v ∧ W.heap.size ≤ g ∧ g < wx.heap.size ∧ Below W.heap.size W wx
theorem BoxedR.last {α : Type} {S : Shape α} {T : TypeId} {W w : World} {lo : Nat} {es : List Value} {v : α} (hB : Below W.heap.size W w) (hr : S.reads (From lo w.heap.size) w es v) :
    BoxedR S T W (w.alloc (.cells es.toArray T (0, 0))) (.pointer (some ⟨w.heap.size, 0, none⟩)) v := by
  have ha := (Below.refl w.heap.size w).alloc (Nat.le_refl _) (.cells es.toArray T (0, 0))
  exact ⟨_, es, rfl, heap_alloc_new w _, S.le (S.below (S.under hr) ha (Nat.le_refl _)) ha.size, hB.size, by simp, hB.trans (ha.mono hB.size)⟩
theorem BoxedR.early {α : Type} {S : Shape α} {T : TypeId} {W w : World} {lo g : Nat} {Z : Array Value} {es : List Value} {v : α} (hB : Below W.heap.size W w) (hr : S.reads (From lo w.heap.size) w es v)
    (hx : BoxIn W w g (.cells Z T (0, 0))) (hg : g < lo) (hz : Z.size = es.length) : BoxedR S T W (w.setCells g 0 es) (.pointer (some ⟨g, 0, none⟩)) v := by
  have hs := size_setCells g es 0 w
  have hT : Touched (fun b _ => b = g) w (w.setCells g 0 es) := touched_setCells _ _ _ _ fun _ _ => rfl
  refine ⟨g, es, rfl, ?_, ?_, hx.2.1, by rw [hs]; exact hx.2.2, below_setCells g hx.2.1 _ _ _ hB⟩
  · have := heap_setCells_all g T es [] Z.toList w (by simpa using hz) (by simpa using hx.1)
    simpa using this
  · rw [hs]
    exact S.under (S.keep hr fun b hb => hT.block b fun _ e => by
      have e' : b = g := e
      have := hb.1
      omega)
theorem BoxedR.early1 {α : Type} {S : Shape α} {T : TypeId} {W w : World} {lo g : Nat} {v0 z0 : Value} {v : α} (hB : Below W.heap.size W w) (hr : S.reads (From lo w.heap.size) w [v0] v)
    (hx : BoxIn W w g (.cells #[z0] T (0, 0))) (hg : g < lo) : BoxedR S T W (w.setCell ⟨g, 0, none⟩ v0) (.pointer (some ⟨g, 0, none⟩)) v := by
  have h := BoxedR.early hB hr hx hg rfl
  simp only [World.setCells, Nat.zero_add, Nat.reduceAdd] at h
  exact h
theorem BoxedR.early2 {α : Type} {S : Shape α} {T : TypeId} {W w : World} {lo g : Nat} {v0 v1 z0 z1 : Value} {v : α} (hB : Below W.heap.size W w) (hr : S.reads (From lo w.heap.size) w [v0, v1] v)
    (hx : BoxIn W w g (.cells #[z0, z1] T (0, 0))) (hg : g < lo) : BoxedR S T W ((w.setCell ⟨g, 0, none⟩ v0).setCell ⟨g, 1, none⟩ v1) (.pointer (some ⟨g, 0, none⟩)) v := by
  have h := BoxedR.early hB hr hx hg rfl
  simp only [World.setCells, Nat.zero_add, Nat.reduceAdd] at h
  exact h
theorem BoxedR.early3 {α : Type} {S : Shape α} {T : TypeId} {W w : World} {lo g : Nat} {v0 v1 v2 z0 z1 z2 : Value} {v : α} (hB : Below W.heap.size W w) (hr : S.reads (From lo w.heap.size) w [v0, v1, v2] v)
    (hx : BoxIn W w g (.cells #[z0, z1, z2] T (0, 0))) (hg : g < lo) : BoxedR S T W (((w.setCell ⟨g, 0, none⟩ v0).setCell ⟨g, 1, none⟩ v1).setCell ⟨g, 2, none⟩ v2) (.pointer (some ⟨g, 0, none⟩)) v := by
  have h := BoxedR.early hB hr hx hg rfl
  simp only [World.setCells, Nat.zero_add, Nat.reduceAdd] at h
  exact h
theorem BoxedR.early4 {α : Type} {S : Shape α} {T : TypeId} {W w : World} {lo g : Nat} {v0 v1 v2 v3 z0 z1 z2 z3 : Value} {v : α} (hB : Below W.heap.size W w) (hr : S.reads (From lo w.heap.size) w [v0, v1, v2, v3] v)
    (hx : BoxIn W w g (.cells #[z0, z1, z2, z3] T (0, 0))) (hg : g < lo) : BoxedR S T W ((((w.setCell ⟨g, 0, none⟩ v0).setCell ⟨g, 1, none⟩ v1).setCell ⟨g, 2, none⟩ v2).setCell ⟨g, 3, none⟩ v3) (.pointer (some ⟨g, 0, none⟩)) v := by
  have h := BoxedR.early hB hr hx hg rfl
  simp only [World.setCells, Nat.zero_add, Nat.reduceAdd] at h
  exact h
theorem BoxedR.early5 {α : Type} {S : Shape α} {T : TypeId} {W w : World} {lo g : Nat} {v0 v1 v2 v3 v4 z0 z1 z2 z3 z4 : Value} {v : α} (hB : Below W.heap.size W w) (hr : S.reads (From lo w.heap.size) w [v0, v1, v2, v3, v4] v)
    (hx : BoxIn W w g (.cells #[z0, z1, z2, z3, z4] T (0, 0))) (hg : g < lo) : BoxedR S T W (((((w.setCell ⟨g, 0, none⟩ v0).setCell ⟨g, 1, none⟩ v1).setCell ⟨g, 2, none⟩ v2).setCell ⟨g, 3, none⟩ v3).setCell ⟨g, 4, none⟩ v4) (.pointer (some ⟨g, 0, none⟩)) v := by
  have h := BoxedR.early hB hr hx hg rfl
  simp only [World.setCells, Nat.zero_add, Nat.reduceAdd] at h
  exact h
theorem BoxedR.early6 {α : Type} {S : Shape α} {T : TypeId} {W w : World} {lo g : Nat} {v0 v1 v2 v3 v4 v5 z0 z1 z2 z3 z4 z5 : Value} {v : α} (hB : Below W.heap.size W w) (hr : S.reads (From lo w.heap.size) w [v0, v1, v2, v3, v4, v5] v)
    (hx : BoxIn W w g (.cells #[z0, z1, z2, z3, z4, z5] T (0, 0))) (hg : g < lo) : BoxedR S T W ((((((w.setCell ⟨g, 0, none⟩ v0).setCell ⟨g, 1, none⟩ v1).setCell ⟨g, 2, none⟩ v2).setCell ⟨g, 3, none⟩ v3).setCell ⟨g, 4, none⟩ v4).setCell ⟨g, 5, none⟩ v5) (.pointer (some ⟨g, 0, none⟩)) v := by
  have h := BoxedR.early hB hr hx hg rfl
  simp only [World.setCells, Nat.zero_add, Nat.reduceAdd] at h
  exact h
theorem BoxedR.early7 {α : Type} {S : Shape α} {T : TypeId} {W w : World} {lo g : Nat} {v0 v1 v2 v3 v4 v5 v6 z0 z1 z2 z3 z4 z5 z6 : Value} {v : α} (hB : Below W.heap.size W w) (hr : S.reads (From lo w.heap.size) w [v0, v1, v2, v3, v4, v5, v6] v)
    (hx : BoxIn W w g (.cells #[z0, z1, z2, z3, z4, z5, z6] T (0, 0))) (hg : g < lo) : BoxedR S T W (((((((w.setCell ⟨g, 0, none⟩ v0).setCell ⟨g, 1, none⟩ v1).setCell ⟨g, 2, none⟩ v2).setCell ⟨g, 3, none⟩ v3).setCell ⟨g, 4, none⟩ v4).setCell ⟨g, 5, none⟩ v5).setCell ⟨g, 6, none⟩ v6) (.pointer (some ⟨g, 0, none⟩)) v := by
  have h := BoxedR.early hB hr hx hg rfl
  simp only [World.setCells, Nat.zero_add, Nat.reduceAdd] at h
  exact h
theorem BoxedR.early8 {α : Type} {S : Shape α} {T : TypeId} {W w : World} {lo g : Nat} {v0 v1 v2 v3 v4 v5 v6 v7 z0 z1 z2 z3 z4 z5 z6 z7 : Value} {v : α} (hB : Below W.heap.size W w) (hr : S.reads (From lo w.heap.size) w [v0, v1, v2, v3, v4, v5, v6, v7] v)
    (hx : BoxIn W w g (.cells #[z0, z1, z2, z3, z4, z5, z6, z7] T (0, 0))) (hg : g < lo) : BoxedR S T W ((((((((w.setCell ⟨g, 0, none⟩ v0).setCell ⟨g, 1, none⟩ v1).setCell ⟨g, 2, none⟩ v2).setCell ⟨g, 3, none⟩ v3).setCell ⟨g, 4, none⟩ v4).setCell ⟨g, 5, none⟩ v5).setCell ⟨g, 6, none⟩ v6).setCell ⟨g, 7, none⟩ v7) (.pointer (some ⟨g, 0, none⟩)) v := by
  have h := BoxedR.early hB hr hx hg rfl
  simp only [World.setCells, Nat.zero_add, Nat.reduceAdd] at h
  exact h
end Go.Proofs.Ytdoofapjhgahgaa
