import Derived.Test.YtkflinobmagiiaaJoin29
import Derived.Test.YtkflinobmagiiaaJoin31
import Derived.Test.YtkflinobmagiiaaJoin32
import Derived.Test.YtkflinobmagiiaaJoin27
import Derived.Test.YtkflinobmagiiaaJoin21
/-! YtkflinobmagiiaaCfg -/
section

namespace Go.Proofs.Ytkflinobmagiiaa
open Go.RowKit Go.Sort
set_option linter.unusedVariables false

/-- But the blocks of X, all that was there is as it was. -/
def ButA (X : Nat → Prop) (wx wy : World) : Prop := wx.heap.size ≤ wy.heap.size ∧ ∀ b, ¬ X b → b < wx.heap.size → wy.heap[b]? = wx.heap[b]?
theorem ButA.refl (X : Nat → Prop) (wx : World) : ButA X wx wx := ⟨Nat.le_refl _, fun _ _ _ => rfl⟩
theorem ButA.trans {X : Nat → Prop} {wx wy wz : World} (h : ButA X wx wy) (h' : ButA X wy wz) : ButA X wx wz := ⟨Nat.le_trans h.1 h'.1, fun b h1 h2 => (h'.2 b h1 (Nat.lt_of_lt_of_le h2 h.1)).trans (h.2 b h1 h2)⟩
theorem ButA.weak {X X' : Nat → Prop} {wx wy : World} (h : ButA X wx wy) (hX : ∀ b, X b → X' b) : ButA X' wx wy := ⟨h.1, fun b h1 h2 => h.2 b (fun hx => h1 (hX b hx)) h2⟩
theorem ButA.called {X : Nat → Prop} {wx wy : World} (h : Below wx.heap.size wx wy) : ButA X wx wy := ⟨h.size, fun b _ h2 => h.block b h2⟩
theorem ButA.stored {X : Nat → Prop} {g : Nat} (hg : X g) (wx : World) (i : Nat) (u : Value) : ButA X wx (wx.setCell ⟨g, i, none⟩ u) := ⟨by simp, fun b h1 _ => heap_setCell_other _ _ _ _ (by show b ≠ g; exact fun e => h1 (e ▸ hg))⟩
theorem ButA.turned {X : Nat → Prop} {B C : Nat} {wx wy : World} (h : Turned B wx wy C) (hC : X C) : ButA X wx wy := ⟨h.size, fun b h1 h2 => h.block h2 fun e => h1 (e ▸ hC)⟩
theorem ButA.grown {X : Nat → Prop} {wx wy : World} {row : Option Nat} (h : wx.grownBy wy row) (hr : ∀ k, row = some k → X k ∨ wx.heap.size ≤ k) : ButA X wx wy :=
  ⟨h.size, fun b h1 h2 => h.block b h2 fun e => by
    rcases hr b e.symm with h3 | h3
    · exact h1 h3
    · omega⟩
theorem ButA.kept {X I : Nat → Prop} {wx wy : World} (h : ButA X wx wy) (hI : ∀ b, I b → ¬ X b ∧ b < wx.heap.size) : Kept I wx wy := fun b hb => h.2 b (hI b hb).1 (hI b hb).2
/-- A row of one-cell values, of a call's own. -/
def RowT (T : TypeId) (base : Nat) (w : World) (v : Value) (us : List Value) : Prop := w.ownsRow base T 1 v us.length us
theorem RowT.nil (T : TypeId) (base : Nat) (w : World) : RowT T base w (.slice none 0 0) [] := World.ownsRow_nil _ _ _ _
theorem RowT.of_row {base : Nat} {w : World} {v : Value} {xs : List Int} (h : Row base w v xs) : RowT 3 base w v (icells xs) := by
  unfold RowT
  rw [show (icells xs).length = xs.length by simp [icells]]
  exact h
theorem RowT.row {base : Nat} {w : World} {v : Value} {xs : List Int} (h : RowT 3 base w v (icells xs)) : Row base w v xs := by
  have h' := h
  unfold RowT at h'
  rw [show (icells xs).length = xs.length by simp [icells]] at h'
  exact h'
theorem RowT.lt {T : TypeId} {base : Nat} {w : World} {v : Value} {us : List Value} (h : RowT T base w v us) : ∀ k, v.ownBlock = some k → base ≤ k ∧ k < w.heap.size := World.ownsRow.lt h
theorem RowT.but {T : TypeId} {X : Nat → Prop} {base : Nat} {wx wy : World} {v : Value} {us : List Value} (h : RowT T base wx v us) (hb : ButA X wx wy) (hX : ∀ k, v.ownBlock = some k → ¬ X k) : RowT T base wy v us := by
  refine ⟨h.1, h.2.imp id ?_⟩
  rintro ⟨g, cap, cur, rfl, e1, e2, e3⟩
  exact ⟨g, cap, cur, rfl, e1, (hb.2 g (hX g rfl) (h.lt g rfl).2).trans e2, e3⟩
theorem RowT.form {T : TypeId} {base : Nat} {w : World} {v : Value} {us : List Value} (h : RowT T base w v us) : ∃ a cap, v = .slice a us.length cap ∧ us.length ≤ cap ∧ cap ≤ 9223372036854775807 := by
  rcases h.2 with ⟨rfl, hn⟩ | ⟨g, cap, cur, rfl, e1, e2, e3, e4, -⟩
  · exact ⟨none, 0, by rw [hn], by omega, by omega⟩
  · unfold maxLen at e4
    exact ⟨_, cap, rfl, e3, by omega⟩
/-- What lies in a block of another type is no such row. -/
theorem RowT.apart {T : TypeId} {base : Nat} {w : World} {v : Value} {us : List Value} (h : RowT T base w v us) {g : Nat} {cs : Array Value} {t : TypeId} {fz : Nat × Nat} (hg : w.heap[g]? = some (.cells cs t fz)) (ht : t ≠ T) : v.ownBlock ≠ some g := by
  rcases h.2 with ⟨rfl, -⟩ | ⟨g', cap, cur, rfl, -, hg', -⟩
  · simp [Value.ownBlock]
  · intro e
    have : g' = g := by simpa [Value.ownBlock] using e
    subst this
    rw [hg'] at hg
    cases hg
    exact ht rfl
theorem RowT.other {T T' : TypeId} {base base' : Nat} {w : World} {v v' : Value} {us us' : List Value} (h : RowT T base w v us) (h' : RowT T' base' w v' us') (ht : T' ≠ T) : ∀ g, v'.ownBlock = some g → v.ownBlock ≠ some g := fun g hg => by
  rcases h'.2 with ⟨rfl, -⟩ | ⟨g', cap, cur, rfl, -, hg', -⟩
  · simp [Value.ownBlock] at hg
  · obtain rfl : g' = g := by simpa [Value.ownBlock] using hg
    exact h.apart hg' ht
theorem RowT.put {T : TypeId} {base : Nat} {w' : World} {v : Value} {us : List Value} {u : Value} {n : Nat} (h : w'.ownsRow base T 1 v n (us ++ [u])) (hn : us.length + 1 = n) : RowT T base w' v (us ++ [u]) := by
  unfold RowT
  rw [List.length_append]
  subst hn
  exact h
def qcells (l : List Bool) : List Value := l.map Value.bool
theorem qcells_len (l : List Bool) : (qcells l).length = l.length := List.length_map _
theorem qcells_snoc (l : List Bool) (x : Bool) : qcells (l ++ [x]) = qcells l ++ [.bool x] := by simp [qcells]
theorem icells_len (l : List Int) : (icells l).length = l.length := by simp [icells]
theorem icells_snoc (l : List Int) (x : Int) : icells (l ++ [x]) = icells l ++ [.int .i64 x] := by simp [icells]
/-- Such a row of marks as a list. -/
theorem RowT.marks {base : Nat} {w : World} {v : Value} {xs : List Bool} (h : RowT 4 base w v (qcells xs)) : ∃ a c, v = .slice a xs.length c ∧ xs.length ≤ c ∧ c ≤ 9223372036854775807 ∧ ListAt Shape.bool (fun b => v.ownBlock = some b) w a xs.length xs := by
  have hcs := fun g (h' : v.ownBlock = some g) => World.ownsRow.cells h (g := g) h'
  have hl := qcells_len xs
  rcases h.2 with ⟨rfl, hn⟩ | ⟨g, cap, cur, rfl, _, hg, hc, hm, _⟩
  · obtain rfl : xs = [] := List.eq_nil_of_length_eq_zero (by omega)
    exact ⟨none, 0, rfl, Nat.le_refl _, by omega, rfl, fun j x hx => by simp at hx⟩
  · unfold maxLen at hm
    refine ⟨_, cap, by rw [hl], by omega, by omega, rfl, fun j x hx => ⟨g, 0, [.bool x], rfl, rfl, fun i u hu => ?_, rfl⟩⟩
    have hj : (qcells xs)[j]? = some (.bool x) := by unfold qcells; rw [List.getElem?_map, hx]; rfl
    have := hcs g rfl j _ hj
    rw [Addr.add_lit] at this
    cases i with
    | zero => cases hu; simpa [Shape.bool] using this
    | succ i => simp at hu
theorem RowT.nums {base : Nat} {w : World} {v : Value} {xs : List Int} (h : RowT 3 base w v (icells xs)) : ∃ a c, v = .slice a xs.length c ∧ xs.length ≤ c ∧ c ≤ 9223372036854775807 ∧ ListAt Shape.int (fun b => v.ownBlock = some b) w a xs.length xs := by
  have hcs := fun g (h' : v.ownBlock = some g) => World.ownsRow.cells h (g := g) h'
  have hl := icells_len xs
  rcases h.2 with ⟨rfl, hn⟩ | ⟨g, cap, cur, rfl, _, hg, hc, hm, _⟩
  · obtain rfl : xs = [] := List.eq_nil_of_length_eq_zero (by omega)
    exact ⟨none, 0, rfl, Nat.le_refl _, by omega, rfl, fun j x hx => by simp at hx⟩
  · unfold maxLen at hm
    refine ⟨_, cap, by rw [hl], by omega, by omega, rfl, fun j x hx => ⟨g, 0, [.int .i64 x], rfl, rfl, fun i u hu => ?_, rfl⟩⟩
    have hj : (icells xs)[j]? = some (.int .i64 x) := by unfold icells; rw [List.getElem?_map, hx]; rfl
    have := hcs g rfl j _ hj
    rw [Addr.add_lit] at this
    cases i with
    | zero => cases hu; simpa [Shape.int] using this
    | succ i => simp at hu
theorem boxC {w : World} {g : Nat} {cs : Array Value} {T : TypeId} (h : w.heap[g]? = some (.cells cs T (0, 0))) (i : Nat) (v : Value) (hv : cs[i]? = some v) : w.cell? ⟨g, i, none⟩ = some v := by
  rw [cell_of_row _ _ _ _ _ _ h]
  exact hv
theorem conf_of {I : Nat → Prop} {w : World} {a0 a1 a3 a4 a5 : Option Addr} {n0 c0 n1 c1 n3 c3 n4 c4 n5 c5 b1 b3 b4 b5 : Nat} {m : List dOp} {l : List Int} {ds : Int} {r : List Bool} {cp lm : List Int}
    (hm : ListAt shOp I w a0 n0 m) (p0 : n0 ≤ c0) (q0 : c0 ≤ 9223372036854775807) (h1 : RowT 3 b1 w (.slice a1 n1 c1) (icells l)) (i1 : ∀ k, (Value.slice a1 n1 c1).ownBlock = some k → I k)
    (h3 : RowT 4 b3 w (.slice a3 n3 c3) (qcells r)) (i3 : ∀ k, (Value.slice a3 n3 c3).ownBlock = some k → I k) (h4 : RowT 3 b4 w (.slice a4 n4 c4) (icells cp)) (i4 : ∀ k, (Value.slice a4 n4 c4).ownBlock = some k → I k)
    (h5 : RowT 3 b5 w (.slice a5 n5 c5) (icells lm)) (i5 : ∀ k, (Value.slice a5 n5 c5).ownBlock = some k → I k) :
    shConfig.reads I w [.slice a0 n0 c0, .slice a1 n1 c1, .int .i64 ds, .slice a3 n3 c3, .slice a4 n4 c4, .slice a5 n5 c5] (m, l, ds, r, cp, lm) := by
  obtain ⟨a1', c1', e1, g1, g1', k1⟩ := h1.nums
  obtain ⟨a3', c3', e3, g3, g3', k3⟩ := h3.marks
  obtain ⟨a4', c4', e4, g4, g4', k4⟩ := h4.nums
  obtain ⟨a5', c5', e5, g5, g5', k5⟩ := h5.nums
  cases e1
  cases e3
  cases e4
  cases e5
  exact shConfig_reads.2 ⟨_, _, _, _, _, _, _, _, _, _, _, _, _, _, _, rfl, ⟨p0, q0, hm⟩, ⟨g1, g1', k1.sub i1⟩, ⟨g3, g3', k3.sub i3⟩, ⟨g4, g4', k4.sub i4⟩, ⟨g5, g5', k5.sub i5⟩⟩
theorem conf_small {m : List dOp} {l : List Int} {ds : Int} {r : List Bool} {cp lm : List Int} (hm : SmallM m) (h0 : m.length ≤ 9) (h1 : l.length ≤ 9) (h3 : r.length ≤ 9) (h4 : cp.length ≤ 9) (h5 : lm.length ≤ 9) : shConfig.bulk (m, l, ds, r, cp, lm) ≤ 1048576 := by
  have hs := hm.sum
  have hb : (Shape.list shOp).bulk m = m.length + Shape.sum shOp.bulk m := rfl
  have : m.length * 37 ≤ 9 * 37 := Nat.mul_le_mul_right _ h0
  rw [shConfig_bulk]
  dsimp only
  rw [bulk_ints, bulk_ints, bulk_ints, bulk_bools, hb]
  omega
/-- Six cells of a box. -/
theorem six_box {w : World} {X : Nat} {z0 z1 z2 z3 z4 z5 : Value} {T : TypeId} (h : w.heap[X]? = some (.cells #[z0, z1, z2, z3, z4, z5] T (0, 0))) (u0 u1 u2 u3 u4 u5 : Value) :
    ((((((w.setCell ⟨X, 0, none⟩ u0).setCell ⟨X, 1, none⟩ u1).setCell ⟨X, 2, none⟩ u2).setCell ⟨X, 3, none⟩ u3).setCell ⟨X, 4, none⟩ u4).setCell ⟨X, 5, none⟩ u5).heap[X]? = some (.cells #[u0, u1, u2, u3, u4, u5] T (0, 0)) ∧
    ((((((w.setCell ⟨X, 0, none⟩ u0).setCell ⟨X, 1, none⟩ u1).setCell ⟨X, 2, none⟩ u2).setCell ⟨X, 3, none⟩ u3).setCell ⟨X, 4, none⟩ u4).setCell ⟨X, 5, none⟩ u5).heap.size = w.heap.size ∧
    ∀ b, b ≠ X → ((((((w.setCell ⟨X, 0, none⟩ u0).setCell ⟨X, 1, none⟩ u1).setCell ⟨X, 2, none⟩ u2).setCell ⟨X, 3, none⟩ u3).setCell ⟨X, 4, none⟩ u4).setCell ⟨X, 5, none⟩ u5).heap[b]? = w.heap[b]? := by
  have h1 := heap_setCell_same w X 0 _ T u0 h
  have h2 := heap_setCell_same _ X 1 _ T u1 h1
  have h3 := heap_setCell_same _ X 2 _ T u2 h2
  have h4 := heap_setCell_same _ X 3 _ T u3 h3
  have h5 := heap_setCell_same _ X 4 _ T u4 h4
  have h6 := heap_setCell_same _ X 5 _ T u5 h5
  refine ⟨by simpa only [List.setIfInBounds_toArray, List.set_cons_zero, List.set_cons_succ] using h6, by simp, fun b hb => ?_⟩
  rw [heap_setCell_other _ _ _ _ hb, heap_setCell_other _ _ _ _ hb, heap_setCell_other _ _ _ _ hb, heap_setCell_other _ _ _ _ hb, heap_setCell_other _ _ _ _ hb, heap_setCell_other _ _ _ _ hb]
theorem six_turned {B C X : Nat} {w w1 : World} (h : Turned B w w1 C) (hC : C < w.heap.size) (hX : w.heap.size ≤ X) (u0 u1 u2 u3 u4 u5 : Value) :
    Turned B w ((((((w1.setCell ⟨X, 0, none⟩ u0).setCell ⟨X, 1, none⟩ u1).setCell ⟨X, 2, none⟩ u2).setCell ⟨X, 3, none⟩ u3).setCell ⟨X, 4, none⟩ u4).setCell ⟨X, 5, none⟩ u5) C :=
  (((((h.setCell hC ⟨X, 0, none⟩ u0 hX).setCell hC ⟨X, 1, none⟩ u1 hX).setCell hC ⟨X, 2, none⟩ u2 hX).setCell hC ⟨X, 3, none⟩ u3 hX).setCell hC ⟨X, 4, none⟩ u4 hX).setCell hC ⟨X, 5, none⟩ u5 hX
section
variable {P : Program} {ops : Array Oper} {Q : Exit → Act → World → Prop} {md : Region.Mode} {S : World → Prop}
/-- Two operations may come up, and are wanted. -/
theorem anyK_two {i j : Nat} {o o' : Oper} {fuel : Nat} {listed : Array Bool} {a : Act} {w : World} (hr : Region.ready md ops listed = [i, j])
    (ho : ops[i]? = some o) (hw : Region.wanted o (yielded ops a.tmps) = true) (ho' : ops[j]? = some o') (hw' : Region.wanted o' (yielded ops a.tmps) = true)
    (h : ∀ K : Act → World → Prop, (∀ a' w', (LastOp md ops i ∨ S w') → AnyK P md ops Q S fuel (listed.setIfInBounds i true) a' w' → K a' w') → Oper.wp P o a w K Q)
    (h' : ∀ K : Act → World → Prop, (∀ a' w', (LastOp md ops j ∨ S w') → AnyK P md ops Q S fuel (listed.setIfInBounds j true) a' w' → K a' w') → Oper.wp P o' a w K Q) : AnyK P md ops Q S (fuel + 1) listed a w := by
  refine ⟨fun h0 => ?_, fun k hk => ?_⟩
  · rw [hr] at h0
    cases h0
  · rw [hr] at hk
    rcases List.mem_cons.1 hk with rfl | hk
    · unfold wpOp
      simp only [ho, hw, if_true]
      exact .inl (h _ fun a' w' h1 h2 => ⟨h1, h2⟩)
    · obtain rfl := List.mem_singleton.1 hk
      unfold wpOp
      simp only [ho', hw', if_true]
      exact .inl (h' _ fun a' w' h1 h2 => ⟨h1, h2⟩)
end
end Go.Proofs.Ytkflinobmagiiaa

end

/-! YtkflinobmagiiaaCutM -/
section

namespace Go.Proofs.Ytkflinobmagiiaa
open Go.RowKit
set_option linter.unusedVariables false

/-! ### Right cuts -/
def prevC (l : List Int) (j : Nat) : Int := if j = 0 then 0 else l.getD (j - 1) 0
/-- Rises the cut at a place, and is it below the end? -/
def cutAt (n : Nat) (l : List Int) (j : Nat) : Bool := decide (prevC l j < l.getD j 0) && decide (l.getD j 0 < (n : Int))
def cutsB (n : Nat) (l : List Int) : Bool := (List.range l.length).all (cutAt n l)
def cutsOkB (m : List dOp) (l : List Int) : Bool := modelOkB m && cutsB m.length l
theorem cutAt_has {n : Nat} {l : List Int} {j : Nat} (h : cutAt n l j = true) : prevC l j < l.getD j 0 ∧ l.getD j 0 < (n : Int) := by
  unfold cutAt at h
  simpa using h
theorem cutAt_yes {n : Nat} {l : List Int} {j : Nat} (h1 : prevC l j < l.getD j 0) (h2 : l.getD j 0 < (n : Int)) : cutAt n l j = true := by
  unfold cutAt
  rw [decide_eq_true h1, decide_eq_true h2]
  rfl
theorem cutAt_low {n : Nat} {l : List Int} {j : Nat} (h : l.getD j 0 ≤ prevC l j) : cutAt n l j = false := by
  unfold cutAt
  rw [decide_eq_false (by omega)]
  rfl
theorem cutAt_high {n : Nat} {l : List Int} {j : Nat} (h : (n : Int) ≤ l.getD j 0) : cutAt n l j = false := by
  unfold cutAt
  rw [decide_eq_false (p := l.getD j 0 < (n : Int)) (by omega), Bool.and_false]
theorem prevC_zero (l : List Int) : prevC l 0 = 0 := rfl
theorem prevC_succ (l : List Int) (j : Nat) : prevC l (j + 1) = l.getD j 0 := by
  unfold prevC
  rw [if_neg (by omega), Nat.add_sub_cancel]
theorem cuts_rise {n : Nat} {l : List Int} {k : Nat} (h : ∀ j, j < k → cutAt n l j = true) : ∀ j, j ≤ k → (j : Int) ≤ prevC l j
  | 0, _ => by rw [prevC_zero]; omega
  | j + 1, hj => by
    have h1 := cuts_rise h j (by omega)
    have h2 := (cutAt_has (h j (by omega))).1
    rw [prevC_succ]
    omega
theorem cutsB_no {n : Nat} {l : List Int} {k : Nat} (hk : k < l.length) (h : cutAt n l k = false) : cutsB n l = false := range_some hk h
theorem cutsB_all {n : Nat} {l : List Int} (h : ∀ j, j < l.length → cutAt n l j = true) : cutsB n l = true := range_all h
theorem cutsB_has {n : Nat} {l : List Int} (h : cutsB n l = true) : ∀ j, j < l.length → cutAt n l j = true := fun j hj => List.all_eq_true.1 h j (List.mem_range.2 hj)
theorem cutsOk_l {m : List dOp} {l : List Int} (h : modelOkB m = false) : cutsOkB m l = false := by unfold cutsOkB; rw [h]; rfl
theorem cutsOk_r {m : List dOp} {l : List Int} (h : cutsB m.length l = false) : cutsOkB m l = false := by unfold cutsOkB; rw [h, Bool.and_false]
theorem cutsOk_has {m : List dOp} {l : List Int} (h : cutsOkB m l = true) : modelOkB m = true ∧ 1 ≤ m.length ∧ m.length ≤ 8 ∧ (∀ j, j < l.length → cutAt m.length l j = true) ∧ l.length < m.length := by
  unfold cutsOkB at h
  simp only [Bool.and_eq_true] at h
  have hc := cutsB_has h.2
  obtain ⟨-, h1, h2⟩ := modelOk_has h.1
  refine ⟨h.1, h1, h2, hc, ?_⟩
  by_cases h0 : l.length = 0
  · omega
  · have h3 := cuts_rise hc l.length (Nat.le_refl _)
    have h4 := (cutAt_has (hc (l.length - 1) (by omega))).2
    have h5 : prevC l l.length = l.getD (l.length - 1) 0 := by unfold prevC; rw [if_neg h0]
    omega
/-- Where a stage begins: the cut ahead of it, or 0. -/
theorem prevC_le {m : List dOp} {l : List Int} (h : cutsOkB m l = true) (j : Nat) (hj : j ≤ l.length) : 0 ≤ prevC l j ∧ prevC l j < (m.length : Int) := by
  obtain ⟨-, h1, -, hc, -⟩ := cutsOk_has h
  have h2 := cuts_rise (k := l.length) hc j hj
  refine ⟨by omega, ?_⟩
  cases j with
  | zero => rw [prevC_zero]; omega
  | succ j =>
    rw [prevC_succ]
    exact (cutAt_has (hc j (by omega))).2
/-! ### Stages -/
/-- Where a stage ends. -/
def endC (n : Nat) (l : List Int) (j : Nat) : Int := if j < l.length then l.getD j 0 else (n : Int)
def stageB (m : List dOp) (l : List Int) (s : Int) : Bool := cutsOkB m l && inB 0 (l.length : Int) s
def fromC (m : List dOp) (l : List Int) (s : Int) : Int := if stageB m l s then prevC l s.toNat else 0
def toC (m : List dOp) (l : List Int) (s : Int) : Int := if stageB m l s then endC m.length l s.toNat else 0
theorem stageB_has {m : List dOp} {l : List Int} {s : Int} (h : stageB m l s = true) : cutsOkB m l = true ∧ ∃ j : Nat, s = j ∧ j ≤ l.length := by
  unfold stageB at h
  simp only [Bool.and_eq_true] at h
  have := inB_has h.2
  exact ⟨h.1, s.toNat, by omega, by omega⟩
theorem stageB_yes {m : List dOp} {l : List Int} {j : Nat} (h : cutsOkB m l = true) (hj : j ≤ l.length) : stageB m l (j : Int) = true := by
  unfold stageB
  rw [h, inB_yes (by omega) (by omega)]
  rfl
theorem endC_in {m : List dOp} {l : List Int} (h : cutsOkB m l = true) (j : Nat) (hj : j ≤ l.length) : prevC l j < endC m.length l j ∧ endC m.length l j ≤ (m.length : Int) := by
  obtain ⟨-, -, -, hc, -⟩ := cutsOk_has h
  unfold endC
  by_cases hl : j < l.length
  · rw [if_pos hl]
    have := cutAt_has (hc j hl)
    omega
  · rw [if_neg hl]
    have := (prevC_le h j hj).2
    omega
/-- A stage's range lies in the model. -/
theorem range_in (m : List dOp) (l : List Int) (s : Int) : ∃ f t : Nat, fromC m l s = f ∧ toC m l s = t ∧ f ≤ t ∧ t ≤ m.length := by
  unfold fromC toC
  cases h : stageB m l s with
  | false => exact ⟨0, 0, rfl, rfl, Nat.le_refl _, Nat.zero_le _⟩
  | true =>
    obtain ⟨hc, j, rfl, hj⟩ := stageB_has h
    have h1 := prevC_le hc j hj
    have h2 := endC_in hc j hj
    simp only [if_true, Int.toNat_natCast]
    exact ⟨(prevC l j).toNat, (endC m.length l j).toNat, by omega, by omega, by omega, by omega⟩
/-! ### What stages cost -/
def opC (x : dOp) : Int := opCostN x.1 x.2.1 x.2.2.1 x.2.2.2
theorem opC_in (x : dOp) : 0 ≤ opC x ∧ opC x ≤ 36 := by
  unfold opC opCostN
  split
  · rename_i h
    obtain ⟨a, b, ea, eb, ha, hb, -⟩ := opOkB_has h
    rw [ea, eb]
    split
    · have h1 : a * b ≤ 6 * 6 := Nat.mul_le_mul ha.2 hb.2
      have h2 : (a : Int) * (b : Int) = ((a * b : Nat) : Int) := by push_cast; rfl
      rw [h2]
      omega
    · split <;> omega
  · omega
/-- The cost of all ahead of a place. -/
def costTo (m : List dOp) : Nat → Int
  | 0 => 0
  | k + 1 => costTo m k + opC (opAt m k)
theorem costTo_in (m : List dOp) : ∀ k, 0 ≤ costTo m k ∧ costTo m k ≤ 36 * (k : Int)
  | 0 => by simp [costTo]
  | k + 1 => by
    have h1 := costTo_in m k
    have h2 := opC_in (opAt m k)
    unfold costTo
    omega
theorem costTo_le (m : List dOp) {a b : Nat} (h : a ≤ b) : costTo m a ≤ costTo m b := by
  induction b with
  | zero => obtain rfl : a = 0 := by omega
            exact Int.le_refl _
  | succ b ih =>
    by_cases e : a = b + 1
    · rw [e]; exact Int.le_refl _
    · have h1 := ih (by omega)
      have h2 := opC_in (opAt m b)
      show costTo m a ≤ costTo m b + opC (opAt m b)
      omega
def costC (m : List dOp) (l : List Int) (s : Int) : Int := costTo m (toC m l s).toNat - costTo m (fromC m l s).toNat
theorem costC_in (m : List dOp) (l : List Int) (s : Int) : 0 ≤ costC m l s ∧ costC m l s ≤ 288 := by
  unfold costC
  obtain ⟨f, t, e1, e2, h1, h2⟩ := range_in m l s
  rw [e1, e2, Int.toNat_natCast, Int.toNat_natCast]
  have h3 := costTo_le m h1
  have h4 := costTo_in m f
  have h5 := costTo_in m t
  cases h : stageB m l s with
  | false =>
    have e3 : toC m l s = 0 := by unfold toC; rw [h]; rfl
    obtain rfl : t = 0 := by omega
    obtain rfl : f = 0 := by omega
    omega
  | true =>
    obtain ⟨-, -, h8, -⟩ := cutsOk_has (stageB_has h).1
    omega
/-- The greatest cost of the first k stages. -/
def maxTo (m : List dOp) (l : List Int) : Nat → Int
  | 0 => 0
  | k + 1 => max (maxTo m l k) (costC m l (k : Int))
def maxC (m : List dOp) (l : List Int) : Int := if cutsOkB m l then maxTo m l (l.length + 1) else 0
theorem maxTo_in (m : List dOp) (l : List Int) : ∀ k, 0 ≤ maxTo m l k ∧ maxTo m l k ≤ 288
  | 0 => by simp [maxTo]
  | k + 1 => by
    have h1 := maxTo_in m l k
    have h2 := costC_in m l (k : Int)
    unfold maxTo
    omega
theorem maxC_in (m : List dOp) (l : List Int) : 0 ≤ maxC m l ∧ maxC m l ≤ 288 := by
  unfold maxC
  split
  · exact maxTo_in m l _
  · omega
theorem maxTo_ge (m : List dOp) (l : List Int) {j k : Nat} (h : j < k) : costC m l (j : Int) ≤ maxTo m l k := by
  induction k with
  | zero => omega
  | succ k ih =>
    unfold maxTo
    by_cases e : j = k
    · subst e; omega
    · have := ih (by omega); omega
theorem maxC_yes {m : List dOp} {l : List Int} (h : cutsOkB m l = true) : maxC m l = maxTo m l (l.length + 1) := by unfold maxC; rw [if_pos h]
theorem maxC_no {m : List dOp} {l : List Int} (h : cutsOkB m l = false) : maxC m l = 0 := by unfold maxC; rw [if_neg (by rw [h]; decide)]
/-! ### All ways -/
/-- The ways to cut so many operations c times, no cut ahead of lo. -/
def waysFrom (n : Nat) : Nat → Nat → List (List Int)
  | 0, _ => [[]]
  | c + 1, lo => ((List.range n).filter fun x => decide (lo ≤ x)).flatMap fun x => (waysFrom n c (x + 1)).map fun l => (x : Int) :: l
/-- All ways to cut n operations in k stages. -/
def ways (n k : Nat) : List (List Int) := waysFrom n (k - 1) 1
def stuckB (n : Nat) (l : List Int) (j : Nat) : Bool := !decide (l.getD j 0 + ((l.length - j : Nat) : Int) < (n : Int))
/-- The next way is made of one at a place. -/
def nextAt (l : List Int) (i : Nat) : List Int := mapK (fun j => if j < i then l.getD j 0 else l.getD i 0 + 1 + ((j - i : Nat) : Int)) l.length
def firstW (c : Nat) : List Int := mapK (fun j => 1 + (j : Int)) c
/-- Follows the one on the other? -/
def stepWayB (n : Nat) (l l' : List Int) : Bool := (List.range l.length).any fun i => !stuckB n l i && ((List.range l.length).all fun j => decide (j ≤ i) || stuckB n l j) && decide (l' = nextAt l i)
def lastWayB (n : Nat) (l : List Int) : Bool := (List.range l.length).all (stuckB n l)
def chainWayB (n : Nat) : List (List Int) → Bool
  | [] => false
  | [l] => lastWayB n l
  | l :: l' :: r => stepWayB n l l' && chainWayB n (l' :: r)
/-- All that is asked of the ways, checked one by one. -/
def waysB (n k : Nat) : Bool := chainWayB n (ways n k) && decide ((ways n k)[0]? = some (firstW (k - 1))) && (ways n k).all (fun l => decide (l.length = k - 1) && cutsB n l) && decide ((ways n k).length ≤ 35) && decide (1 ≤ (ways n k).length)
theorem ways_checked : ((List.range 9).all fun n => (List.range 9).all fun k => !(decide (1 ≤ k) && decide (k ≤ n)) || waysB n k) = true := by decide +kernel
theorem waysB_in {n k : Nat} (hk : 1 ≤ k) (hn : k ≤ n) (h8 : n ≤ 8) : waysB n k = true := by
  have h1 := List.all_eq_true.1 ways_checked n (List.mem_range.2 (by omega))
  have h2 := List.all_eq_true.1 h1 k (List.mem_range.2 (by omega))
  rw [decide_eq_true hk, decide_eq_true hn] at h2
  simpa using h2
theorem chain_step {n : Nat} : ∀ {L : List (List Int)} {p : Nat} {l l' : List Int}, chainWayB n L = true → L[p]? = some l → L[p + 1]? = some l' → stepWayB n l l' = true
  | [], _, _, _, h, _, _ => by cases h
  | [_], p, _, _, _, _, h2 => by simp at h2
  | a :: b :: r, 0, _, _, h, h1, h2 => by
    simp only [chainWayB, Bool.and_eq_true] at h
    simp only [List.getElem?_cons_zero, List.getElem?_cons_succ, Option.some.injEq] at h1 h2
    subst h1 h2
    exact h.1
  | a :: b :: r, p + 1, _, _, h, h1, h2 => by
    simp only [chainWayB, Bool.and_eq_true] at h
    rw [List.getElem?_cons_succ] at h1 h2
    exact chain_step h.2 h1 h2
theorem chain_last {n : Nat} : ∀ {L : List (List Int)} {p : Nat} {l : List Int}, chainWayB n L = true → L[p]? = some l → L.length = p + 1 → lastWayB n l = true
  | [], _, _, h, _, _ => by cases h
  | [a], 0, _, h, h1, _ => by
    simp only [List.getElem?_cons_zero, Option.some.injEq] at h1
    subst h1
    exact h
  | [_], p + 1, _, _, h1, _ => by simp at h1
  | a :: b :: r, 0, _, _, _, h2 => by simp at h2
  | a :: b :: r, p + 1, _, h, h1, h2 => by
    simp only [chainWayB, Bool.and_eq_true] at h
    rw [List.getElem?_cons_succ] at h1
    exact chain_last h.2 h1 (by simpa using h2)
structure WaysAt (n k : Nat) : Prop where
  first : (ways n k)[0]? = some (firstW (k - 1))
  len : ∀ (p : Nat) (l : List Int), (ways n k)[p]? = some l → l.length = k - 1 ∧ cutsB n l = true
  step : ∀ (p : Nat) (l l' : List Int), (ways n k)[p]? = some l → (ways n k)[p + 1]? = some l' → ∃ i, i < k - 1 ∧ stuckB n l i = false ∧ (∀ j, i < j → j < k - 1 → stuckB n l j = true) ∧ l' = nextAt l i
  last : ∀ (p : Nat) (l : List Int), (ways n k)[p]? = some l → (ways n k).length = p + 1 → ∀ j, j < k - 1 → stuckB n l j = true
  few : (ways n k).length ≤ 35
  some : 1 ≤ (ways n k).length
theorem ways_at {n k : Nat} (hk : 1 ≤ k) (hn : k ≤ n) (h8 : n ≤ 8) : WaysAt n k := by
  have h := waysB_in hk hn h8
  unfold waysB at h
  simp only [Bool.and_eq_true, decide_eq_true_eq, List.all_eq_true] at h
  obtain ⟨⟨⟨⟨h1, h2⟩, h3⟩, h4⟩, h5⟩ := h
  have hlen : ∀ (p : Nat) (l : List Int), (ways n k)[p]? = .some l → l.length = k - 1 ∧ cutsB n l = true := fun p l hl => h3 l (List.mem_of_getElem? hl)
  refine ⟨h2, hlen, fun p l l' hl hl' => ?_, fun p l hl he j hj => ?_, h4, h5⟩
  · have hs := chain_step h1 hl hl'
    unfold stepWayB at hs
    simp only [List.any_eq_true, List.mem_range, Bool.and_eq_true, Bool.not_eq_true', List.all_eq_true, Bool.or_eq_true, decide_eq_true_eq] at hs
    obtain ⟨i, hi, ⟨s1, s2⟩, s3⟩ := hs
    have e := (hlen p l hl).1
    refine ⟨i, by omega, s1, fun j hj hjk => ?_, s3⟩
    exact (s2 j (by omega)).resolve_left (by omega)
  · have hs := chain_last h1 hl he
    unfold lastWayB at hs
    have e := (hlen p l hl).1
    exact List.all_eq_true.1 hs j (List.mem_range.2 (by omega))
/-- Ways rise: each has a greater rank than the one ahead. -/
def rankW (l : List Int) : Nat := l.foldl (fun a x => a * 9 + x.toNat) 0
def rankedB : List (List Int) → Bool
  | [] => true
  | [l] => decide (rankW l < 5000000)
  | l :: l' :: r => decide (rankW l < rankW l') && rankedB (l' :: r)
theorem ways_ranked : ((List.range 9).all fun n => (List.range 9).all fun k => !(decide (1 ≤ k) && decide (k ≤ n)) || rankedB (ways n k)) = true := by decide +kernel
theorem ranked_in {n k : Nat} (hk : 1 ≤ k) (hn : k ≤ n) (h8 : n ≤ 8) : rankedB (ways n k) = true := by
  have h1 := List.all_eq_true.1 ways_ranked n (List.mem_range.2 (by omega))
  have h2 := List.all_eq_true.1 h1 k (List.mem_range.2 (by omega))
  rw [decide_eq_true hk, decide_eq_true hn] at h2
  simpa using h2
theorem ranked_step : ∀ {L : List (List Int)} {p : Nat} {l l' : List Int}, rankedB L = true → L[p]? = some l → L[p + 1]? = some l' → rankW l < rankW l'
  | [], _, _, _, _, h1, _ => by simp at h1
  | [_], p, _, _, _, _, h2 => by simp at h2
  | a :: b :: r, 0, _, _, h, h1, h2 => by
    simp only [rankedB, Bool.and_eq_true, decide_eq_true_eq] at h
    simp only [List.getElem?_cons_zero, List.getElem?_cons_succ, Option.some.injEq] at h1 h2
    subst h1 h2
    exact h.1
  | a :: b :: r, p + 1, _, _, h, h1, h2 => by
    simp only [rankedB, Bool.and_eq_true, decide_eq_true_eq] at h
    rw [List.getElem?_cons_succ] at h1 h2
    exact ranked_step h.2 h1 h2
theorem ranked_top : ∀ {L : List (List Int)} {p : Nat} {l : List Int}, rankedB L = true → L[p]? = some l → rankW l < 5000000
  | [], _, _, _, h1 => by simp at h1
  | [a], 0, _, h, h1 => by
    simp only [rankedB, decide_eq_true_eq] at h
    simp only [List.getElem?_cons_zero, Option.some.injEq] at h1
    subst h1
    exact h
  | [_], p + 1, _, _, h1 => by simp at h1
  | a :: b :: r, 0, _, h, h1 => by
    simp only [rankedB, Bool.and_eq_true, decide_eq_true_eq] at h
    simp only [List.getElem?_cons_zero, Option.some.injEq] at h1
    subst h1
    have := ranked_top (p := 0) h.2 rfl
    omega
  | a :: b :: r, p + 1, _, h, h1 => by
    simp only [rankedB, Bool.and_eq_true, decide_eq_true_eq] at h
    rw [List.getElem?_cons_succ] at h1
    exact ranked_top h.2 h1
theorem stage_j {m : List dOp} {l : List Int} {j : Nat} (h : cutsOkB m l = true) (hj : j ≤ l.length) : fromC m l (j : Int) = prevC l j ∧ toC m l (j : Int) = endC m.length l j := by
  unfold fromC toC
  rw [stageB_yes h hj, Int.toNat_natCast]
  exact ⟨rfl, rfl⟩
theorem stage_no {m : List dOp} {l : List Int} {s : Int} (h : stageB m l s = false) : fromC m l s = 0 ∧ toC m l s = 0 := by
  unfold fromC toC
  rw [h]
  exact ⟨rfl, rfl⟩
theorem stageB_l {m : List dOp} {l : List Int} {s : Int} (h : cutsOkB m l = false) : stageB m l s = false := by unfold stageB; rw [h]; rfl
theorem stageB_r {m : List dOp} {l : List Int} {s : Int} (h : inB 0 (l.length : Int) s = false) : stageB m l s = false := by unfold stageB; rw [h, Bool.and_false]
theorem prevC_pos {l : List Int} {i j : Nat} (h : j = i + 1) : prevC l j = l.getD i 0 := by subst h; exact prevC_succ l i
theorem endC_lt {n : Nat} {l : List Int} {j : Nat} (h : j < l.length) : endC n l j = l.getD j 0 := if_pos h
theorem endC_ge {n : Nat} {l : List Int} {j : Nat} (h : ¬ j < l.length) : endC n l j = (n : Int) := if_neg h
theorem fill_model {m : List dOp} {k : Nat} {x : dOp} (hx : m[k]? = some x) : costTo m (k + 1) = costTo m k + opC x := by
  show costTo m k + opC (opAt m k) = _
  rw [opAt_get hx]
theorem maxTo_succ (m : List dOp) (l : List Int) (k : Nat) : maxTo m l (k + 1) = max (maxTo m l k) (costC m l (k : Int)) := rfl
end Go.Proofs.Ytkflinobmagiiaa

end
