/-
  Rows of pairs of numbers: what holds of their cells. Of no program.
-/
import Derived.Test.YtcooobnaocbdjaaGrow
namespace Go.Proofs.Ytcooobnaocbdjaa
open Go.RowKit
set_option linter.unusedVariables false

abbrev dTwo := Int × Int
def shTwo : Shape dTwo := .struct (.cons .int (.last .int))
theorem shTwo_size : shTwo.size = 2 := rfl
theorem shTwo_reads {I : Nat → Prop} {w : World} {cs : List Value} {d : dTwo} : shTwo.reads I w cs d ↔ cs = [.int .i64 d.1, .int .i64 d.2] := by
  constructor
  · rintro ⟨_, _, rfl, rfl, rfl⟩
    rfl
  · rintro rfl
    exact ⟨_, _, rfl, rfl, rfl⟩
/-- The cells of a list of pairs. -/
def tcells : List dTwo → List Value
  | [] => []
  | x :: xs => .int .i64 x.1 :: .int .i64 x.2 :: tcells xs
theorem tcells_length : ∀ l : List dTwo, (tcells l).length = l.length * 2
  | [] => rfl
  | x :: xs => by simp only [tcells, List.length_cons, tcells_length xs]; omega
theorem tcells_append : ∀ a b : List dTwo, tcells (a ++ b) = tcells a ++ tcells b
  | [], b => rfl
  | x :: xs, b => by simp only [List.cons_append, tcells, tcells_append xs b]
theorem tcells_get0 : ∀ (l : List dTwo) (j : Nat), j < l.length → (tcells l)[j * 2]? = some (.int .i64 (l.getD j (0, 0)).1)
  | x :: xs, 0, _ => rfl
  | x :: xs, j + 1, h => by
    rw [show (j + 1) * 2 = j * 2 + 1 + 1 by omega]
    simp only [tcells, List.getElem?_cons_succ, List.getD_cons_succ]
    exact tcells_get0 xs j (by simpa using h)
theorem tcells_get1 : ∀ (l : List dTwo) (j : Nat), j < l.length → (tcells l)[j * 2 + 1]? = some (.int .i64 (l.getD j (0, 0)).2)
  | x :: xs, 0, _ => rfl
  | x :: xs, j + 1, h => by
    rw [show (j + 1) * 2 + 1 = j * 2 + 1 + 1 + 1 by omega]
    simp only [tcells, List.getElem?_cons_succ, List.getD_cons_succ]
    exact tcells_get1 xs j (by simpa using h)
theorem tcells_set : ∀ (l : List dTwo) (j : Nat) (x : dTwo), ((tcells l).set (j * 2) (.int .i64 x.1)).set (j * 2 + 1) (.int .i64 x.2) = tcells (l.set j x)
  | [], j, x => rfl
  | y :: ys, 0, x => rfl
  | y :: ys, j + 1, x => by
    rw [show (j + 1) * 2 = j * 2 + 1 + 1 by omega]
    simp only [tcells, List.set_cons_succ]
    rw [tcells_set ys j x]
theorem tcells_one {l : List dTwo} : ∀ u ∈ tcells l, u.oneCell' = true := by
  induction l with
  | nil => intro u hu; cases hu
  | cons x xs ih =>
    intro u hu
    simp only [tcells, List.mem_cons] at hu
    rcases hu with rfl | rfl | hu
    · rfl
    · rfl
    · exact ih u hu
theorem tset_fill (xs : List dTwo) (k m : Nat) (hk : k < xs.length) : (xs.take k ++ List.replicate (m + 1) (0, 0)).set k (xs.getD k (0, 0)) = xs.take (k + 1) ++ List.replicate m (0, 0) := by
  have h1 : (xs.take k).length = k := by simp; omega
  rw [List.set_append_right _ _ (by omega), h1, Nat.sub_self, List.replicate_succ, List.set_cons_zero, List.take_add_one, List.getElem?_eq_getElem hk, List.append_assoc]
  simp [List.getD, hk]

/-- A row of pairs below B, as a walk reads it. -/
structure TwoIn (B : Nat) (w : World) (a : Option Addr) (n : Nat) (xs : List dTwo) : Prop where
  len : xs.length = n
  room : n ≤ 1048576
  cells : ∀ j, j < n → ∃ b o, a = some ⟨b, o, none⟩ ∧ b < B ∧ w.cell? ⟨b, o + j * 2, none⟩ = some (.int .i64 (xs.getD j (0, 0)).1) ∧ w.cell? ⟨b, o + j * 2 + 1, none⟩ = some (.int .i64 (xs.getD j (0, 0)).2)
theorem TwoIn.below {B B' : Nat} {w w' : World} {a : Option Addr} {n : Nat} {xs : List dTwo} (h : TwoIn B w a n xs) (hb : Below B' w w') (hB : B ≤ B') : TwoIn B w' a n xs :=
  ⟨h.len, h.room, fun j hj => by
    obtain ⟨b, o, e1, e2, e3, e4⟩ := h.cells j hj
    exact ⟨b, o, e1, e2, (hb.cell (p := ⟨b, o + j * 2, none⟩) (Nat.lt_of_lt_of_le e2 hB)).trans e3, (hb.cell (p := ⟨b, o + j * 2 + 1, none⟩) (Nat.lt_of_lt_of_le e2 hB)).trans e4⟩⟩
theorem TwoIn.le {B B' : Nat} {w : World} {a : Option Addr} {n : Nat} {xs : List dTwo} (h : TwoIn B w a n xs) (hB : B ≤ B') : TwoIn B' w a n xs :=
  ⟨h.len, h.room, fun j hj => by
    obtain ⟨b, o, e1, e2, e3⟩ := h.cells j hj
    exact ⟨b, o, e1, Nat.lt_of_lt_of_le e2 hB, e3⟩⟩
theorem ListAt.two {B : Nat} {w : World} {a : Option Addr} {n : Nat} {xs : List dTwo} (h : ListAt shTwo (Under B) w a n xs) (hr : n ≤ 1048576) : TwoIn B w a n xs :=
  ⟨h.1, hr, fun j hj => by
    have hx : xs[j]? = some (xs.getD j (0, 0)) := by
      rw [List.getElem?_eq_getElem (by rw [h.1]; exact hj)]
      simp [List.getD, h.1, hj]
    obtain ⟨b, o, es, e, hb, hr, hs⟩ := h.2 j _ hx
    have hs' := shTwo_reads.1 hs
    subst hs'
    refine ⟨b, o, e, hb, ?_, ?_⟩
    · have := hr 0 _ rfl
      simpa [shTwo_size] using this
    · have := hr 1 _ rfl
      simpa [shTwo_size] using this⟩
theorem ListAt.of_two {B : Nat} {w : World} {a : Option Addr} {n : Nat} {xs : List dTwo} (h : TwoIn B w a n xs) : ListAt shTwo (Under B) w a n xs :=
  ⟨h.len, fun j x hx => by
    have hj := (List.getElem?_eq_some_iff.1 hx).1
    obtain ⟨b, o, e, hb, hc0, hc1⟩ := h.cells j (by rw [← h.len]; exact hj)
    have hxe : xs.getD j (0, 0) = x := by rw [List.getD_eq_getElem?_getD, hx]; rfl
    rw [hxe] at hc0 hc1
    refine ⟨b, o, _, e, hb, fun i v hv => ?_, shTwo_reads.2 rfl⟩
    match i, hv with
    | 0, hv => cases hv; simpa [shTwo_size] using hc0
    | 1, hv => cases hv; simpa [shTwo_size] using hc1
    | i + 2, hv => simp at hv⟩

/-- A row of pairs of the call's own, from block 'base' on. -/
def TwoR (T : TypeId) (base : Nat) (w : World) (v : Value) (xs : List dTwo) : Prop := w.ownsRow base T 2 v xs.length (tcells xs)
variable {T : TypeId}
theorem TwoR.nil (base : Nat) (w : World) : TwoR T base w (.slice none 0 0) [] := World.ownsRow_nil _ _ _ _
theorem TwoR.empty {base : Nat} (w : World) (h : base ≤ w.heap.size) : TwoR T base (w.alloc (.cells #[] T (0, 0))) (.slice (some ⟨w.heap.size, 0, none⟩) 0 0) [] :=
  ⟨by simp [tcells], .inr ⟨w.heap.size, 0, #[], rfl, h, heap_alloc_new w _, Nat.le_refl _, Nat.zero_le _, by simp, by simp [tcells]⟩⟩
theorem TwoR.form {base : Nat} {w : World} {v : Value} {xs : List dTwo} (h : TwoR T base w v xs) : ∃ a cap, v = .slice a xs.length cap ∧ xs.length ≤ cap ∧ cap ≤ 9223372036854775807 ∧ (xs.length ≤ 1048576 → TwoIn w.heap.size w a xs.length xs) := by
  have hcs := fun g (h' : v.ownBlock = some g) => World.ownsRow.cells h (g := g) h'
  have hlt := World.ownsRow.lt h
  rcases h.2 with ⟨rfl, hn⟩ | ⟨g, cap, cur, rfl, hb, hg, hc, hm, -⟩
  · have : xs = [] := List.eq_nil_of_length_eq_zero hn
    subst this
    exact ⟨none, 0, rfl, Nat.le_refl _, by omega, fun _ => ⟨rfl, by decide, fun j hj => absurd hj (Nat.not_lt_zero _)⟩⟩
  · unfold maxLen at hm
    refine ⟨_, cap, rfl, hc, by omega, fun hr => ⟨rfl, hr, fun j hj => ⟨g, 0, rfl, (hlt g rfl).2, ?_, ?_⟩⟩⟩
    · have := hcs g rfl _ _ (tcells_get0 xs j hj)
      rw [Addr.add_lit] at this
      exact this
    · have := hcs g rfl _ _ (tcells_get1 xs j hj)
      rw [Addr.add_lit] at this
      rw [Nat.add_assoc]
      exact this
theorem TwoR.lt {base : Nat} {w : World} {v : Value} {xs : List dTwo} (h : TwoR T base w v xs) : ∀ k, v.ownBlock = some k → base ≤ k ∧ k < w.heap.size := World.ownsRow.lt h
theorem TwoR.le {base base' : Nat} {w : World} {v : Value} {xs : List dTwo} (h : TwoR T base w v xs) (hB : base' ≤ base) : TwoR T base' w v xs := World.ownsRow.mono h hB
theorem TwoR.kept {base : Nat} {w w' : World} {v : Value} {xs : List dTwo} {row : Option Nat} (h : TwoR T base w v xs) (hg : w.grownBy w' row) (hne : v.ownBlock = none ∨ v.ownBlock ≠ row) : TwoR T base w' v xs := World.ownsRow.kept h hg hne
theorem TwoR.below {base : Nat} {w w' : World} {v : Value} {xs : List dTwo} (h : TwoR T base w v xs) (hb : Below w.heap.size w w') : TwoR T base w' v xs :=
  h.kept (row := none) ⟨hb.os, hb.tape, hb.output, hb.size, fun b hb' _ => hb.block b hb'⟩ (by
    cases hv : v.ownBlock with
    | none => exact .inl rfl
    | some g => exact .inr (by simp))
theorem TwoR.grown {base : Nat} {w w' : World} {v : Value} {xs : List dTwo} (h : TwoR T base w v xs) (hg : w.grownBy w' v.ownBlock) (hB : base ≤ w.heap.size) : Below base w w' :=
  (Below.refl base w).grown hg hB (fun k hk => (h.lt k hk).1)
/-- One more, by an append of a row of one. -/
theorem TwoR.put {base : Nat} {w w' : World} {v v' : Value} {xs ys : List dTwo} (h : TwoR T base w v xs) (hB : base ≤ w.heap.size) (o : Obj) (hown : w'.ownsRow base T 2 v' (xs.length + ys.length) (tcells xs ++ tcells ys)) (hg : (w.alloc o).grownBy w' v.ownBlock) : TwoR T base w' v' (xs ++ ys) ∧ Below base w w' := by
  refine ⟨?_, ((Below.refl base w).alloc hB o).grown hg (by simp; omega) fun k hk => (h.lt k hk).1⟩
  unfold TwoR
  rw [List.length_append, tcells_append]
  exact hown
theorem cells_two (w : World) (k m : Int) : ∀ j u, (tcells [(k, m)])[j]? = some u → (w.alloc (.cells #[.int .i64 k, .int .i64 m] T (0, 0))).cell? ((⟨w.heap.size, 0, none⟩ : Addr).add j) = some u := by
  intro j u hu
  rw [Addr.add_lit, cell_of_row _ _ _ _ _ _ (heap_alloc_new w _)]
  simpa [tcells] using hu
/-- What a row of pairs is to the laws that mark. -/
def tmarks (k : Int) (n : Nat) : List dTwo := (List.range n).map fun (j : Nat) => (k + 2 * (j : Int), k + 2 * (j : Int) + 1)
theorem tmarks_length (k : Int) (n : Nat) : (tmarks k n).length = n := by simp [tmarks]
theorem tmarks_get (k : Int) (n j : Nat) (h : j < n) : (tmarks k n).getD j (0, 0) = (k + 2 * (j : Int), k + 2 * (j : Int) + 1) := by simp [tmarks, List.getD, h]
theorem tmarks_set (k : Int) (xs : List dTwo) (j : Nat) (h : j < xs.length) : (tmarks k j ++ xs.drop j).set j (k + 2 * (j : Int), k + 2 * (j : Int) + 1) = tmarks k (j + 1) ++ xs.drop (j + 1) := by
  rw [List.set_append_right _ _ (by rw [tmarks_length]; omega), tmarks_length, Nat.sub_self, List.drop_eq_getElem_cons h, List.set_cons_zero]
  simp [tmarks, List.range_succ]
theorem made_two (z : Value) (n : Nat) : (madeCells #[z, z] n).toList = List.replicate n z := by
  refine List.ext_getElem? fun i => ?_
  by_cases hi : i < n
  · have h1 : i < (madeCells #[z, z] n).toList.length := by rw [Array.length_toList, size_madeCells]; exact hi
    rw [List.getElem?_eq_getElem h1, List.getElem?_eq_getElem (by simpa using hi)]
    simp only [madeCells, Array.getElem_toList, Array.getElem_map, Array.getElem_range, List.getElem_replicate]
    have : i % 2 = 0 ∨ i % 2 = 1 := by omega
    rcases this with h | h <;> simp [h]
  · rw [List.getElem?_eq_none (by rw [Array.length_toList, size_madeCells]; omega), List.getElem?_eq_none (by simp; omega)]
theorem tcells_fill : ∀ n : Nat, tcells (List.replicate n (0, 0)) = List.replicate (n * 2) (.int .i64 0)
  | 0 => rfl
  | n + 1 => by
    rw [show (n + 1) * 2 = n * 2 + 1 + 1 by omega]
    simp only [List.replicate_succ, tcells, tcells_fill n]
theorem TwoR.small {T : TypeId} {base : Nat} {w : World} {v : Value} {xs : List dTwo} {N : Nat} (h : TwoR T base w v xs) (hN : xs.length = N) (hl : N ≤ 100) : ∃ a c, v = .slice a N c ∧ TwoIn w.heap.size w a N xs := by
  subst hN
  obtain ⟨a, c, e, -, -, hi⟩ := h.form
  exact ⟨a, c, e, hi (by omega)⟩
theorem TwoR.slice {T : TypeId} {base : Nat} {w : World} {a : Option Addr} {n c : Nat} {xs : List dTwo} (h : TwoR T base w (.slice a n c) xs) (hn : n ≤ 1048576) : TwoIn w.heap.size w a n xs := by
  obtain ⟨a', c', e, -, -, hi⟩ := h.form
  cases e
  exact hi hn
end Go.Proofs.Ytcooobnaocbdjaa
