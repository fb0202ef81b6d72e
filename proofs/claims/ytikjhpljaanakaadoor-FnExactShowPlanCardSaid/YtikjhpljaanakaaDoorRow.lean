/-
  Rows of numbers: what holds of their cells; and the small functions of the exact laws over them.
-/
import Derived.Test.YtikjhpljaanakaaDoorProg
import Derived.Test.YtikjhpljaanakaaDoorBytes
import Derived.Laws.AppendOwn
import Derived.Laws.OwnMore
import Derived.Laws.MakeOwn
import Derived.Deep.Onto
import Derived.Deep.QuietTactic
import Derived.BigQuiet
namespace Go.Proofs.YtikjhpljaanakaaDoor
open Go.RowKit
set_option linter.unusedVariables false

theorem Tryd.infoI64 : (Tryd.prog.info? 3).map (fun i => (i.zero, i.size, i.bytes)) = some (some (.int .i64 0), 1, 8) := by kernel_rfl

/-- The cells of a list of numbers. -/
def icells (l : List Int) : List Value := l.map (Value.int .i64)
theorem icells_length (l : List Int) : (icells l).length = l.length := by simp [icells]
theorem icells_append (a b : List Int) : icells (a ++ b) = icells a ++ icells b := by simp [icells]
theorem icells_get (l : List Int) (j : Nat) (h : j < l.length) : (icells l)[j]? = some (.int .i64 (l.getD j 0)) := by simp [icells, List.getD, h]
theorem icells_set (l : List Int) (j : Nat) (x : Int) : (icells l).set j (.int .i64 x) = icells (l.set j x) := by simp [icells]
theorem set_fill (xs : List Int) (k m : Nat) (hk : k < xs.length) : (xs.take k ++ List.replicate (m + 1) 0).set k (xs.getD k 0) = xs.take (k + 1) ++ List.replicate m 0 := by
  have h1 : (xs.take k).length = k := by simp; omega
  rw [List.set_append_right _ _ (by omega), h1, Nat.sub_self, List.replicate_succ, List.set_cons_zero, List.take_add_one, List.getElem?_eq_getElem hk, List.append_assoc]
  simp [List.getD, hk]

/-- A row of numbers below B, as a walk reads it. -/
structure IntsIn (B : Nat) (w : World) (a : Option Addr) (n : Nat) (xs : List Int) : Prop where
  len : xs.length = n
  room : n ≤ 1048576
  cells : ∀ j, j < n → ∃ b o, a = some ⟨b, o, none⟩ ∧ b < B ∧ w.cell? ⟨b, o + j, none⟩ = some (.int .i64 (xs.getD j 0))
theorem IntsIn.below {B B' : Nat} {w w' : World} {a : Option Addr} {n : Nat} {xs : List Int} (h : IntsIn B w a n xs) (hb : Below B' w w') (hB : B ≤ B') : IntsIn B w' a n xs :=
  ⟨h.len, h.room, fun j hj => by
    obtain ⟨b, o, e1, e2, e3⟩ := h.cells j hj
    exact ⟨b, o, e1, e2, (hb.cell (p := ⟨b, o + j, none⟩) (Nat.lt_of_lt_of_le e2 hB)).trans e3⟩⟩
theorem IntsIn.le {B B' : Nat} {w : World} {a : Option Addr} {n : Nat} {xs : List Int} (h : IntsIn B w a n xs) (hB : B ≤ B') : IntsIn B' w a n xs :=
  ⟨h.len, h.room, fun j hj => by
    obtain ⟨b, o, e1, e2, e3⟩ := h.cells j hj
    exact ⟨b, o, e1, Nat.lt_of_lt_of_le e2 hB, e3⟩⟩

/-- A row of numbers of the call's own, from block 'base' on. -/
def Row (base : Nat) (w : World) (v : Value) (xs : List Int) : Prop := w.ownsRow base 3 1 v xs.length (icells xs)
theorem Row.nil (base : Nat) (w : World) : Row base w (.slice none 0 0) [] := World.ownsRow_nil _ _ _ _
theorem Row.form {base : Nat} {w : World} {v : Value} {xs : List Int} (h : Row base w v xs) : ∃ a cap, v = .slice a xs.length cap ∧ (xs.length ≤ 1048576 → IntsIn w.heap.size w a xs.length xs) := by
  have hcs := fun g (h' : v.ownBlock = some g) => World.ownsRow.cells h (g := g) h'
  have hlt := World.ownsRow.lt h
  rcases h.2 with ⟨rfl, hn⟩ | ⟨g, cap, cur, rfl, hb, hg, _⟩
  · have : xs = [] := List.eq_nil_of_length_eq_zero hn
    subst this
    exact ⟨none, 0, rfl, fun _ => ⟨rfl, by decide, fun j hj => absurd hj (Nat.not_lt_zero _)⟩⟩
  · refine ⟨_, cap, rfl, fun hr => ⟨rfl, hr, fun j hj => ⟨g, 0, rfl, (hlt g rfl).2, ?_⟩⟩⟩
    have := hcs g rfl j _ (icells_get xs j hj)
    rw [Addr.add_lit] at this
    exact this
theorem Row.lt {base : Nat} {w : World} {v : Value} {xs : List Int} (h : Row base w v xs) : ∀ k, v.ownBlock = some k → base ≤ k ∧ k < w.heap.size := World.ownsRow.lt h
theorem Row.le {base base' : Nat} {w : World} {v : Value} {xs : List Int} (h : Row base w v xs) (hB : base' ≤ base) : Row base' w v xs := World.ownsRow.mono h hB
theorem Row.kept {base : Nat} {w w' : World} {v : Value} {xs : List Int} {row : Option Nat} (h : Row base w v xs) (hg : w.grownBy w' row) (hne : v.ownBlock = none ∨ v.ownBlock ≠ row) : Row base w' v xs := World.ownsRow.kept h hg hne
theorem Row.below {base : Nat} {w w' : World} {v : Value} {xs : List Int} (h : Row base w v xs) (hb : Below w.heap.size w w') : Row base w' v xs :=
  h.kept (row := none) ⟨hb.os, hb.tape, hb.output, hb.size, fun b hb' _ => hb.block b hb'⟩ (by
    cases hv : v.ownBlock with
    | none => exact .inl rfl
    | some g => exact .inr (by simp))
/-- A row from base on is no business of what lies below. -/
theorem below_of_grown {base : Nat} {w w' : World} {v : Value} {xs : List Int} (h : Row base w v xs) (hg : w.grownBy w' v.ownBlock) (hB : base ≤ w.heap.size) : Below base w w' :=
  (Below.refl base w).grown hg hB (fun k hk => (h.lt k hk).1)

/-- The marks: k, k+1, .. -/
def marks (k : Int) (n : Nat) : List Int := (List.range n).map (fun (j : Nat) => k + (j : Int))
theorem grownBy_trans' {w w1 w2 : World} {r : Option Nat} (h : w.grownBy w1 r) (k : w1.grownBy w2 r) : w.grownBy w2 r :=
  ⟨k.os.trans h.os, k.tape.trans h.tape, k.output.trans h.output, Nat.le_trans h.size k.size, fun b hb hne => (k.block b (Nat.lt_of_lt_of_le hb h.size) hne).trans (h.block b hb hne)⟩
theorem marks_length (k : Int) (n : Nat) : (marks k n).length = n := by simp [marks]
theorem marks_get (k : Int) (n j : Nat) (h : j < n) : (marks k n).getD j 0 = k + j := by simp [marks, List.getD, h]
theorem marks_set (k : Int) (xs : List Int) (j : Nat) (h : j < xs.length) : (marks k j ++ xs.drop j).set j (k + j) = marks k (j + 1) ++ xs.drop (j + 1) := by
  rw [List.set_append_right _ _ (by rw [marks_length]; omega), marks_length, Nat.sub_self, List.drop_eq_getElem_cons h, List.set_cons_zero]
  simp [marks, List.range_succ]

theorem Row.ints {base : Nat} {w : World} {a : Option Addr} {n c : Nat} {xs : List Int} (h : Row base w (.slice a n c) xs) (hl : xs.length = n) (hr : n ≤ 1048576 := by omega) : IntsIn w.heap.size w a n xs := by
  obtain ⟨a', c', e, hi⟩ := h.form
  cases e
  exact hi (by omega)
theorem Row.form' {base : Nat} {w : World} {v : Value} {n : Nat} {xs : List Int} (h : Row base w v xs) (hl : Hid (xs.length = n)) (hr : n ≤ 1048576) : ∃ a cap, v = .slice a n cap ∧ IntsIn w.heap.size w a n xs := by
  obtain ⟨a, c, e, hi⟩ := h.form
  have := hl.out
  subst this
  exact ⟨a, c, e, hi hr⟩
theorem apart_of {base : Nat} {w : World} {v v2 : Value} {zs : List Int} (h : Row base w v2 zs) (hk : ∀ k, v.ownBlock = some k → k < base) : v2.ownBlock = none ∨ v2.ownBlock ≠ v.ownBlock := by
  cases e : v2.ownBlock with
  | none => exact .inl rfl
  | some g =>
    refine .inr fun e2 => ?_
    have := h.lt g e
    have := hk g e2.symm
    omega
end Go.Proofs.YtikjhpljaanakaaDoor
