/-
  Data with depth: a list that a call makes, filled place by place. Of no program.
-/
import Derived.Test.YtcooobnaocbdjaaShape
namespace Go.Proofs.Ytcooobnaocbdjaa
open Go.RowKit
set_option linter.unusedVariables false

theorem run_make_many {P : Program} (t e : TypeId) (z : Value) (size bytes : Nat) (ht : P.underlying t = some (.slice e)) (hinfo : (P.info? e).map (fun i => (i.zero, i.size, i.bytes)) = some (some z, size, bytes))
    (n : Nat) (hbytes : bytes * n ≤ 281474976710656) (h63 : n ≤ 9223372036854775807) (w : World) :
    (Instr.makeSlice t (.int .i64 (n : Int)) (.int .i64 (n : Int))).run P w = .ok (.slice (some ⟨w.heap.size, 0, none⟩) n n) (w.alloc (.cells (madeCells z.cells (n * size)) e)) := by
  obtain ⟨i, hi, hzz⟩ := Option.map_eq_some_iff.1 hinfo
  simp only [Prod.mk.injEq] at hzz
  obtain ⟨hz, hs, hb⟩ := hzz
  have hb' : (i.bytes : Int) * (n : Int) ≤ 281474976710656 := by
    have h : ((i.bytes * n : Nat) : Int) ≤ 281474976710656 := by rw [hb]; omega
    rwa [Int.natCast_mul] at h
  have hr := run_make (P := P) w t e i z ht hi hz .i64 .i64 n n (by omega) (Int.le_refl _) hb' (by omega)
  simp only [Int.toNat_natCast, hs] at hr
  exact hr
theorem frozen_of_block {w w' : World} {a : Addr} (h : w'.heap[a.block]? = w.heap[a.block]?) : w'.frozen? a = w.frozen? a := World.frozen?_of_block h
theorem there_below {B : Nat} {w w' : World} {b o n : Nat} (h : w.there b o n) (hw : Below B w w') (hb : b < B) : w'.there b o n := fun j hj => by
  have h0 := h j hj
  rw [hw.cell (p := ⟨b, o + j, none⟩) hb, hw.frozen (p := ⟨b, o + j, none⟩) hb]
  exact h0
theorem there_part {w : World} {b o n o' n' : Nat} (h : w.there b o n) (h0 : o ≤ o') (h1 : o' + n' ≤ o + n) : w.there b o' n' := fun j hj => by
  have := h (o' + j - o) (by omega)
  rwa [show o + (o' + j - o) = o' + j by omega] at this
/-- The cells of what is there. -/
theorem there_cell {w : World} {b o n : Nat} (h : w.there b o n) (j : Nat) (hj : j < n) : (∃ v, w.cell? ⟨b, o + j, none⟩ = some v) ∧ w.frozen? ⟨b, o + j, none⟩ = false := by
  obtain ⟨h0, h1⟩ := h j hj
  exact ⟨Option.isSome_iff_exists.1 h0, h1⟩

/-- The first k places of a list that is made are filled: it lies in the block behind w; what its places lead to lies behind that. -/
structure Filled {α : Type} (S : Shape α) (w wr : World) (n k : Nat) (xs : List α) : Prop where
  below : Below w.heap.size w wr
  lt : w.heap.size < wr.heap.size
  done : ∀ j x, j < k → xs[j]? = some x → ∃ es, wr.rangeAt w.heap.size (j * S.size) es ∧ S.reads (From (w.heap.size + 1) wr.heap.size) wr es x
  rest : wr.there w.heap.size (k * S.size) ((n - k) * S.size)
theorem Filled.start {α : Type} (S : Shape α) (w : World) (n : Nat) (xs : List α) (z : Array Value) (e : TypeId) : Filled S w (w.alloc (.cells (madeCells z (n * S.size)) e)) n 0 xs where
  below := (Below.refl _ _).alloc (Nat.le_refl _) _
  lt := by simp
  done := fun j x hj => absurd hj (Nat.not_lt_zero _)
  rest := fun j hj => by
    have hj' : j < n * S.size := by simpa using hj
    have hb := heap_alloc_new w (.cells (madeCells z (n * S.size)) e)
    constructor
    · rw [cell_of_row _ _ _ _ _ _ hb]
      have : 0 * S.size + j < (madeCells z (n * S.size)).size := by rw [size_madeCells]; omega
      rw [Array.getElem?_eq_getElem this]
      rfl
    · exact frozen_of_row _ _ _ _ _ hb
theorem heap_setCells_other (g : Nat) : ∀ (cs : List Value) (o : Nat) (w : World) (b : Nat), b ≠ g → (w.setCells g o cs).heap[b]? = w.heap[b]?
  | [], _, _, _, _ => rfl
  | v :: vs, o, w, b, hb => by rw [World.setCells, heap_setCells_other g vs (o + 1) _ b hb]; exact Below.heap_setCell _ _ _ _ hb
theorem below_setCells {B : Nat} {a : World} (g : Nat) (hB : B ≤ g) : ∀ (cs : List Value) (o : Nat) (w : World), Below B a w → Below B a (w.setCells g o cs)
  | [], _, _, h => h
  | v :: vs, o, w, h => below_setCells g hB vs (o + 1) _ (h.setCell (p := ⟨g, o, none⟩) hB v)
theorem size_setCells (g : Nat) : ∀ (cs : List Value) (o : Nat) (w : World), (w.setCells g o cs).heap.size = w.heap.size
  | [], _, _ => rfl
  | v :: vs, o, w => by rw [World.setCells, size_setCells g vs (o + 1)]; simp
theorem Filled.step {α : Type} {S : Shape α} {w wr w1 : World} {n k : Nat} {xs : List α} {es : List Value} {x : α} (h : Filled S w wr n k xs) (hk : k < n) (hb : Below wr.heap.size wr w1) (hx : xs[k]? = some x)
    (hs : S.reads (From wr.heap.size w1.heap.size) w1 es x) : Filled S w (w1.setCells w.heap.size (k * S.size) es) n (k + 1) xs := by
  have hl := S.len hs
  have hlt := h.lt
  have hsz := hb.size
  have hmul : (n - k) * S.size = (n - (k + 1)) * S.size + S.size := by rw [show n - k = (n - (k + 1)) + 1 by omega, Nat.add_mul, Nat.one_mul]
  have hk1 : (k + 1) * S.size = k * S.size + S.size := by rw [Nat.add_mul, Nat.one_mul]
  have hth : w1.there w.heap.size (k * S.size) ((n - k) * S.size) := there_below h.rest hb hlt
  have hss := size_setCells w.heap.size es (k * S.size) w1
  refine ⟨below_setCells _ (Nat.le_refl _) _ _ _ (h.below.trans (hb.mono (Nat.le_of_lt hlt))), by omega, fun j y hj hy => ?_, ?_⟩
  · by_cases hjk : j < k
    · obtain ⟨es', hr, hs'⟩ := h.done j y hjk hy
      have hjl : j * S.size + S.size ≤ k * S.size := by
        have := Nat.mul_le_mul_right S.size (show j + 1 ≤ k by omega)
        rwa [Nat.add_mul, Nat.one_mul] at this
      refine ⟨es', World.rangeAt_setCells_apart (fun i v hv => (hb.cell (p := ⟨w.heap.size, j * S.size + i, none⟩) hlt).trans (hr i v hv)) _ _ _ (.inr (.inl (by rw [S.len hs']; exact hjl))), ?_⟩
      refine S.sub (S.keep hs' fun b hb' => ?_) fun b hb' => ⟨hb'.1, by rw [hss]; exact Nat.lt_of_lt_of_le hb'.2 hsz⟩
      rw [heap_setCells_other _ _ _ _ _ (by have := hb'.1; omega)]
      exact hb.block b hb'.2
    · obtain rfl : j = k := by omega
      rw [hx] at hy
      cases hy
      refine ⟨es, World.rangeAt_setCells_same _ _ _ _ (there_part hth (Nat.le_refl _) (by omega)), ?_⟩
      refine S.sub (S.keep hs fun b hb' => ?_) fun b hb' => ⟨by have := hb'.1; omega, by rw [hss]; exact hb'.2⟩
      exact heap_setCells_other _ _ _ _ _ (by have := hb'.1; omega)
  · exact World.there_setCells (there_part hth (by omega) (by omega)) _ _ _
theorem Filled.list {α : Type} {S : Shape α} {w wr : World} {n : Nat} {xs : List α} (h : Filled S w wr n n xs) (hl : xs.length = n) : ListAt S (From w.heap.size wr.heap.size) wr (some ⟨w.heap.size, 0, none⟩) n xs :=
  ⟨hl, fun j x hx => by
    obtain ⟨es, hr, hs⟩ := h.done j x (by rw [← hl]; exact (List.getElem?_eq_some_iff.1 hx).1) hx
    exact ⟨w.heap.size, 0, es, rfl, ⟨Nat.le_refl _, h.lt⟩, by rwa [Nat.zero_add], S.sub hs fun b hb => ⟨by have := hb.1; omega, hb.2⟩⟩⟩

/-! ### What is left behind so many places -/
def szN (b : Nat) (L : Int) : Int := if (b : Int) ≤ L then L - b else -1
theorem szN_yes {b : Nat} {L : Int} (h : (b : Int) ≤ L) : szN b L = L - b := if_pos h
theorem szN_no {b : Nat} {L : Int} (h : ¬ (b : Int) ≤ L) : szN b L = -1 := if_neg h
theorem sum_zero {α : Type} (xs : List α) : Shape.sum (fun _ => 0) xs = 0 := by
  induction xs with
  | nil => rfl
  | cons x xs ih => simp [Shape.sum, ih]
theorem bulk_ints (xs : List Int) : (Shape.list Shape.int).bulk xs = xs.length := by
  show xs.length + Shape.sum (fun _ => 0) xs = xs.length
  rw [sum_zero]
  rfl
theorem bulk_bools (xs : List Bool) : (Shape.list Shape.bool).bulk xs = xs.length := by
  show xs.length + Shape.sum (fun _ => 0) xs = xs.length
  rw [sum_zero]
  rfl
theorem sum_take {α : Type} (f : α → Nat) (xs : List α) (k : Nat) (x : α) (h : xs[k]? = some x) : Shape.sum f (xs.take (k + 1)) = Shape.sum f (xs.take k) + f x := by
  rw [List.take_add_one, h, Shape.sum_append]
  simp [Shape.sum]
theorem sum_take_le {α : Type} (f : α → Nat) (xs : List α) (k : Nat) : Shape.sum f (xs.take k) ≤ Shape.sum f xs := by
  have := Shape.sum_append f (xs.take k) (xs.drop k)
  rw [List.take_append_drop] at this
  omega
theorem bulk_mem {α : Type} (f : α → Nat) (xs : List α) (k : Nat) (x : α) (h : xs[k]? = some x) : f x ≤ Shape.sum f xs := by
  have h1 := sum_take f xs k x h
  have h2 := sum_take_le f xs (k + 1)
  omega
theorem bulk_list {α : Type} (S : Shape α) {I : Nat → Prop} {w : World} {a : Option Addr} {n : Nat} {xs : List α} (h : ListAt S I w a n xs) : (Shape.list S).bulk xs = n + Shape.sum S.bulk xs := by
  rw [← h.1]
  rfl

/-! ### A struct that is made in a variable of its own: the box of the argument, the box of the result, the variable -/
structure Boxes (w wr : World) (A Z O : Array Value) (TA T : TypeId) : Prop where
  below : Below w.heap.size w wr
  size : w.heap.size + 3 ≤ wr.heap.size
  a : wr.heap[w.heap.size]? = some (.cells A TA (0, 0))
  z : wr.heap[w.heap.size + 1]? = some (.cells Z T (0, 0))
  o : wr.heap[w.heap.size + 1 + 1]? = some (.cells O T (0, 0))
theorem Boxes.start (w : World) (A Z O : Array Value) (TA T : TypeId) : Boxes w (((w.alloc (.cells A TA (0, 0))).alloc (.cells Z T (0, 0))).alloc (.cells O T (0, 0))) A Z O TA T where
  below := (((Below.refl _ _).alloc (Nat.le_refl _) _).alloc (by simp) _).alloc (by simp; omega) _
  size := by simp
  a := by
    rw [Below.heap_alloc _ _ _ (by simp; omega), Below.heap_alloc _ _ _ (by simp)]
    exact heap_alloc_new w _
  z := by
    rw [Below.heap_alloc _ _ _ (by simp)]
    have := heap_alloc_new (w.alloc (.cells A TA (0, 0))) (.cells Z T (0, 0))
    simpa using this
  o := by
    have := heap_alloc_new ((w.alloc (.cells A TA (0, 0))).alloc (.cells Z T (0, 0))) (.cells O T (0, 0))
    simpa using this
theorem Boxes.call {w wr w1 : World} {A Z O : Array Value} {TA T : TypeId} (h : Boxes w wr A Z O TA T) (hb : Below wr.heap.size wr w1) : Boxes w w1 A Z O TA T := by
  have hs := h.size
  exact ⟨h.below.trans (hb.mono (by omega)), Nat.le_trans hs hb.size, (hb.block _ (by omega)).trans h.a, (hb.block _ (by omega)).trans h.z, (hb.block _ (by omega)).trans h.o⟩
theorem Boxes.store {w wr : World} {A Z O : Array Value} {TA T : TypeId} (h : Boxes w wr A Z O TA T) (i : Nat) (v : Value) : Boxes w (wr.setCell ⟨w.heap.size + 1 + 1, i, none⟩ v) A Z (O.setIfInBounds i v) TA T :=
  ⟨h.below.setCell (p := ⟨w.heap.size + 1 + 1, i, none⟩) (by show w.heap.size ≤ w.heap.size + 1 + 1; omega) v, by have := h.size; simpa using this,
    (heap_setCell_other _ _ _ _ (by show w.heap.size ≠ w.heap.size + 1 + 1; omega)).trans h.a, (heap_setCell_other _ _ _ _ (by show w.heap.size + 1 ≠ w.heap.size + 1 + 1; omega)).trans h.z,
    heap_setCell_same wr _ i O T v h.o⟩
theorem heap_setCells_all (g : Nat) (T : TypeId) : ∀ (vs pre old : List Value) (w : World), old.length = vs.length → w.heap[g]? = some (.cells (pre ++ old).toArray T (0, 0)) → (w.setCells g pre.length vs).heap[g]? = some (.cells (pre ++ vs).toArray T (0, 0))
  | [], pre, old, w, hl, h => by
    obtain rfl : old = [] := List.eq_nil_of_length_eq_zero hl
    exact h
  | v :: vs, pre, [], w, hl, h => by simp at hl
  | v :: vs, pre, u :: us, w, hl, h => by
    have h1 := heap_setCell_same w g pre.length _ T v h
    have h2 := heap_setCells_all g T vs (pre ++ [v]) us (w.setCell ⟨g, pre.length, none⟩ v) (by simpa using hl) (by
      rw [h1]
      simp)
    rw [List.length_append, List.length_singleton] at h2
    rw [World.setCells, h2]
    simp
theorem Boxes.result {w wr : World} {A Z O : Array Value} {TA T : TypeId} (h : Boxes w wr A Z O TA T) (vs : List Value) (hl : Z.size = vs.length) : (wr.setCells (w.heap.size + 1) 0 vs).heap[w.heap.size + 1]? = some (.cells vs.toArray T (0, 0)) := by
  have := heap_setCells_all (w.heap.size + 1) T vs [] Z.toList wr (by simpa using hl) (by simpa using h.z)
  simpa using this
theorem Boxes.last {w wr : World} {A Z O : Array Value} {TA T : TypeId} (h : Boxes w wr A Z O TA T) (vs : List Value) : Below w.heap.size w (wr.setCells (w.heap.size + 1) 0 vs) := below_setCells _ (by omega) _ _ _ h.below
/-- What lies behind the boxes stays there. -/
theorem ListAt.called {α : Type} {S : Shape α} {lo : Nat} {wr w1 : World} {a : Option Addr} {n : Nat} {xs : List α} (h : ListAt S (From lo wr.heap.size) wr a n xs) (hb : Below wr.heap.size wr w1) : ListAt S (From lo w1.heap.size) w1 a n xs :=
  (h.keep (fun b hb' => hb.block b hb'.2)).sub fun b hb' => ⟨hb'.1, Nat.lt_of_lt_of_le hb'.2 hb.size⟩
theorem ListAt.stored {α : Type} {S : Shape α} {lo : Nat} {wr : World} {a : Option Addr} {n : Nat} {xs : List α} (h : ListAt S (From lo wr.heap.size) wr a n xs) (g i : Nat) (v : Value) (hg : g < lo) : ListAt S (From lo (wr.setCell ⟨g, i, none⟩ v).heap.size) (wr.setCell ⟨g, i, none⟩ v) a n xs := by
  rw [show (wr.setCell ⟨g, i, none⟩ v).heap.size = wr.heap.size by simp]
  exact h.keep fun b hb' => heap_setCell_other _ _ _ _ (by have := hb'.1; show b ≠ g; omega)
theorem ListAt.storedAll {α : Type} {S : Shape α} {lo : Nat} {wr : World} {a : Option Addr} {n : Nat} {xs : List α} (h : ListAt S (From lo wr.heap.size) wr a n xs) (g i : Nat) (vs : List Value) (hg : g < lo) : ListAt S (From lo (wr.setCells g i vs).heap.size) (wr.setCells g i vs) a n xs := by
  rw [size_setCells]
  exact h.keep fun b hb' => heap_setCells_other _ _ _ _ _ (by have := hb'.1; omega)
theorem ListAt.lo {α : Type} {S : Shape α} {lo lo' hi : Nat} {w : World} {a : Option Addr} {n : Nat} {xs : List α} (h : ListAt S (From lo hi) w a n xs) (hl : lo' ≤ lo) : ListAt S (From lo' hi) w a n xs := h.sub fun b hb => ⟨Nat.le_trans hl hb.1, hb.2⟩
theorem ListAt.under {α : Type} {S : Shape α} {lo hi : Nat} {w : World} {a : Option Addr} {n : Nat} {xs : List α} (h : ListAt S (From lo hi) w a n xs) : ListAt S (Under hi) w a n xs := h.sub fun b hb => hb.2
theorem Shape.under {α : Type} (S : Shape α) {lo hi : Nat} {w : World} {cs : List Value} {d : α} (h : S.reads (From lo hi) w cs d) : S.reads (Under hi) w cs d := S.sub h fun b hb => hb.2
end Go.Proofs.Ytcooobnaocbdjaa
