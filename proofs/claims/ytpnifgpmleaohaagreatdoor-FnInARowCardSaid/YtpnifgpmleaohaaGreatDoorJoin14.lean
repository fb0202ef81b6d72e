import Derived.Test.YtpnifgpmleaohaaGreatDoorJoin9
import Derived.Test.YtpnifgpmleaohaaGreatDoorJoin11
import Derived.Test.YtpnifgpmleaohaaGreatDoorJoin12
import Derived.Test.YtpnifgpmleaohaaGreatDoorJoin13
import Derived.Deep.AppendLies
import Derived.Test.YtpnifgpmleaohaaGreatDoorJoin10
import Derived.Deep.QuietTactic
import Derived.BigQuiet
/-! YtpnifgpmleaohaaGreatDoorZSeqZ -/
section

namespace Go.Proofs.YtpnifgpmleaohaaGreatDoor
open Go.RowKit Go.Sort
set_option linter.unusedVariables false

theorem infoRow1 : (Tryz.prog.info? 56).map (fun i => (i.zero, i.size, i.bytes)) = some (some (.agg #[.slice none 0 0]), 1, 24) := by kernel_rfl
theorem Row.made (w : World) (n : Nat) (h : n ≤ 9223372036854775807) : Row w.heap.size (w.alloc (.cells (madeCells #[.int .i64 0] n) 3 (0, 0))) (.slice (some ⟨w.heap.size, 0, none⟩) n n) (noughts n) := by
  have h1 : (noughts n).length = n := by unfold noughts; rw [List.length_replicate]
  have h2 : (madeCells #[.int .i64 0] n).toList = icells (noughts n) := by
    rw [toList_madeCells_one]
    unfold icells noughts
    rw [List.map_replicate]
  have h3 := World.ownsRow_lit (base := w.heap.size) (e := 3) (size := 1) w (madeCells #[.int .i64 0] n) n (Nat.le_refl _) (by unfold maxLen; omega) (by rw [size_madeCells, Nat.mul_one])
  unfold Row
  rw [h1, ← h2]
  exact h3
theorem Row.ownRow {base : Nat} {w : World} {u : Value} {x : List Int} (h : Row base w u x) : ownRow.owns (FromB base w.heap.size) w [u] x := h.own
theorem cellsG {w : World} {g : Nat} {x y z : Value} {T : TypeId} (h : w.heap[g]? = some (.cells #[x, y, z] T (0, 0))) :
    (w.cell? ⟨g, 0, none⟩ = some x ∧ w.cell? ⟨g, 1, none⟩ = some y ∧ w.cell? ⟨g, 2, none⟩ = some z) ∧ w.frozen? ⟨g, 0, none⟩ = false ∧ w.frozen? ⟨g, 1, none⟩ = false ∧ w.frozen? ⟨g, 2, none⟩ = false :=
  ⟨⟨by rw [cell_of_row _ _ _ _ _ _ h]; rfl, by rw [cell_of_row _ _ _ _ _ _ h]; rfl, by rw [cell_of_row _ _ _ _ _ _ h]; rfl⟩, frozen_of_row _ _ _ _ _ h, frozen_of_row _ _ _ _ _ h, frozen_of_row _ _ _ _ _ h⟩
theorem ListL.stored {α : Type} {S : Owned α} {T : TypeId} {lo hi : Nat} {w : World} {v : Value} {xs : List α} (h : ListL S T lo hi w v xs) (g i : Nat) (u : Value) (hg : g < lo) : ListL S T lo hi (w.setCell ⟨g, i, none⟩ u) v xs := by
  have hb : ∀ k, lo ≤ k → (w.setCell ⟨g, i, none⟩ u).heap[k]? = w.heap[k]? := fun k hk => heap_setCell_other _ _ _ _ (by show k ≠ g; omega)
  obtain ⟨us, G, h1, h2, h3, h4, h5⟩ := h.all
  refine ⟨by simpa using h.top, us, G, ⟨h1.1, h1.2.imp id ?_⟩, h2, fun j x hx => ?_, h4, h5⟩
  · rintro ⟨k, cap, cur, rfl, e1, e2, e3⟩
    exact ⟨k, cap, cur, rfl, e1, (hb k e1).trans e2, e3⟩
  · obtain ⟨es, q1, q2⟩ := h3 j x hx
    refine ⟨es, q1, S.owns_keep q2 ((Touched.set (F := fun b _ => b = g) w g i u rfl).same fun b o f f' => ?_)⟩
    have e : b = g := f
    have := (h4 j b o f').1
    omega
theorem Boxes.far {w w1 w4 : World} {A Z O : Array Value} {TA T : TypeId} (h : Boxes w w1 A Z O TA T) (hb : Below (w.heap.size + 3) w1 w4) : Boxes w w4 A Z O TA T :=
  ⟨h.below.trans (hb.mono (by omega)), Nat.le_trans h.size hb.size, (hb.block _ (by omega)).trans h.a, (hb.block _ (by omega)).trans h.z, (hb.block _ (by omega)).trans h.o⟩
theorem size_one' (w : World) (o : Obj) : (w.alloc o).heap.size = w.heap.size + 1 := by simp
theorem slices_one (a : Option Addr) (n c : Nat) : ∀ u ∈ [Value.slice a n c], u.oneCell' = true := by
  intro u hu
  rw [List.mem_singleton.1 hu]
  rfl
end Go.Proofs.YtpnifgpmleaohaaGreatDoor

end

/-! YtpnifgpmleaohaaGreatDoorZSeqI -/
section

namespace Go.Proofs.YtpnifgpmleaohaaGreatDoor
open Go.RowKit Go.Sort
set_option linter.unusedVariables false

/-- A list of one row. -/
theorem ListL.one {base : Nat} {w : World} {u : Value} {x : List Int} (h : Row base w u x) (hb : base ≤ w.heap.size) :
    ListL ownRow 56 base (w.alloc (.cells #[u] 56 (0, 0))).heap.size (w.alloc (.cells #[u] 56 (0, 0))) (.slice (some ⟨w.heap.size, 0, none⟩) 1 1) [x] := by
  have hk := Row.below h ((Below.refl w.heap.size w).alloc (Nat.le_refl _) (.cells #[u] 56 (0, 0)))
  have ho := Row.ownRow h
  refine ⟨Nat.le_refl _, [u], fun j => if j = 0 then FromB base w.heap.size else fun _ _ => False, World.ownsRow_lit (base := base) (e := 56) (size := 1) w #[u] 1 hb (by unfold maxLen; omega) rfl, fun g hg => ?_, fun j y hy => ?_, fun j b o f => ?_, fun j j' hne b o f f' => ?_⟩
  · have e : w.heap.size = g := by simpa [Value.ownBlock] using hg
    rw [size_one']
    omega
  · cases j with
    | zero =>
      simp at hy
      subst hy
      refine ⟨[u], fun i v hv => by simpa using hv, ?_⟩
      simp only [if_true]
      exact ownRow.owns_keep ho (.of_below ((Below.refl w.heap.size w).alloc (Nat.le_refl _) _) fun b o f => f.2)
    | succ j => simp at hy
  · by_cases hj : j = 0
    · simp only [if_pos hj] at f
      refine ⟨f.1, by rw [size_one']; have := f.2; omega, fun e => ?_⟩
      have e' : w.heap.size = b := by simpa [Value.ownBlock] using e
      have := f.2
      omega
    · simp only [if_neg hj] at f
  · by_cases hj : j = 0
    · by_cases hj' : j' = 0
      · omega
      · simp only [if_neg hj'] at f'
    · simp only [if_neg hj] at f
theorem ownRow_reads {F : Foot} {w : World} {es : List Value} {x : List Int} {B : Nat} (h : ownRow.owns F w es x) (hF : ∀ b o, F b o → b < B) (hb : x.length ≤ 1048576) : ∃ a n c, es = [.slice a n c] ∧ IntsIn B w a n x := by
  obtain ⟨a, n, c, rfl, -, -, hl⟩ := h
  refine ⟨a, n, c, rfl, ?_⟩
  have := (hl.listAt (I := Under B) (fun b o f => hF b o f) (by decide)).ints (by have := hl.1; omega)
  exact this
/-- One row of a list that a call has made: its cell, its numbers. -/
theorem ListL.at {T : TypeId} {lo hi : Nat} {w : World} {a : Option Addr} {n c : Nat} {xs : List dRow} (h : ListL ownRow T lo hi w (.slice a n c) xs) (j : Nat) (x : dRow) (hx : xs[j]? = some x) (hb : x.length ≤ 1048576) :
    ∃ g ax nx cx, a = some ⟨g, 0, none⟩ ∧ j < n ∧ lo ≤ g ∧ g < hi ∧ w.cell? ⟨g, j, none⟩ = some (.slice ax nx cx) ∧ IntsIn hi w ax nx x := by
  obtain ⟨us, G, h1, h2, h3, h4, h5⟩ := h.all
  have hj := (List.getElem?_eq_some_iff.1 hx).1
  obtain ⟨es, q1, q2⟩ := h3 j x hx
  obtain ⟨ax, nx, cx, rfl, hi'⟩ := ownRow_reads q2 (fun b o f => (h4 j b o f).2.1) hb
  have h1' := h1
  rcases h1.2 with ⟨e, hn⟩ | ⟨g, cap, cur, e, e1, e2, e3, e4, -⟩
  · omega
  · cases e
    refine ⟨g, ax, nx, cx, rfl, hj, e1, h2 g rfl, ?_, hi'⟩
    rw [World.ownsRow.cellAt h1' j (by show j < xs.length * 1; omega)]
    have := q1 0 _ rfl
    simpa [ownRow_size] using this
end Go.Proofs.YtpnifgpmleaohaaGreatDoor

end
