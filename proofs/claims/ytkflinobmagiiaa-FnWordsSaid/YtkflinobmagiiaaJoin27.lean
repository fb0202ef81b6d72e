import Derived.Test.YtkflinobmagiiaaJoin18
import Derived.Test.YtkflinobmagiiaaJoin23
import Derived.Test.YtkflinobmagiiaaJoin26
import Derived.Deep.AppendLies
import Derived.Laws.OwnMore
import Derived.Below
import Derived.OrdersHeld
/-! YtkflinobmagiiaaDrawMo -/
section

namespace Go.Proofs.Ytkflinobmagiiaa
open Go.RowKit Go.Sort
set_option linter.unusedVariables false

variable {α : Type} {S : Owned α} {T : TypeId} {lo hi : Nat} {w w' : World} {v v' : Value} {xs : List α}
/-! ### The same, where elements may share what they lead to -/
/-- A list of a call's own; what its elements lead to lies below hi, but not in the list's own block. -/
structure ListQ {α : Type} (S : Shape α) (T : TypeId) (lo hi : Nat) (w : World) (v : Value) (xs : List α) : Prop where
  top : hi ≤ w.heap.size
  all : ∃ us, w.ownsRow lo T S.size v xs.length us ∧ (∀ g, v.ownBlock = some g → g < hi) ∧
    ∀ j x, xs[j]? = some x → ∃ es, (∀ i u, es[i]? = some u → us[j * S.size + i]? = some u) ∧ es.length = S.size ∧ S.reads (fun b => lo ≤ b ∧ b < hi ∧ v.ownBlock ≠ some b) w es x
section
variable {S : Shape α}
theorem ListQ.nil (S : Shape α) (T : TypeId) {lo hi : Nat} {w : World} (h : hi ≤ w.heap.size) : ListQ S T lo hi w (.slice none 0 0) [] :=
  ⟨h, [], World.ownsRow_nil _ _ _ _, fun g hg => by simp [Value.ownBlock] at hg, fun j x hx => by simp at hx⟩
theorem ListQ.empty (S : Shape α) (T : TypeId) {lo : Nat} (w : World) (h : lo ≤ w.heap.size) : ListQ S T lo (w.heap.size + 1) (w.alloc (.cells #[] T (0, 0))) (.slice (some ⟨w.heap.size, 0, none⟩) 0 0) ([] : List α) :=
  ⟨by simp, [], ⟨by simp, .inr ⟨w.heap.size, 0, #[], rfl, h, heap_alloc_new w _, Nat.le_refl _, Nat.zero_le _, by simp, by simp⟩⟩, fun g hg => by simp [Value.ownBlock] at hg; omega, fun j x hx => by simp at hx⟩
theorem ListQ.below {B : Nat} (h : ListQ S T lo hi w v xs) (hb : Below B w w') (hB : hi ≤ B) : ListQ S T lo hi w' v xs := by
  obtain ⟨us, h1, h2, h3⟩ := h.all
  refine ⟨Nat.le_trans h.top hb.size, us, ⟨h1.1, h1.2.imp id ?_⟩, h2, fun j x hx => ?_⟩
  · rintro ⟨g, cap, cur, rfl, e1, e2, e3⟩
    exact ⟨g, cap, cur, rfl, e1, (hb.block g (Nat.lt_of_lt_of_le (h2 g rfl) hB)).trans e2, e3⟩
  · obtain ⟨es, q1, q2, q3⟩ := h3 j x hx
    exact ⟨es, q1, q2, S.keep q3 fun b hb' => hb.block b (Nat.lt_of_lt_of_le hb'.2.1 hB)⟩
theorem ListQ.wide {lo' hi' : Nat} (h : ListQ S T lo hi w v xs) (hl : lo' ≤ lo) (hh : hi ≤ hi') (ht : hi' ≤ w.heap.size) : ListQ S T lo' hi' w v xs := by
  obtain ⟨us, h1, h2, h3⟩ := h.all
  refine ⟨ht, us, World.ownsRow.mono h1 hl, fun g hg => Nat.lt_of_lt_of_le (h2 g hg) hh, fun j x hx => ?_⟩
  obtain ⟨es, q1, q2, q3⟩ := h3 j x hx
  exact ⟨es, q1, q2, S.sub q3 fun b hb => ⟨Nat.le_trans hl hb.1, Nat.lt_of_lt_of_le hb.2.1 hh, hb.2.2⟩⟩
/-- A list is read. -/
theorem ListQ.list (h : ListQ S T lo hi w v xs) : ∃ a cap, v = .slice a xs.length cap ∧ xs.length ≤ cap ∧ cap ≤ 9223372036854775807 ∧ ListAt S (Under hi) w a xs.length xs := by
  obtain ⟨us, h1, h2, h3⟩ := h.all
  have h1' := h1
  rcases h1.2 with ⟨rfl, hn⟩ | ⟨g, cap, cur, rfl, e1, e2, e3, e4, -⟩
  · refine ⟨none, 0, by rw [hn], by omega, by omega, rfl, fun j x hx => ?_⟩
    have := (List.getElem?_eq_some_iff.1 hx).1
    omega
  · unfold maxLen at e4
    refine ⟨_, cap, rfl, e3, by omega, rfl, fun j x hx => ?_⟩
    obtain ⟨es, q1, q2, q3⟩ := h3 j x hx
    have hj : j < xs.length := (List.getElem?_eq_some_iff.1 hx).1
    have hp := place_le (s := S.size) hj
    refine ⟨g, 0, es, rfl, h2 g rfl, fun i u hu => ?_, S.sub q3 fun b hb => hb.2.1⟩
    have hi := (List.getElem?_eq_some_iff.1 hu).1
    rw [Nat.zero_add, World.ownsRow.cellAt h1' _ (by omega)]
    exact q1 i u hu
/-- The first k of it. -/
theorem ListQ.take {a : Option Addr} {n cap k : Nat} (h : ListQ S T lo hi w (.slice a n cap) xs) (hk : k ≤ n) (ha : a ≠ none) : ListQ S T lo hi w (.slice a k cap) (xs.take k) := by
  obtain ⟨us, h1, h2, h3⟩ := h.all
  have hus := h1.1
  rcases h1.2 with ⟨e, -⟩ | ⟨g, cap', cur, e, e1, e2, e3, e4, e5, e6⟩
  · simp only [Value.slice.injEq] at e
    exact absurd e.1 ha
  · simp only [Value.slice.injEq] at e
    obtain ⟨rfl, rfl, rfl⟩ := e
    have hl : (xs.take k).length = k := by rw [List.length_take]; omega
    have hkm : k * S.size ≤ xs.length * S.size := Nat.mul_le_mul_right _ hk
    refine ⟨h.top, us.take (k * S.size), ⟨by rw [hl, List.length_take]; omega, .inr ⟨g, cap, cur, by rw [hl], e1, e2, by omega, e4, e5, by rw [hl, ← e6, List.take_take, Nat.min_eq_left hkm]⟩⟩, h2, fun j x hx => ?_⟩
    rw [List.getElem?_take] at hx
    split at hx
    · rename_i hj
      obtain ⟨es, q1, q2, q3⟩ := h3 j x hx
      have hp := place_le (s := S.size) hj
      refine ⟨es, fun i u hu => ?_, q2, q3⟩
      have hi := (List.getElem?_eq_some_iff.1 hu).1
      rw [List.getElem?_take, if_pos (by omega)]
      exact q1 i u hu
    · cases hx
/-- One element more. -/
theorem ListQ.put {es : List Value} {x : α} {o : Obj} {us : List Value} (hlo : lo ≤ hi)
    (h1 : w.ownsRow lo T S.size v xs.length us) (h2 : ∀ g, v.ownBlock = some g → g < hi) (hh : hi ≤ w.heap.size) (h3 : ∀ j x, xs[j]? = some x → ∃ es, (∀ i u, es[i]? = some u → us[j * S.size + i]? = some u) ∧ es.length = S.size ∧ S.reads (fun b => lo ≤ b ∧ b < hi ∧ v.ownBlock ≠ some b) w es x)
    (hs : S.reads (fun b => lo ≤ b ∧ b < w.heap.size ∧ v.ownBlock ≠ some b) w es x) (hl : es.length = S.size)
    (hown : w'.ownsRow lo T S.size v' (xs.length + 1) (us ++ es)) (hg : (w.alloc o).grownBy w' v.ownBlock) (hv : v'.ownBlock = v.ownBlock ∨ v'.ownBlock = some (w.alloc o).heap.size) :
    ListQ S T lo w'.heap.size w' v' (xs ++ [x]) ∧ Below lo w w' := by
  have hsz : w.heap.size < (w.alloc o).heap.size := by simp
  have hus : us.length = xs.length * S.size := h1.1
  have hbe : Below lo w w' := ((Below.refl lo w).alloc (Nat.le_trans hlo hh) o).grown hg (by omega) (fun k hk => (World.ownsRow.lt h1 k hk).1)
  have hkeep : ∀ b, (b < w.heap.size ∧ v.ownBlock ≠ some b) → w'.heap[b]? = w.heap[b]? := fun b hb =>
    (hg.block b (Nat.lt_trans hb.1 hsz) (fun e => hb.2 e.symm)).trans (heap_alloc_old w _ hb.1)
  have hnew : ∀ b, (lo ≤ b ∧ b < w.heap.size ∧ v.ownBlock ≠ some b) → (lo ≤ b ∧ b < w'.heap.size ∧ v'.ownBlock ≠ some b) := fun b hb => by
    refine ⟨hb.1, Nat.lt_of_lt_of_le hb.2.1 (Nat.le_trans (Nat.le_of_lt hsz) hg.size), ?_⟩
    rcases hv with e | e
    · rw [e]; exact hb.2.2
    · rw [e]; intro e'; have e2 : (w.alloc o).heap.size = b := by simpa using e'
      have := hb.2.1
      omega
  refine ⟨⟨Nat.le_refl _, us ++ es, by simpa using hown, fun g hgv => (World.ownsRow.lt hown g hgv).2, fun j y hy => ?_⟩, hbe⟩
  by_cases hj : j < xs.length
  · rw [List.getElem?_append_left hj] at hy
    obtain ⟨es', q1, q2, q3⟩ := h3 j y hy
    refine ⟨es', fun i u hu => ?_, q2, S.sub (S.keep q3 fun b hb => hkeep b ⟨Nat.lt_of_lt_of_le hb.2.1 hh, hb.2.2⟩) fun b hb => hnew b ⟨hb.1, Nat.lt_of_lt_of_le hb.2.1 hh, hb.2.2⟩⟩
    have := q1 i u hu
    rw [List.getElem?_append_left (List.getElem?_eq_some_iff.1 this).1]
    exact this
  · rw [List.getElem?_append_right (by omega)] at hy
    have hj0 : j - xs.length = 0 := by
      cases e : j - xs.length with
      | zero => rfl
      | succ i => rw [e] at hy; simp at hy
    obtain rfl : j = xs.length := by omega
    simp at hy
    subst hy
    refine ⟨es, fun i u hu => ?_, hl, S.sub (S.keep hs fun b hb => hkeep b hb.2) hnew⟩
    rw [← hus, List.getElem?_append_right (by omega), Nat.add_sub_cancel_left]
    exact hu
/-- One element is written anew. -/
theorem ListQ.set {n cap g j : Nat} {es : List Value} {x : α} (h : ListQ S T lo hi w (.slice (some ⟨g, 0, none⟩) n cap) xs) (hj : j < xs.length) (hn : n = xs.length) (hl : es.length = S.size) (hs : S.reads (fun b => lo ≤ b ∧ b < w.heap.size ∧ some g ≠ some b) w es x) :
    ListQ S T lo w.heap.size (w.setCells g (j * S.size) es) (.slice (some ⟨g, 0, none⟩) n cap) (xs.set j x) ∧ Below lo w (w.setCells g (j * S.size) es) := by
  subst hn
  obtain ⟨us, h1, h2, h3⟩ := h.all
  have hlg := World.ownsRow.lt h1 g rfl
  have hus : us.length = xs.length * S.size := h1.1
  obtain ⟨us', k1, k2, k3, k4⟩ := owns_setCells es (j * S.size) w us h1
  have hT : Touched (fun b _ => b = g) w (w.setCells g (j * S.size) es) := touched_setCells _ _ _ _ fun _ _ => rfl
  have hpj := place_le (s := S.size) hj
  have hkeep : ∀ b, some g ≠ some b → (w.setCells g (j * S.size) es).heap[b]? = w.heap[b]? := fun b hb => hT.block b fun _ e => by
    have e' : b = g := e
    exact hb (by rw [e'])
  refine ⟨⟨by rw [size_setCells]; exact Nat.le_refl _, us', by rw [List.length_set]; exact k1, fun g' e => Nat.lt_of_lt_of_le (h2 g' e) h.top, fun i y hy => ?_⟩, hT.below fun b o e => by have e' : b = g := e; omega⟩
  by_cases e : i = j
  · subst e
    rw [List.getElem?_set_self hj] at hy
    cases hy
    exact ⟨es, fun q u hu => k3 q u hu (by rw [hus]; have := (List.getElem?_eq_some_iff.1 hu).1; omega), hl, S.sub (S.keep hs fun b hb => hkeep b hb.2.2) fun b hb => hb⟩
  · rw [List.getElem?_set_ne (fun e' => e e'.symm)] at hy
    obtain ⟨es', q1, q2, q3⟩ := h3 i y hy
    have hi : i < xs.length := (List.getElem?_eq_some_iff.1 hy).1
    refine ⟨es', fun q u hu => ?_, q2, S.sub (S.keep q3 fun b hb => hkeep b hb.2.2) fun b hb => ⟨hb.1, Nat.lt_of_lt_of_le hb.2.1 h.top, hb.2.2⟩⟩
    have hq := (List.getElem?_eq_some_iff.1 hu).1
    rw [k4 _ ?_]
    · exact q1 q u hu
    · rcases Nat.lt_or_gt_of_ne e with a | a
      · have := place_le (s := S.size) a; omega
      · have := place_le (s := S.size) a; omega
end

/-- A list of a call's own, behind a draw. -/
theorem ListQ.turned {α : Type} {S : Shape α} {T : TypeId} {lo hi B C : Nat} {w w' : World} {v : Value} {xs : List α} (h : ListQ S T lo hi w v xs) (ht : Turned B w w' C) (hC : C < lo) : ListQ S T lo hi w' v xs := by
  obtain ⟨us, h1, h2, h3⟩ := h.all
  have hk : ∀ b, b < hi → lo ≤ b → w'.heap[b]? = w.heap[b]? := fun b hb hl => ht.block (Nat.lt_of_lt_of_le hb h.top) (by omega)
  refine ⟨Nat.le_trans h.top ht.size, us, ⟨h1.1, h1.2.imp id ?_⟩, h2, fun j x hx => ?_⟩
  · rintro ⟨g, cap, cur, rfl, e1, e2, e3⟩
    exact ⟨g, cap, cur, rfl, e1, (hk g (h2 g rfl) e1).trans e2, e3⟩
  · obtain ⟨es, q1, q2, q3⟩ := h3 j x hx
    exact ⟨es, q1, q2, S.keep q3 fun b hb => hk b hb.2.1 hb.1⟩
theorem ListQ.stored {α : Type} {S : Shape α} {T : TypeId} {lo hi : Nat} {w : World} {v : Value} {xs : List α} (h : ListQ S T lo hi w v xs) (g i : Nat) (u : Value) (hg : g < lo) : ListQ S T lo hi (w.setCell ⟨g, i, none⟩ u) v xs := by
  obtain ⟨us, h1, h2, h3⟩ := h.all
  have hk : ∀ b, lo ≤ b → (w.setCell ⟨g, i, none⟩ u).heap[b]? = w.heap[b]? := fun b hb => heap_setCell_other _ _ _ _ (by show b ≠ g; omega)
  refine ⟨by simpa using h.top, us, ⟨h1.1, h1.2.imp id ?_⟩, h2, fun j x hx => ?_⟩
  · rintro ⟨k, cap, cur, rfl, e1, e2, e3⟩
    exact ⟨k, cap, cur, rfl, e1, (hk k e1).trans e2, e3⟩
  · obtain ⟨es, q1, q2, q3⟩ := h3 j x hx
    exact ⟨es, q1, q2, S.keep q3 fun b hb => hk b hb.1⟩
theorem ListQ.form {α : Type} {S : Shape α} {T : TypeId} {lo hi : Nat} {w : World} {v : Value} {xs : List α} (h : ListQ S T lo hi w v xs) : ∃ a cap, v = .slice a xs.length cap ∧ xs.length ≤ cap ∧ cap ≤ 9223372036854775807 := by
  obtain ⟨us, h1, -⟩ := h.all
  rcases h1.2 with ⟨rfl, hn⟩ | ⟨g, cap, cur, rfl, e1, e2, e3, e4, -⟩
  · exact ⟨none, 0, by rw [hn], by omega, by omega⟩
  · unfold maxLen at e4
    exact ⟨_, cap, rfl, e3, by omega⟩
theorem Turned.grow {B C : Nat} {w w1 w2 : World} {row : Option Nat} (h : Turned B w w1 C) (hC : C < w.heap.size) (hg : w1.grownBy w2 row) (hr : ∀ k, row = some k → w.heap.size ≤ k) : Turned B w w2 C := by
  have hu := h.1.up
  have hs := h.size
  refine ⟨h.1.grown hg fun k hk => by have := hr k hk; omega, hg.os.trans h.2.os, hg.tape.trans h.2.tape, hg.output.trans h.2.output, Nat.le_trans hs hg.size, fun b hb hne => ?_⟩
  exact (hg.block b (Nat.lt_of_lt_of_le hb hs) fun e => by have := hr b e.symm; omega).trans (h.2.block b hb hne)
theorem op_cells (k i o : Int) (a : Option Addr) (n c : Nat) : ∀ u ∈ [Value.int .i64 k, .int .i64 i, .int .i64 o, .slice a n c], u.oneCell' = true := by
  intro u hu
  simp only [List.mem_cons, List.not_mem_nil, or_false] at hu
  rcases hu with rfl | rfl | rfl | rfl <;> rfl
theorem infoOp1 : (Try.prog.info? 72).map (fun i => (i.zero, i.size, i.bytes)) = some (some (.agg #[.int .i64 0, .int .i64 0, .int .i64 0, .slice none 0 0]), 4, 48) := by kernel_rfl
/-- Operations none of whose parameters are many. -/
def SmallM (m : List dOp) : Prop := ∀ (j : Nat) (x : dOp), m[j]? = some x → x.2.2.2.length ≤ 37
theorem SmallM.snoc {m : List dOp} {x : dOp} (h : SmallM m) (hx : x.2.2.2.length ≤ 37) : SmallM (m ++ [x]) := fun j y hy => by
  by_cases hj : j < m.length
  · rw [List.getElem?_append_left hj] at hy
    exact h j y hy
  · rw [List.getElem?_append_right (by omega)] at hy
    cases hk : j - m.length with
    | zero => rw [hk] at hy; simp at hy; rw [← hy]; exact hx
    | succ i => rw [hk] at hy; simp at hy
theorem SmallM.sum {m : List dOp} (h : SmallM m) : Shape.sum shOp.bulk m ≤ m.length * 37 := by
  induction m with
  | nil => simp [Shape.sum]
  | cons x m ih =>
    have h1 := h 0 x rfl
    have h2 := ih (fun j y hy => h (j + 1) y (by simpa using hy))
    simp only [Shape.sum, List.length_cons]
    rw [shOp_bulk, bulk_ints, Nat.add_mul]
    omega
/-- A model was drawn. -/
def DrewMo (P : Nat → Prop) (B : Nat) (w : World) (C : Nat) (e : Ending) (w' : World) : Prop := ∃ a n c m, e = .returned (.agg #[.slice a n c]) ∧ (P n ∧ m.length = n ∧ n ≤ c ∧ c ≤ 9223372036854775807 ∧ SmallM m) ∧ ListQ shOp 72 w.heap.size w'.heap.size w' (.slice a n c) m ∧ Turned B w w' C
set_option maxRecDepth 100000 in
set_option maxHeartbeats 1600000 in
theorem l6Model_e (B : Nat) (w : World) (C : Nat) (hc : Cu B w C) :
    Calls Try.prog 84 #[.pointer (some ⟨C, 0, none⟩)] w (DrewMo (fun n => 1 ≤ n ∧ n ≤ 6) B w C) := by
  obtain ⟨j0, hj, hy0, hy1, hy2⟩ := info_parts infoOp1
  have hlt := hc.lt
  have HC := Lib.hid hc
  clear hc
  go_enter Try.func84, Try.ntmps84
  have h2 := ((Turned.refl HC.out).alloc (.cells #[.slice none 0 0] 26 (0, 0))).alloc (.cells #[.slice none 0 0] 26 (0, 0))
  have hb0 : ((w.alloc (.cells #[.slice none 0 0] 26 (0, 0))).alloc (.cells #[.slice none 0 0] 26 (0, 0))).heap[w.heap.size]? = some (.cells #[.slice none 0 0] 26 (0, 0)) := by
    rw [Below.heap_alloc _ _ _ (by simp)]
    exact heap_alloc_new w _
  have hb1 : ((w.alloc (.cells #[.slice none 0 0] 26 (0, 0))).alloc (.cells #[.slice none 0 0] 26 (0, 0))).heap[w.heap.size + 1]? = some (.cells #[.slice none 0 0] 26 (0, 0)) := by
    have := heap_alloc_new (w.alloc (.cells #[.slice none 0 0] 26 (0, 0))) (.cells #[.slice none 0 0] 26 (0, 0))
    simpa using this
  have hs2 : ((w.alloc (.cells #[.slice none 0 0] 26 (0, 0))).alloc (.cells #[.slice none 0 0] 26 (0, 0))).heap.size = w.heap.size + 2 := by simp
  go_wp2_with fail
  generalize (w.alloc (.cells #[.slice none 0 0] 26 (0, 0))).alloc (.cells #[.slice none 0 0] 26 (0, 0)) = wa at h2 hb0 hb1 hs2 ⊢
  refine (l1Below_e B _ C 3 (by omega) h2.cu).mono ?_
  rintro e w1 ⟨x, rfl, ⟨x0, x1⟩, ht1⟩
  have hs1 := ht1.size
  have T1 := Lib.hid (h2.trans ht1)
  have B0 := Lib.hid ((ht1.block (by omega) (by omega)).trans hb0)
  have B1 := Lib.hid ((ht1.block (by omega) (by omega)).trans hb1)
  obtain ⟨I, hI⟩ : ∃ I : Int, 1 + x = I := ⟨_, rfl⟩
  have hI0 : 1 ≤ I := by omega
  have hI3 : I ≤ 3 := by omega
  clear h2 hb0 hb1 ht1
  go_wp2_with fail
  clear hI x0 x1
  refine (l1Below_e B _ C 6 (by omega) T1.out.cu).mono ?_
  rintro e w2 ⟨y, rfl, ⟨y0, y1⟩, ht2⟩
  have hs2' := ht2.size
  have T2 := Lib.hid (T1.out.trans ht2)
  have B02 := Lib.hid ((ht2.block (by omega) (by omega)).trans B0.out)
  have B12 := Lib.hid ((ht2.block (by omega) (by omega)).trans B1.out)
  obtain ⟨N, hN⟩ : ∃ N : Nat, 1 + y = (N : Int) := ⟨(1 + y).toNat, by omega⟩
  have hN0 : 1 ≤ N := by omega
  have hN6 : N ≤ 6 := by omega
  clear ht2
  go_wp2_with fail
  clear hN y0 y1
  go_loopw [4, 5] (fun i nn wr => ∃ (r : Nat) (I : Int) (v : Value) (m : List dOp), i = .int .i64 I ∧ (1 ≤ I ∧ I ≤ 3) ∧ nn = .int .i64 r ∧ r + m.length = N ∧ SmallM m ∧ wr.heap[w.heap.size]? = some (.cells #[.slice none 0 0] 26 (0, 0)) ∧ wr.heap[w.heap.size + 1]? = some (.cells #[v] 26 (0, 0)) ∧ ListQ shOp 72 (w.heap.size + 2) wr.heap.size wr v m ∧ Turned B w wr C) (fun _ nn _ => (intOf nn).toNat)
  case atStart => exact ⟨N, I, .slice none 0 0, [], rfl, ⟨hI0, hI3⟩, rfl, by simp, fun j x hx => by simp at hx, B02.out, B12.out, ListQ.nil _ _ (Nat.le_refl _), T2.out⟩
  case round =>
    obtain ⟨r, I', v, m, rfl, ⟨hq0, hq3⟩, rfl, hrm, hsm, hb0, hb1, hli, ht⟩ := hrel
    obtain ⟨n, hn⟩ : ∃ n, m.length = n := ⟨_, rfl⟩
    obtain ⟨av, cv, rfl, hcv1, hcv2⟩ := hli.form
    have hsz2 : w.heap.size + 2 ≤ wr.heap.size := by have := (Array.getElem?_eq_some_iff.1 hb1).1; omega
    rw [hn] at hrm hcv1 hb1 hli
    have HN := Lib.hid hn
    have HB0 := Lib.hid hb0
    have HB1 := Lib.hid hb1
    have HLI := Lib.hid hli
    have HT := Lib.hid ht
    have HSM := Lib.hid hsm
    by_cases hr0 : 0 < r
    · have hr1 : (0 : Int) < (r : Int) := by omega
      clear hb0 hb1 hli ht hsm hn
      go_wp2_with fail
      refine (l5Op_e B wr C I' hq0 hq3 HT.out.cu).mono ?_
      rintro e w3 ⟨k, ii, oo, vp, ps, rfl, ⟨-, ⟨-, -⟩, ⟨o0, o1⟩, hpl⟩, hrow, ht3⟩
      have hs3 := ht3.size
      obtain ⟨ap, cp, rfl, hip⟩ := hrow.form
      obtain ⟨np, hnp⟩ : ∃ np, ps.length = np := ⟨_, rfl⟩
      have hrd := Row.listAt hrow
      rw [hnp] at hpl hrow hrd ⊢
      have hlx := (HLI.out.turned ht3 (by omega)).wide (hi' := w3.heap.size) (Nat.le_refl _) hs3 (Nat.le_refl _)
      have hb03 := (ht3.block (by omega) (by omega)).trans HB0.out
      have hb13 := (ht3.block (by omega) (by omega)).trans HB1.out
      have ht3' := HT.out.trans ht3
      have hbx := (Below.refl w3.heap.size w3).alloc (Nat.le_refl _) (.cells #[.int .i64 k, .int .i64 ii, .int .i64 oo, .slice ap np cp] 72 (0, 0))
      have hbn := heap_alloc_new w3 (.cells #[.int .i64 k, .int .i64 ii, .int .i64 oo, .slice ap np cp] 72 (0, 0))
      have hbs : (w3.alloc (.cells #[.int .i64 k, .int .i64 ii, .int .i64 oo, .slice ap np cp] 72 (0, 0))).heap.size = w3.heap.size + 1 := by simp
      have hta := ht3'.alloc (.cells #[.int .i64 k, .int .i64 ii, .int .i64 oo, .slice ap np cp] 72 (0, 0))
      go_upto_region 7 with fail
      generalize w3.alloc (.cells #[.int .i64 k, .int .i64 ii, .int .i64 oo, .slice ap np cp] 72 (0, 0)) = w4 at hbx hbn hbs hta ⊢
      have hl4 := hlx.below hbx (Nat.le_refl _)
      have hb04 := (hbx.block _ (by omega)).trans hb03
      have hb14 := (hbx.block _ (by omega)).trans hb13
      have y0 := box1 hb14
      obtain ⟨⟨q0, q1, q2, q3⟩, -⟩ := cells4 hbn
      obtain ⟨us, h1, h2, h3⟩ := hl4.all
      have hge := hl4.top
      have hlo3 : w.heap.size + 2 ≤ w3.heap.size := by omega
      have hmr : shOp.reads (fun b => w.heap.size + 2 ≤ b ∧ b < w4.heap.size ∧ (Value.slice av n cv).ownBlock ≠ some b) w4 [.int .i64 k, .int .i64 ii, .int .i64 oo, .slice ap np cp] (k, ii, oo, ps) := by
        obtain ⟨a', n', c', e, g1, g2, g3⟩ := hrd
        simp only [List.cons.injEq, Value.slice.injEq, and_true] at e
        obtain ⟨rfl, rfl, rfl⟩ := e
        refine shOp_reads.2 ⟨ap, np, cp, rfl, g1, g2, (g3.keep fun b hb => hbx.block b hb.2).sub fun b hb => ⟨by have := hb.1; omega, by have := hb.2; omega, fun e' => ?_⟩⟩
        have h4 := HLI.out.all
        obtain ⟨us', -, h5, -⟩ := h4
        have := h5 b e'
        have := hb.1
        omega
      have HMR := Lib.hid hmr
      have hP : Hid (∀ (w5 : World) (g' cap : Nat), w5.ownsRow (w.heap.size + 2) 72 4 (.slice (some ⟨g', 0, none⟩) (n + 1) cap) (n + 1) (us ++ [.int .i64 k, .int .i64 ii, .int .i64 oo, .slice ap np cp]) → (w4.alloc (.cells #[.int .i64 k, .int .i64 ii, .int .i64 oo, .slice ap np cp] 72 (0, 0))).grownBy w5 (Value.slice av n cv).ownBlock →
          ((Value.slice av n cv).ownBlock = some g' ∨ g' = (w4.alloc (.cells #[.int .i64 k, .int .i64 ii, .int .i64 oo, .slice ap np cp] 72 (0, 0))).heap.size) → ListQ shOp 72 (w.heap.size + 2) w5.heap.size w5 (.slice (some ⟨g', 0, none⟩) (n + 1) cap) (m ++ [(k, ii, oo, ps)]) ∧ Below (w.heap.size + 2) w4 w5 ∧ Turned B w w5 C ∧ w5.heap[w3.heap.size]? = some (.cells #[.int .i64 k, .int .i64 ii, .int .i64 oo, .slice ap np cp] 72 (0, 0))) := Lib.hid fun w5 g' cap ho hgr hat => by
        have hp := ListQ.put (S := shOp) (T := 72) (lo := w.heap.size + 2) (hi := w3.heap.size) (w := w4) (w' := w5) (v := .slice av n cv) (v' := .slice (some ⟨g', 0, none⟩) (n + 1) cap) (xs := m) (o := (.cells #[.int .i64 k, .int .i64 ii, .int .i64 oo, .slice ap np cp] 72 (0, 0))) (x := (k, ii, oo, ps))
          hlo3 h1 h2 hge h3 HMR.out rfl (by rw [HN.out]; exact ho) hgr (by
            rcases hat with e | e
            · exact .inl e.symm
            · exact .inr (congrArg some e))
        refine ⟨hp.1, hp.2, (hta.alloc (.cells #[.int .i64 k, .int .i64 ii, .int .i64 oo, .slice ap np cp] 72 (0, 0))).grow hlt hgr fun r hr => ?_, (hgr.block w3.heap.size (by rw [size_one']; omega) (fun e => by have := h2 _ e.symm; omega)).trans ((Below.heap_alloc _ _ _ (by omega)).trans hbn)⟩
        have := (World.ownsRow.lt h1 r hr).1
        omega
      have hn100 : n ≤ 100 := by omega
      have h1' := h1
      rw [HN.out] at h1'
      have HRD : Hid ((w4.alloc (.cells #[.int .i64 k, .int .i64 ii, .int .i64 oo, .slice ap np cp] 72 (0, 0))).ownsRow (w.heap.size + 2) 72 4 (.slice av n cv) n us) := Lib.hid (World.ownsRow.alloc h1' _)
      have HND : Hid (∀ j u, ([.int .i64 k, .int .i64 ii, .int .i64 oo, .slice ap np cp] : List Value)[j]? = some u → (w4.alloc (.cells #[.int .i64 k, .int .i64 ii, .int .i64 oo, .slice ap np cp] 72 (0, 0))).cell? ((⟨w4.heap.size, 0, none⟩ : Addr).add j) = some u) := Lib.hid (World.news_of_block (heap_alloc_new w4 (.cells #[.int .i64 k, .int .i64 ii, .int .i64 oo, .slice ap np cp] 72 (0, 0))))
      have HBS : Hid (w.heap.size + 2 ≤ (w4.alloc (.cells #[.int .i64 k, .int .i64 ii, .int .i64 oo, .slice ap np cp] 72 (0, 0))).heap.size) := Lib.hid (by rw [size_one']; omega)
      have HB04 := Lib.hid hb04
      have HB14 := Lib.hid hb14
      have HBN := Lib.hid hbn
      have HSM' := Lib.hid (HSM.out.snoc (x := (k, ii, oo, ps)) (by show ps.length ≤ 37; omega))
      have hlen4 : w3.heap.size < w4.heap.size := by omega
      clear hrow hip hrd hlx hb03 hb13 ht3 ht3' hbx hbn hbs hta hl4 hb04 hb14 h1 h1' h2 h3 hmr hnp
      go_wp2_with (at_builtin; refine wpList_append_lies _ rfl _ _ 24 rfl (w.heap.size + 2) 72 j0 (.agg #[.int .i64 0, .int .i64 0, .int .i64 0, .slice none 0 0]) 4 48 Try.underlying24 hj hy0 hy1 hy2 rfl (by decide) _ _ _ rfl HRD.out ⟨w4.heap.size, 0, none⟩ 1 1 [.int .i64 k, .int .i64 ii, .int .i64 oo, .slice ap np cp] rfl rfl HND.out (op_cells _ _ _ _ _ _) (by omega) (by unfold maxLen; omega) (by omega) HBS.out _ rfl ?_; intro g' cap w5 hown5 hgrow5 hat5 _; obtain ⟨hli5, hb5, ht5, hox⟩ := hP.out w5 g' cap hown5 hgrow5 hat5; have hb15 := (hb5.block _ (by omega)).trans HB14.out; have z0 := box1 hb15; have z1 := frozen_of_row w5 (w.heap.size + 1) 0 _ _ hb15; have hb05 := (hb5.block _ (by omega)).trans HB04.out; obtain ⟨⟨p0, p1, p2, p3⟩, -⟩ := cells4 hox; have HLI5 := Lib.hid hli5; have HT5 := Lib.hid ht5; have HB05 := Lib.hid hb05; have HB15 := Lib.hid hb15; clear hown5 hgrow5 hat5 hli5 hb5 ht5 hb05 hb15 y0 hox)
      go_roundw
      case rel =>
        refine ⟨r - 1, oo, .slice (some ⟨g', 0, none⟩) (n + 1) cap, m ++ [(k, ii, oo, ps)], rfl, ⟨o0, o1⟩, ?_, ?_, HSM'.out, ?_, ?_, ?_, HT5.out.setCell hlt ⟨w.heap.size + 1, 0, none⟩ _ (by show w.heap.size ≤ w.heap.size + 1; omega)⟩
        · congr 1
          omega
        · rw [List.length_append, HN.out]
          show r - 1 + (n + 1) = N
          omega
        · exact (heap_setCell_other _ _ _ _ (by show w.heap.size ≠ w.heap.size + 1; omega)).trans HB05.out
        · exact heap_setCell_same w5 (w.heap.size + 1) 0 _ _ _ HB15.out
        · simpa using HLI5.out.stored (w.heap.size + 1) 0 (.slice (some ⟨g', 0, none⟩) (n + 1) cap) (by omega)
      case measure => simp [intOf]; omega
    · obtain rfl : r = 0 := by omega
      obtain ⟨rfl, hn6⟩ : N = n ∧ n ≤ 6 := by omega
      have y0 := box1 hb1
      obtain y1 : wr.cell? ⟨w.heap.size, 0, none⟩ = some (.slice none 0 0) := by rw [cell_of_row _ _ _ _ _ _ hb0]; rfl
      have y2 := frozen_of_row wr w.heap.size 0 _ _ hb0
      clear hb0 hb1 hli ht hsm hn
      go_wp2_with fail
      refine bodyPost_ret (results_cell_row rfl _ _ w.heap.size 26 #[.slice av N cv] (0, 0) _ rfl ?_ Try.underlying26 rfl (by kernel_rfl)) rfl ?_
      · exact heap_setCell_same wr w.heap.size 0 _ _ _ HB0.out
      exact ⟨av, N, cv, m, rfl, ⟨⟨hN0, hn6⟩, HN.out, hcv1, hcv2, HSM.out⟩, by
        have h := (HLI.out.stored w.heap.size 0 (.slice av N cv) (by omega)).wide (lo' := w.heap.size) (hi' := (wr.setCell ⟨w.heap.size, 0, none⟩ (.slice av N cv)).heap.size) (by omega) (by simp) (Nat.le_refl _)
        exact h, HT.out.setCell hlt ⟨w.heap.size, 0, none⟩ _ (Nat.le_refl _)⟩
end Go.Proofs.Ytkflinobmagiiaa

end

/-! YtkflinobmagiiaaKeeps -/
section

namespace Go.Proofs.Ytkflinobmagiiaa
open Go
section
variable {P : Program} (w : World)
theorem run_append_keeps (t ty : TypeId) (base : Nat) (e : TypeId) (i : TypeInfo) (z : Value) (size bytes : Nat) (ht : P.underlying t = some (.slice e)) (hi : P.info? e = some i) (hz : i.zero = some z)
    (hsize : i.size = size) (hby : i.bytes = bytes) (hzs : z.cells.size = size) (hsz : 0 < size)
    (v : Value) (n : Nat) (xs : List Value) (hown : w.ownsRow base e size v n xs)
    (ad : Addr) (m c : Nat) (news : List Value) (hl : news.length = m * size) (hnews : ∀ j u, news[j]? = some u → w.cell? (ad.add j) = some u) (h1 : ∀ u ∈ news, u.oneCell' = true)
    (hm : 0 < m) (h63 : n + m ≤ maxLen) (hbytes : (n + m) * bytes ≤ 140737488355328) (hbase : base ≤ w.heap.size) (H : Nat) (hH : w.heap.size = H) :
    ∃ g cap w', (Builtin.append_ #[t, t] ty #[v, .slice (some ad) m c]).run P w = .ok (.slice (some ⟨g, 0, none⟩) (n + m) cap) w' ∧
      w'.ownsRow base e size (.slice (some ⟨g, 0, none⟩) (n + m) cap) (n + m) (xs ++ news) ∧ w.grownBy w' v.ownBlock ∧ (v.ownBlock = some g ∨ g = H) ∧ g < w'.heap.size ∧
      ∀ k j u, v.ownBlock = some k → xs[j]? = some u → w'.cell? ((⟨k, 0, none⟩ : Addr).add j) = some u := by
  obtain ⟨g, cap, w', hr, h2, h3, h4, h5⟩ := run_append_lies (P := P) w t ty base e i z size bytes ht hi hz hsize hby hzs hsz v n xs hown ad m c news hl hnews h1 hm h63 hbytes hbase H hH
  refine ⟨g, cap, w', hr, h2, h3, h4, h5, fun k j u hk hu => ?_⟩
  subst hsize
  subst hby
  have hown' := hown
  rcases hown.2 with ⟨rfl, _⟩ | ⟨g0, cap0, cur, rfl, hbg, hg, hnc, hcm, hcs, htake⟩
  · simp [Value.ownBlock] at hk
  · obtain rfl : g0 = k := by simpa [Value.ownBlock] using hk
    by_cases hroom : n + m ≤ cap0
    · obtain ⟨w2, hr2, ho2, -⟩ := run_append_fits (P := P) w base t ty e i i.size ht hi rfl g0 n cap0 xs hown' ad m c news hl hnews h1 hroom
      have he := hr.symm.trans hr2
      injection he with e1 e2
      subst e2
      exact World.ownsRow.cells ho2 (g := g0) rfl j u (by rw [List.getElem?_append_left (List.getElem?_eq_some_iff.1 hu).1]; exact hu)
    · have holds : ∀ j u, xs[j]? = some u → w.cell? ((⟨g0, 0, none⟩ : Addr).add j) = some u := hown'.cells (g := g0) rfl
      have hr2 := run_append_grow (P := P) w t ty e i z ht hi hz ⟨g0, 0, none⟩ n cap0 xs hown'.1 holds ad m c news hl hnews (by omega) (by simp only [maxLen] at h63; omega) (growslice_fits (by omega) hbytes)
      have he := hr.symm.trans hr2
      injection he with e1 e2
      subst e2
      have hlt : g0 < w.heap.size := (Array.getElem?_eq_some_iff.1 hg).1
      have hb : ((⟨g0, 0, none⟩ : Addr).add j).block = g0 := by unfold Addr.add; split <;> rfl
      have hlt' : g0 < w.drew.heap.size := hlt
      refine (World.cell?_of_block (w := w) ?_).trans (holds j u hu)
      rw [hb]
      exact Go.RowKit.Below.heap_alloc w.drew _ _ hlt'
theorem wp_append_keeps {o : Oper} {a : Act} {K : Act → World → Prop} {Q : Exit → Act → World → Prop} (s x : Operand) (t : TypeId)
    (ho : o.op = .call { callee := .builtin .append, args := #[s, x], argTypes := #[t, t] })
    (base : Nat) (e : TypeId) (i : TypeInfo) (z : Value) (size bytes : Nat) (ht : P.underlying t = some (.slice e)) (hi : P.info? e = some i) (hz : i.zero = some z)
    (hsize : i.size = size) (hby : i.bytes = bytes) (hzs : z.cells.size = size) (hsz : 0 < size)
    (v : Value) (n : Nat) (xs : List Value) (hs : a.eval s = v) (hown : w.ownsRow base e size v n xs)
    (ad : Addr) (m c : Nat) (news : List Value) (hx : a.eval x = .slice (some ad) m c) (hl : news.length = m * size) (hnews : ∀ j u, news[j]? = some u → w.cell? (ad.add j) = some u) (h1 : ∀ u ∈ news, u.oneCell' = true)
    (hm : 0 < m) (h63 : n + m ≤ maxLen) (hbytes : (n + m) * bytes ≤ 140737488355328) (hbase : base ≤ w.heap.size) (H : Nat) (hH : w.heap.size = H)
    (h : ∀ g cap w', w'.ownsRow base e size (.slice (some ⟨g, 0, none⟩) (n + m) cap) (n + m) (xs ++ news) → w.grownBy w' v.ownBlock → (v.ownBlock = some g ∨ g = H) → g < w'.heap.size → (∀ k j u, v.ownBlock = some k → xs[j]? = some u → w'.cell? ((⟨k, 0, none⟩ : Addr).add j) = some u) → K (a.put o.dst (.slice (some ⟨g, 0, none⟩) (n + m) cap)) w') : o.wp P a w K Q := by
  obtain ⟨g, cap, w', hr, h2, h3, h4, h5, h6⟩ := run_append_keeps (P := P) w t o.type base e i z size bytes ht hi hz hsize hby hzs hsz v n xs hown ad m c news hl hnews h1 hm h63 hbytes hbase H hH
  unfold Oper.wp execOp
  simp only [ho, resolve, invoke, builtin, Sem.run_bind, Sem.run_pure, Result.andThen_ok, List.map_toArray, List.map_cons, List.map_nil, hs, hx, hr]
  exact h g cap w' h2 h3 h4 h5 h6
/-- At a step of a region that draws its order. -/
theorem step_append_keeps {ops : Array Oper} {o : Oper} {a : Act} {K : Act → World → Prop} {Q : Exit → Act → World → Prop} {E : Prop} (hgd : o.guard = none) (s x : Operand) (t : TypeId)
    (ho : o.op = .call { callee := .builtin .append, args := #[s, x], argTypes := #[t, t] })
    (base : Nat) (e : TypeId) (i : TypeInfo) (z : Value) (size bytes : Nat) (ht : P.underlying t = some (.slice e)) (hi : P.info? e = some i) (hz : i.zero = some z)
    (hsize : i.size = size) (hby : i.bytes = bytes) (hzs : z.cells.size = size) (hsz : 0 < size)
    (v : Value) (n : Nat) (xs : List Value) (hs : a.eval s = v) (hown : w.ownsRow base e size v n xs)
    (ad : Addr) (m c : Nat) (news : List Value) (hx : a.eval x = .slice (some ad) m c) (hl : news.length = m * size) (hnews : ∀ j u, news[j]? = some u → w.cell? (ad.add j) = some u) (h1 : ∀ u ∈ news, u.oneCell' = true)
    (hm : 0 < m) (h63 : n + m ≤ maxLen) (hbytes : (n + m) * bytes ≤ 140737488355328) (hbase : base ≤ w.heap.size) (H : Nat) (hH : w.heap.size = H)
    (h : ∀ g cap w', w'.ownsRow base e size (.slice (some ⟨g, 0, none⟩) (n + m) cap) (n + m) (xs ++ news) → w.grownBy w' v.ownBlock → (v.ownBlock = some g ∨ g = H) → g < w'.heap.size → (∀ k j u, v.ownBlock = some k → xs[j]? = some u → w'.cell? ((⟨k, 0, none⟩ : Addr).add j) = some u) → K (a.put o.dst (.slice (some ⟨g, 0, none⟩) (n + m) cap)) w') :
    if Region.wanted o (yielded ops a.tmps) = true then Oper.wp P o a w K Q else E := by
  have hw : Region.wanted o (yielded ops a.tmps) = true := by simp [Region.wanted, hgd]
  rw [if_pos hw]
  exact wp_append_keeps w s x t ho base e i z size bytes ht hi hz hsize hby hzs hsz v n xs hs hown ad m c news hx hl hnews h1 hm h63 hbytes hbase H hH h
end
end Go.Proofs.Ytkflinobmagiiaa

end

/-! YtkflinobmagiiaaHeldK -/
section

namespace Go.Proofs.Ytkflinobmagiiaa
open Go
section
variable {P : Program} {ops : Array Oper} {Q : Exit → Act → World → Prop} {md : Region.Mode} {S : World → Prop}
/-- Operation j waits for every other operation of its region. -/
def LastOp (md : Region.Mode) (ops : Array Oper) (j : Nat) : Prop := ∃ oj, ops[j]? = some oj ∧ ∀ i, i < ops.size → i ≠ j → ∃ e ∈ oj.after, Region.binds md e = true ∧ e.on = i
/-- Every order, S behind each operation but one that waits for all. -/
def AnyK (P : Program) (md : Region.Mode) (ops : Array Oper) (Q : Exit → Act → World → Prop) (S : World → Prop) : Nat → Array Bool → Act → World → Prop
  | 0, listed, a, w => Region.ready md ops listed = [] ∧ Q .normal a w
  | fuel + 1, listed, a, w => (Region.ready md ops listed = [] → Q .normal a w) ∧
    ∀ i ∈ Region.ready md ops listed, wpOp P ops Q i (fun a' w' => (LastOp md ops i ∨ S w') ∧ AnyK P md ops Q S fuel (listed.setIfInBounds i true) a' w') a w
theorem any_of_K : ∀ (fuel : Nat) (listed : Array Bool) (a : Act) (w : World), AnyK P md ops Q S fuel listed a w → wpAny P md ops Q fuel listed a w
  | 0, _, _, _, h => h
  | fuel + 1, _, _, _, h => ⟨h.1, fun i hi => wpOp_mono (fun a' w' h' => any_of_K fuel _ a' w' h'.2) (h.2 i hi)⟩
theorem anyK_first {i : Nat} {oi : Oper} {v : Value} (hi : ops[i]? = some oi) (hsel : ∀ (j : Nat) (o : Oper) cs b, ops[j]? = some o → o.op ≠ .select cs b)
    (hQ : ∀ c a w, Q (.panic c) (a.put oi.dst v) w → Q (.panic c) a w) :
    ∀ (fuel : Nat) (listed : Array Bool) (a : Act) (w : World),
      (∀ j oj, ops[j]? = some oj → j ≠ i → listed.getD j true = false → (∀ e ∈ oj.after, Region.binds md e = true → e.on ≠ i) → oi.apart ops oj = true) →
      i ∈ Region.ready md ops listed → YieldsIf P ops S oi v a → S w →
      AnyK P md ops Q S fuel (listed.setIfInBounds i true) (a.put oi.dst v) w → AnyK P md ops Q S (fuel + 1) listed a w := by
  intro fuel
  induction fuel with
  | zero =>
    intro listed a w _ hr hy hS H
    refine ⟨fun h => absurd hr (by rw [h]; exact List.not_mem_nil), fun j hj => ?_⟩
    by_cases hji : j = i
    · subst hji
      exact hy.wpOp hi hS ⟨.inr hS, H⟩
    · exact absurd (ready_mono hj hji) (by rw [H.1]; exact List.not_mem_nil)
  | succ fuel ih =>
    intro listed a w hfree hr hy hS H
    refine ⟨fun h => absurd hr (by rw [h]; exact List.not_mem_nil), fun j hj => ?_⟩
    by_cases hji : j = i
    · subst hji
      exact hy.wpOp hi hS ⟨.inr hS, H⟩
    · obtain ⟨hjun, oj, hoj, hall⟩ := mem_ready.1 hj
      have hun : listed[i]?.getD true = true → False := fun h => by
        have h0 := (mem_ready.1 hr).1
        simp_all
      have hnot : ∀ e ∈ oj.after, Region.binds md e = true → e.on ≠ i := fun e he hb heq => by
        have h1 := hall e he hb
        have h0 := (mem_ready.1 hr).1
        rw [heq] at h1
        rcases Nat.lt_or_ge i listed.size with h' | h'
        · simp [h'] at h0 h1
          rw [h0] at h1
          cases h1
        · simp [Array.getElem?_eq_none h'] at h1
      have hnl : ¬ LastOp md ops j := fun ⟨o, ho, hw⟩ => by
        have hoo : oj = o := Option.some.inj (hoj.symm.trans ho)
        subst hoo
        obtain ⟨e, he, hb, hon⟩ := hw i (Array.getElem?_eq_some_iff.1 hi).1 (fun e => hji e.symm)
        exact hnot e he hb hon
      have h2 := wpOp_putIf hoj (hfree j oj hoj hji hjun hnot) (fun cs b => hsel i oi cs b hi) (fun cs b => hsel j oj cs b hoj) hQ hy (H.2 j (ready_mono hj hji))
      refine wpOp_mono (fun a' w' h3 => ?_) h2
      have hS' : S w' := h3.2.1.resolve_left hnl
      refine ⟨.inr hS', ih (listed.setIfInBounds j true) a' w' (fun k ok hk hki hun hno => hfree k ok hk hki ?_ hno) (ready_mono hr (Ne.symm hji)) h3.1 hS' ?_⟩
      · by_cases hjk : j = k
        · subst hjk
          exact hjun
        · rw [getD_set_ne true hjk] at hun
          exact hun
      · rw [Array.setIfInBounds_comm _ _ hji]
        exact h3.2.2
/-- Take operation i first. -/
theorem anyK_take {i : Nat} {oi : Oper} {v : Value} {fuel : Nat} {listed : Array Bool} {a : Act} {w : World} (hi : ops[i]? = some oi)
    (hs : Region.noSelect ops = true) (hf : Region.free md ops listed i = true) (hr : (Region.ready md ops listed).contains i = true)
    (hQ : ∀ c a w, Q (.panic c) (a.put oi.dst v) w → Q (.panic c) a w) (hy : YieldsIf P ops S oi v a) (hS : S w)
    (h : AnyK P md ops Q S fuel (listed.setIfInBounds i true) (a.put oi.dst v) w) : AnyK P md ops Q S (fuel + 1) listed a w :=
  anyK_first hi (Region.noSelect_spec hs) hQ fuel listed a w (Region.free_spec hi hf) (by simpa using hr) hy hS h
/-- One operation alone may come up. -/
theorem anyK_one {i : Nat} {fuel : Nat} {listed : Array Bool} {a : Act} {w : World} (hr : Region.ready md ops listed = [i])
    (h : wpOp P ops Q i (fun a' w' => (LastOp md ops i ∨ S w') ∧ AnyK P md ops Q S fuel (listed.setIfInBounds i true) a' w') a w) : AnyK P md ops Q S (fuel + 1) listed a w := by
  refine ⟨fun h0 => ?_, fun j hj => ?_⟩
  · rw [hr] at h0
    cases h0
  · rw [hr] at hj
    rw [List.mem_singleton.1 hj]
    exact h
/-- One operation alone may come up, and is wanted. -/
theorem anyK_step {i : Nat} {o : Oper} {fuel : Nat} {listed : Array Bool} {a : Act} {w : World} (hr : Region.ready md ops listed = [i]) (ho : ops[i]? = some o) (hw : Region.wanted o (yielded ops a.tmps) = true)
    (h : ∀ K : Act → World → Prop, (∀ a' w', (LastOp md ops i ∨ S w') → AnyK P md ops Q S fuel (listed.setIfInBounds i true) a' w' → K a' w') → Oper.wp P o a w K Q) : AnyK P md ops Q S (fuel + 1) listed a w :=
  anyK_one hr (by
    unfold wpOp
    simp only [ho, hw, if_true]
    exact .inl (h _ fun a' w' h1 h2 => ⟨h1, h2⟩))
theorem anyK_done {listed : Array Bool} {a : Act} {w : World} (hr : Region.ready md ops listed = []) (h : Q .normal a w) : ∀ fuel, AnyK P md ops Q S fuel listed a w
  | 0 => ⟨hr, h⟩
  | _ + 1 => ⟨fun _ => h, by rw [hr]; simp⟩
theorem wp_region_K {id : Nat} {a : Act} {w : World} (hm : P.follows .mixedOrders = true)
    (h : AnyK P .any ops Q S ops.size (Array.replicate ops.size false) a { w with drawn := w.drawn + 1 }) : (Code.region id ops true).wp P Q a w :=
  wp_region_any hm (any_of_K _ _ _ _ h)
/-- Whether operation j waits for every other, as a Bool. -/
def lastB (md : Region.Mode) (ops : Array Oper) (j : Nat) : Bool :=
  match ops[j]? with
  | some oj => (List.range ops.size).all fun i => decide (i = j) || oj.after.any fun e => Region.binds md e && decide (e.on = i)
  | none => false
theorem last_of {j : Nat} (h : lastB md ops j = true) : LastOp md ops j := by
  unfold lastB at h
  split at h
  · rename_i oj hoj
    refine ⟨oj, hoj, fun i hi hne => ?_⟩
    have h1 := List.all_eq_true.1 h i (List.mem_range.2 hi)
    simp only [Bool.or_eq_true, decide_eq_true_eq, Array.any_eq_true] at h1
    rcases h1 with h1 | ⟨k, hk, h1⟩
    · exact absurd h1 hne
    · simp only [Bool.and_eq_true, decide_eq_true_eq] at h1
      exact ⟨_, Array.getElem_mem hk, h1.1, h1.2⟩
  · cases h
end
end Go.Proofs.Ytkflinobmagiiaa

end
