/-
  An element put behind a list that came in, cut so that there is no room behind it: the list lies anew. Of no program.
-/
import Derived.Test.YtdoofapjhgahgaaGrow
import Derived.ArgAppend
namespace Go.Proofs.Ytdoofapjhgahgaa
open Go.RowKit
set_option linter.unusedVariables false

theorem op_append_grows {P : Program} (w : World) {o : Oper} {a : Act} {K : Act → World → Prop} {Q : Exit → Act → World → Prop} (s x : Operand) (t : TypeId)
    (hop : o.op = Op.call { callee := Callee.builtin Builtin.append, args := #[s, x], argTypes := #[t, t] })
    (e : TypeId) (i : TypeInfo) (z : Value) (size bytes : Nat) (h1 : P.underlying t = some (.slice e)) (h2 : P.info? e = some i) (h3 : i.zero = some z) (h4 : i.size = size) (h5 : i.bytes = bytes) (h6 : z.cells.size = size) (h7 : 0 < size)
    (ao : Option Addr) (n cap : Nat) (olds : List Value) (hs : a.eval s = .slice ao n cap) (hnone : ao = none → n = 0 ∧ cap = 0) (hlo : olds.length = n * size) (holds : ∀ b, ao = some b → ∀ j u, olds[j]? = some u → w.cell? (b.add j) = some u)
    (ad : Addr) (m c : Nat) (news : List Value) (hx : a.eval x = .slice (some ad) m c) (hn : news.length = m * size) (hc : ∀ j u, news[j]? = some u → w.cell? (ad.add j) = some u) (h1c : ∀ u ∈ news, u.oneCell' = true)
    (hfull : cap < n + m) (b1 : n + m ≤ maxLen) (b2 : (n + m) * bytes ≤ 140737488355328)
    (hK : ∀ v' w', w'.ownsRow w.heap.size e size v' (n + m) (olds ++ news) → w.grownBy w' none → K (a.put o.dst v') w') :
    Oper.wp P o a w K Q := by
  cases ao with
  | some b =>
    obtain ⟨v', w', hrun, r1, r2⟩ := run_append_arg_grows (P := P) w t o.type e i z size bytes h1 h2 h3 h4 h5 h6 h7 b n cap olds hlo (holds b rfl) ad m c news hn hc hfull b1 b2
    unfold Oper.wp
    simp [execOp, hop, resolve, invoke, builtin, hs, hx, hrun, Result.andThen]
    exact hK v' w' r1 r2
  | none =>
    obtain ⟨rfl, rfl⟩ := hnone rfl
    obtain rfl : olds = [] := List.eq_nil_of_length_eq_zero (by simpa using hlo)
    obtain ⟨v', w', hrun, r1, r2, _⟩ := run_append_own (P := P) w w.heap.size t o.type e i z size bytes h1 h2 h3 h4 h5 h6 h7 (.slice none 0 0) 0 [] (World.ownsRow_nil w _ e size) ad m c news hn hc h1c b1 b2 (Nat.le_refl _)
    unfold Oper.wp
    simp [execOp, hop, resolve, invoke, builtin, hs, hx, hrun, Result.andThen]
    exact hK v' w' r1 r2
section
variable {α : Type} {S : Shape α} {I : Nat → Prop} {w w' : World} {a : Option Addr} {n : Nat} {xs : List α}
/-- A list that has a place lies somewhere. -/
theorem ListAt.none (h : ListAt S I w none n xs) : n = 0 := by
  rcases Nat.eq_zero_or_pos n with e | e
  · exact e
  · have hx : xs[0]? = some (xs[0]'(by rw [h.1]; exact e)) := List.getElem?_eq_getElem _
    obtain ⟨b, o, es, e', -⟩ := h.2 0 _ hx
    cases e'
/-- The cells of a list. -/
theorem ListAt.olds (h : ListAt S I w a n xs) (hS : 0 < S.size) : ∃ us : List Value, us.length = n * S.size ∧ (∀ b, a = some b → ∀ j u, us[j]? = some u → w.cell? (b.add j) = some u) ∧
    ∀ b o, a = some ⟨b, o, .none⟩ → ∀ j, j < n * S.size → ∃ u, us[j]? = some u ∧ w.cell? ⟨b, o + j, .none⟩ = some u := by
  cases a with
  | none =>
    obtain rfl := h.none
    exact ⟨[], by simp, fun b e => (by cases e), fun b o e => (by cases e)⟩
  | some ad =>
    rcases Nat.eq_zero_or_pos n with e | hp
    · subst e
      exact ⟨[], by simp, fun b e j u hu => (by simp at hu), fun b o e j hj => (by omega)⟩
    · have hcell : ∀ j, j < n * S.size → ∃ u, w.cell? (ad.add j) = some u := fun j hj => by
        have hq : j / S.size < n := Nat.div_lt_of_lt_mul (by rwa [Nat.mul_comm])
        have hx : xs[j / S.size]? = some (xs[j / S.size]'(by rw [h.1]; exact hq)) := List.getElem?_eq_getElem _
        obtain ⟨b, o, es, e, -, hr, hs⟩ := h.2 _ _ hx
        cases e
        have hl := S.len hs
        have hm := Nat.mod_lt j hS
        have hu : es[j % S.size]? = some (es[j % S.size]'(by rw [hl]; exact hm)) := List.getElem?_eq_getElem _
        have := hr _ _ hu
        rw [Addr.add_mid]
        have hj2 : o + j / S.size * S.size + j % S.size = o + j := by
          have := Nat.div_add_mod j S.size
          rw [Nat.mul_comm] at this
          omega
        rw [hj2] at this
        exact ⟨_, this⟩
      have hg : ∀ j, ((List.range (n * S.size)).map fun j => (w.cell? (ad.add j)).getD undef)[j]? = if j < n * S.size then some ((w.cell? (ad.add j)).getD undef) else .none := fun j => by
        by_cases hj : j < n * S.size
        · simp [hj]
        · rw [if_neg hj, List.getElem?_eq_none (by simpa using hj)]
      refine ⟨(List.range (n * S.size)).map fun j => (w.cell? (ad.add j)).getD undef, by simp, fun b e j u hu => ?_, fun b o e j hj => ?_⟩
      · cases e
        rw [hg] at hu
        by_cases hj : j < n * S.size
        · rw [if_pos hj] at hu
          obtain ⟨u', hu'⟩ := hcell j hj
          rw [hu'] at hu ⊢
          exact hu
        · rw [if_neg hj] at hu
          cases hu
      · cases e
        obtain ⟨u', hu'⟩ := hcell j hj
        refine ⟨u', ?_, ?_⟩
        · rw [hg, if_pos hj, hu']
          rfl
        · rwa [Addr.add_mid] at hu'
/-- An element more, in new memory. -/
theorem ListAt.pushed {B base : Nat} {T : TypeId} {us es : List Value} {x : α} {v' : Value} (h : ListAt S (Under B) w a n xs)
    (hlo : us.length = n * S.size) (hat : ∀ b o, a = some ⟨b, o, .none⟩ → ∀ j, j < n * S.size → ∃ u, us[j]? = some u ∧ w.cell? ⟨b, o + j, .none⟩ = some u)
    (hx : S.reads (Under B) w es x) (hown : w'.ownsRow base T S.size v' (n + 1) (us ++ es)) (hw : Kept (Under B) w w') :
    ∃ g cap, v' = .slice (some ⟨g, 0, .none⟩) (n + 1) cap ∧ base ≤ g ∧ g < w'.heap.size ∧ n + 1 ≤ cap ∧ cap ≤ 9223372036854775807 ∧ ListAt S (fun k => k < B ∨ k = g) w' (some ⟨g, 0, .none⟩) (n + 1) (xs ++ [x]) := by
  have hl := S.len hx
  rcases hown.2 with ⟨e, hn⟩ | ⟨g, cap, cur, rfl, e1, e2, e3, e4, -⟩
  · omega
  · have hgl := World.ownsRow.lt hown g rfl
    unfold maxLen at e4
    refine ⟨g, cap, rfl, e1, hgl.2, e3, by omega, by rw [List.length_append, h.1]; rfl, fun j y hy => ?_⟩
    by_cases hj : j < n
    · rw [List.getElem?_append_left (by rw [h.1]; exact hj)] at hy
      obtain ⟨b, o, ys, e, hb, hr, hs⟩ := h.2 j y hy
      refine ⟨g, 0, ys, rfl, .inr rfl, fun i u hu => ?_, S.sub (S.keep hs hw) fun k hk => .inl hk⟩
      have hi : i < S.size := by rw [← S.len hs]; exact (List.getElem?_eq_some_iff.1 hu).1
      have hp := place_le (s := S.size) hj
      have hlt : j * S.size + i < n * S.size := by omega
      obtain ⟨u', hu1, hu2⟩ := hat b o e (j * S.size + i) hlt
      have h3 := hr i u hu
      rw [show o + (j * S.size + i) = o + j * S.size + i by omega, h3] at hu2
      cases hu2
      rw [Nat.zero_add, World.ownsRow.cellAt hown _ (by have := place_le (s := S.size) (show n < n + 1 by omega); omega), List.getElem?_append_left (by rw [hlo]; exact hlt)]
      exact hu1
    · have hjn : j = n := by
        have := (List.getElem?_eq_some_iff.1 hy).1
        rw [List.length_append, h.1] at this
        simp at this
        omega
      subst hjn
      rw [List.getElem?_append_right (by rw [h.1]; exact Nat.le_refl _), h.1, Nat.sub_self] at hy
      simp at hy
      subst hy
      refine ⟨g, 0, es, rfl, .inr rfl, fun i u hu => ?_, S.sub (S.keep hx hw) fun k hk => .inl hk⟩
      have hi : i < S.size := by rw [← hl]; exact (List.getElem?_eq_some_iff.1 hu).1
      rw [Nat.zero_add, World.ownsRow.cellAt hown _ (by rw [Nat.add_mul, Nat.one_mul]; omega), List.getElem?_append_right (by rw [hlo]; exact Nat.le_add_right _ _), hlo, Nat.add_sub_cancel_left]
      exact hu
end
end Go.Proofs.Ytdoofapjhgahgaa
