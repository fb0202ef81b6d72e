import Derived.Test.YtcooobnaocbdjaaJoin25
/-! YtcooobnaocbdjaaPPipU -/
section

namespace Go.Proofs.Ytcooobnaocbdjaa
open Go.RowKit Go.Sort
set_option linter.unusedVariables false
set_option linter.unusedSimpArgs false

/-- What one stage reads as, whole. -/
theorem stage_whole {I : Nat → Prop} {w : World} {a : Option Addr} {n : Nat} {l : List dStage} (h : ListAt shStage I w a n l) (j : Nat) (hj : j < n) :
    ∃ b o x es, l[j]? = some x ∧ a = some ⟨b, o, none⟩ ∧ I b ∧ w.rangeAt b (o + j * 14) es ∧ shStage.reads I w es x := by
  obtain ⟨x, hx⟩ : ∃ x, l[j]? = some x := ⟨_, List.getElem?_eq_getElem (by rw [h.1]; exact hj)⟩
  obtain ⟨b, o, es, e, hb, hr, hs⟩ := h.2 j x hx
  rw [shStage_size] at hr
  exact ⟨b, o, x, es, hx, e, hb, hr, hs⟩
/-- What one queue reads as. -/
theorem queue_at {I : Nat → Prop} {w : World} {a : Option Addr} {n : Nat} {l : List dQueue} (h : ListAt shQueue I w a n l) (j : Nat) (hj : j < n) :
    ∃ b o x ax nx cx, l[j]? = some x ∧ a = some ⟨b, o, none⟩ ∧ I b ∧ w.cell? ⟨b, o + j * 2, none⟩ = some (.int .i64 x.1) ∧ w.cell? ⟨b, o + j * 2 + 1, none⟩ = some (.slice ax nx cx) ∧ nx ≤ cx ∧ cx ≤ 9223372036854775807 ∧ ListAt shItem I w ax nx x.2 := by
  obtain ⟨x, hx⟩ : ∃ x, l[j]? = some x := ⟨_, List.getElem?_eq_getElem (by rw [h.1]; exact hj)⟩
  obtain ⟨b, o, es, e, hb, hr, hs⟩ := h.2 j x hx
  obtain ⟨ax, nx, cx, rfl, h1, h2, h3⟩ := shQueue_reads.1 hs
  refine ⟨b, o, x, ax, nx, cx, hx, e, hb, ?_, ?_, h1, h2, h3⟩
  · have := hr 0 _ rfl
    simpa [shQueue_size] using this
  · have := hr 1 _ rfl
    simpa [shQueue_size] using this
/-- What one pair reads as. -/
theorem pair_at {I : Nat → Prop} {w : World} {a : Option Addr} {n : Nat} {l : List dPair} (h : ListAt shPair I w a n l) (j : Nat) (hj : j < n) :
    ∃ b o x ax nx cx ay ny cy, l[j]? = some x ∧ a = some ⟨b, o, none⟩ ∧ I b ∧ w.cell? ⟨b, o + j * 2, none⟩ = some (.slice ax nx cx) ∧ w.cell? ⟨b, o + j * 2 + 1, none⟩ = some (.slice ay ny cy) ∧ ListAt Shape.int I w ax nx x.1 ∧ ListAt Shape.int I w ay ny x.2 := by
  obtain ⟨x, hx⟩ : ∃ x, l[j]? = some x := ⟨_, List.getElem?_eq_getElem (by rw [h.1]; exact hj)⟩
  obtain ⟨b, o, es, e, hb, hr, hs⟩ := h.2 j x hx
  obtain ⟨ax, nx, cx, ay, ny, cy, rfl, ⟨-, -, h3⟩, ⟨-, -, h4⟩⟩ := shPair_reads.1 hs
  refine ⟨b, o, x, ax, nx, cx, ay, ny, cy, hx, e, hb, ?_, ?_, h3, h4⟩
  · have := hr 0 _ rfl
    simpa [shPair_size] using this
  · have := hr 1 _ rfl
    simpa [shPair_size] using this
end Go.Proofs.Ytcooobnaocbdjaa

end

/-! YtcooobnaocbdjaaPSamU -/
section

namespace Go.Proofs.Ytcooobnaocbdjaa
open Go.RowKit Go.Sort
set_option linter.unusedVariables false
set_option linter.unusedSimpArgs false

theorem bool_of (p : Prop) : ∃ R : Bool, R = true ↔ p := by
  rcases Classical.em p with h | h
  · exact ⟨true, by simp [h]⟩
  · exact ⟨false, by simp [h]⟩
theorem dec_of {p : Prop} [Decidable p] {R : Bool} (h : R = true ↔ p) : decide p = R := by
  cases R
  · exact decide_eq_false fun hp => by have := h.2 hp; cases this
  · exact decide_eq_true (h.1 rfl)
theorem no_of {R : Bool} {p : Prop} (h : R = true ↔ p) (hn : ¬ p) : R = false := by
  rw [← Bool.not_eq_true, h]
  exact hn
theorem same_list {α : Type} {xs ys : List α} (hl : xs.length = ys.length) (h : ∀ j, j < xs.length → xs[j]? = ys[j]?) : xs = ys := List.ext_getElem? fun j => by
  by_cases hj : j < xs.length
  · exact h j hj
  · rw [List.getElem?_eq_none (by omega), List.getElem?_eq_none (by omega)]
theorem specSameVec_r (w : World) (a1 : Option Addr) (n1 c1 : Nat) (xs : List Int) (a2 : Option Addr) (n2 c2 : Nat) (ys : List Int) (h1 : IntsIn w.heap.size w a1 n1 xs) (h2 : IntsIn w.heap.size w a2 n2 ys) (R : Bool) (hR : R = true ↔ xs = ys) :
    Calls Try.prog 49 #[.slice a1 n1 c1, .slice a2 n2 c2] w fun e w' => e = .returned (.bool R) ∧ Below w.heap.size w w' := by
  have := specSameVec_any w a1 n1 c1 xs a2 n2 c2 ys h1 h2
  rwa [dec_of hR] at this
end Go.Proofs.Ytcooobnaocbdjaa

end
