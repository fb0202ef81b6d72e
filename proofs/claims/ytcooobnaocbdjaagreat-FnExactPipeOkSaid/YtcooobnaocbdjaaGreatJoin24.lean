import Derived.Test.YtcooobnaocbdjaaGreatJoin23
import Derived.Test.YtcooobnaocbdjaaGreatJoin20
import Derived.Test.YtcooobnaocbdjaaGreatJoin13
import Derived.Test.YtcooobnaocbdjaaGreatJoin15
import Derived.Deep.QuietTactic
import Derived.BigQuiet
/-! YtcooobnaocbdjaaGreatPPipU -/
section

namespace Go.Proofs.YtcooobnaocbdjaaGreat
open Go.RowKit Go.Sort
set_option linter.unusedVariables false
set_option linter.unusedSimpArgs false

/-- What one stage reads as, whole. -/
theorem stage_whole {I : Nat → Prop} {w : World} {a : Option Addr} {n : Nat} {l : List dStage} (h : ListAt shStage I w a n l) (j : Nat) (hj : j < n) :
    ∃ b o x es, l[j]? = some x ∧ a = some ⟨b, o, none⟩ ∧ I b ∧ w.rangeAt b (o + j * 14) es ∧ shStage.reads I w es x := by
  obtain ⟨x, hx⟩ : ∃ x, l[j]? = some x := ⟨_, List.getElem?_eq_getElem (by rw [h.1]; exact hj)⟩
  obtain ⟨b, o, es, e, hb, hr, hs⟩ := h.2 j x hx
  rw [shStage_size] at hr
  exact ⟨b, o, x, es, hx, e, hb, hr, hs⟩
/-- What one queue reads as. -/
theorem queue_at {I : Nat → Prop} {w : World} {a : Option Addr} {n : Nat} {l : List dQueue} (h : ListAt shQueue I w a n l) (j : Nat) (hj : j < n) :
    ∃ b o x ax nx cx, l[j]? = some x ∧ a = some ⟨b, o, none⟩ ∧ I b ∧ w.cell? ⟨b, o + j * 2, none⟩ = some (.int .i64 x.1) ∧ w.cell? ⟨b, o + j * 2 + 1, none⟩ = some (.slice ax nx cx) ∧ nx ≤ cx ∧ cx ≤ 9223372036854775807 ∧ ListAt shItem I w ax nx x.2 := by
  obtain ⟨x, hx⟩ : ∃ x, l[j]? = some x := ⟨_, List.getElem?_eq_getElem (by rw [h.1]; exact hj)⟩
  obtain ⟨b, o, es, e, hb, hr, hs⟩ := h.2 j x hx
  obtain ⟨ax, nx, cx, rfl, h1, h2, h3⟩ := shQueue_reads.1 hs
  refine ⟨b, o, x, ax, nx, cx, hx, e, hb, ?_, ?_, h1, h2, h3⟩
  · have := hr 0 _ rfl
    simpa [shQueue_size] using this
  · have := hr 1 _ rfl
    simpa [shQueue_size] using this
/-- What one pair reads as. -/
theorem pair_at {I : Nat → Prop} {w : World} {a : Option Addr} {n : Nat} {l : List dPair} (h : ListAt shPair I w a n l) (j : Nat) (hj : j < n) :
    ∃ b o x ax nx cx ay ny cy, l[j]? = some x ∧ a = some ⟨b, o, none⟩ ∧ I b ∧ w.cell? ⟨b, o + j * 2, none⟩ = some (.slice ax nx cx) ∧ w.cell? ⟨b, o + j * 2 + 1, none⟩ = some (.slice ay ny cy) ∧ ListAt Shape.int I w ax nx x.1 ∧ ListAt Shape.int I w ay ny x.2 := by
  obtain ⟨x, hx⟩ : ∃ x, l[j]? = some x := ⟨_, List.getElem?_eq_getElem (by rw [h.1]; exact hj)⟩
  obtain ⟨b, o, es, e, hb, hr, hs⟩ := h.2 j x hx
  obtain ⟨ax, nx, cx, ay, ny, cy, rfl, ⟨-, -, h3⟩, ⟨-, -, h4⟩⟩ := shPair_reads.1 hs
  refine ⟨b, o, x, ax, nx, cx, ay, ny, cy, hx, e, hb, ?_, ?_, h3, h4⟩
  · have := hr 0 _ rfl
    simpa [shPair_size] using this
  · have := hr 1 _ rfl
    simpa [shPair_size] using this
theorem pipe_no {p : dPipe} {R : Bool} (hR : pipeOkB p = R) (h : ¬ PipeOkP p) : R = false := by
  rw [← hR, ← Bool.not_eq_true]
  exact fun hh => h ((pipeOk_iff p).1 hh)
theorem pipe_yes {p : dPipe} {R : Bool} (hR : pipeOkB p = R) (h : PipeOkP p) : R = true := by
  rw [← hR]
  exact (pipeOk_iff p).2 h
end Go.Proofs.YtcooobnaocbdjaaGreat

end

/-! YtcooobnaocbdjaaGreatPStgS -/
section

namespace Go.Proofs.YtcooobnaocbdjaaGreat
open Go.RowKit Go.Sort
set_option linter.unusedVariables false
set_option linter.unusedSimpArgs false

set_option maxRecDepth 100000 in
theorem specHand_c (w : World) (a : Option Addr) (n c : Nat) (xs : List Int) (N : Int) (h : IntsIn w.heap.size w a n xs) :
    Calls Tryz.prog 107 #[.slice a n c, .int .i64 N] w fun e w' => e = .returned (.bool (handB xs N)) ∧ w = w' := by
  have hroom := h.room
  have hl := h.len
  have HC := Lib.hid (specVecOk_any w a n c xs h)
  obtain ⟨p, hp⟩ : ∃ p, vecOkB xs = p := ⟨_, rfl⟩
  have hR : handB xs N = (decide (n = 0) || (p && decide ((n : Int) = N))) := by unfold handB; rw [hp, hl]
  rw [hR]
  rw [hp] at HC
  clear h hp hR hl
  by_cases h0 : n = 0
  · subst h0
    go_enter Tryz.func107, Tryz.ntmps107
    go_wp2_with fail
    go_ret
    exact ⟨rfl, rfl⟩
  · have g0 : ((n : Int) == 0) = false := beq_eq_false_iff_ne.2 (by omega)
    have g1 : decide (n = 0) = false := decide_eq_false h0
    have h0e : 0 < n := by omega
    rw [g1, Bool.false_or]
    cases p
    · rw [Bool.false_and]
      go_enter Tryz.func107, Tryz.ntmps107
      go_wp2_with fail
      refine HC.out.mono ?_
      rintro e w' ⟨rfl, rfl⟩
      go_wp2_with fail
      go_ret
      exact ⟨rfl, rfl⟩
    · rw [Bool.true_and]
      go_enter Tryz.func107, Tryz.ntmps107
      go_wp2_with fail
      refine HC.out.mono ?_
      rintro e w' ⟨rfl, rfl⟩
      go_wp2_with fail
      go_ret
      exact ⟨rfl, rfl⟩
theorem box14 {w : World} {g : Nat} {cs : Array Value} {T : TypeId} (h : w.heap[g]? = some (.cells cs T (0, 0))) (i : Nat) (v : Value) (hv : cs[i]? = some v) : w.cell? ⟨g, i, none⟩ = some v := by
  rw [cell_of_row _ _ _ _ _ _ h]
  exact hv
end Go.Proofs.YtcooobnaocbdjaaGreat

end
