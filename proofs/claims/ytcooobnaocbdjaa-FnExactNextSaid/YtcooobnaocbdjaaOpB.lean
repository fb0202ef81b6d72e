/-
  The model's OpBackward.
-/
import Derived.Test.YtcooobnaocbdjaaOpF
namespace Go.Proofs.Ytcooobnaocbdjaa
open Go.RowKit
set_option linter.unusedVariables false

/-- Two rows that share nothing. -/
def ApartV (v u : Value) : Prop := ∀ k, v.ownBlock = some k → u.ownBlock ≠ some k
/-- What a function that makes two rows and a mark leaves. -/
def RowsB (w : World) (zs gs : List Int) (o : Bool) (e : Ending) (w' : World) : Prop := ∃ v u, e = .returned (.tuple #[v, u, .bool o]) ∧ Row w.heap.size w' v zs ∧ Row w.heap.size w' u gs ∧ ApartV v u ∧ Below w.heap.size w w'
theorem apart_before {base b2 : Nat} {w w' : World} {v u : Value} {zs gs : List Int} (h : Row base w v zs) (h' : Row b2 w' u gs) (hb : w.heap.size ≤ b2) : ApartV v u := fun k hv hu => by
  have a := (h.lt k hv).2
  have b := (h'.lt k hu).1
  omega
theorem ApartV.ne {v u : Value} (h : ApartV v u) : u.ownBlock = none ∨ u.ownBlock ≠ v.ownBlock := by
  cases hv : v.ownBlock with
  | none =>
    cases hu : u.ownBlock with
    | none => exact .inl rfl
    | some k => exact .inr (by simp)
  | some k => exact .inr (h k hv)
theorem ApartV.ne' {v u : Value} (h : ApartV v u) : v.ownBlock = none ∨ v.ownBlock ≠ u.ownBlock := by
  cases hv : v.ownBlock with
  | none => exact .inl rfl
  | some k => exact .inr fun e => h k hv e.symm
theorem bwN_length (k i o : Int) (ps xs ds : List Int) : (bwN k i o ps xs ds).length ≤ 6 := by
  cases h : bwOk k i o ps xs ds with
  | false => rw [(bw_no h).1]; decide
  | true => exact (vecOkB_has (bw_size h).2.1).2.1
theorem bwG_length (k i o : Int) (ps xs ds : List Int) : (bwG k i o ps xs ds).length ≤ 36 := by
  cases h : bwOk k i o ps xs ds with
  | false => rw [(bw_no h).2.1]; decide
  | true =>
    have h1 := (bw_size h).2.2
    unfold opSz at h1
    split at h1
    · rename_i hh
      simp only [Bool.and_eq_true] at hh
      have hp := prod36 hh.1 hh.2
      have hi := inB_has hh.1
      split at h1
      · omega
      · split at h1
        · omega
        · split at h1 <;> omega
    · omega
theorem apart_after {base b2 : Nat} {w w' : World} {v u : Value} {zs gs : List Int} (h : Row base w v zs) (h' : Row b2 w' u gs) (hb : w.heap.size ≤ b2) : ApartV u v := fun k hu hv => by
  have a := (h.lt k hv).2
  have b := (h'.lt k hu).1
  omega
theorem owns_empty (w : World) : (w.alloc (.cells #[] 3 (0, 0))).ownsRow w.heap.size 3 1 (.slice (some ⟨w.heap.size, 0, none⟩) 0 0) 0 [] := Row.empty w _ rfl
theorem row_first {base : Nat} {w : World} {v : Value} {n : Nat} {ds : List Int} (h : w.ownsRow base 3 1 v (0 + n) ([] ++ icells ds)) : Row base w v ds := by
  have hl : ds.length = n := by
    have := h.1
    rw [List.nil_append, icells_length] at this
    omega
  unfold Row
  rw [hl]
  simpa using h
/-- One number, in a row of its own. -/
theorem Row.one (w : World) (x : Int) : Row w.heap.size (w.alloc (.cells #[.int .i64 x] 3 (0, 0))) (.slice (some ⟨w.heap.size, 0, none⟩) 1 1) [x] :=
  ⟨rfl, .inr ⟨_, 1, _, rfl, Nat.le_refl _, heap_alloc_new w _, Nat.le_refl _, by unfold maxLen; omega, rfl, rfl⟩⟩

theorem bwN_is {k i o : Int} {ps xs ds : List Int} (h : bwOk k i o ps xs ds = true) : bwN k i o ps xs ds = (if k = 1 then mbN o i ps ds else if k = 2 then ds else if k = 3 then rowP maskN xs ds else if k = 4 then scaleN (ps.getD 0 0) ds else rowP addN ds (mbN o i ps ds)) ∧
    bwG k i o ps xs ds = (if k = 1 ∨ k = 5 then outN ds xs else if k = 2 then ds else if k = 4 then [dotN ds xs] else []) ∧
    bwB k i o ps xs ds = (if k = 1 then mbB o i ps ds || outB ds xs else if k = 2 then false else if k = 3 then false else if k = 4 then scaleB (ps.getD 0 0) ds || dotB ds xs else mbB o i ps ds || outB ds xs || flagP addB ds (mbN o i ps ds)) := by
  unfold bwN bwG bwB
  rw [h]
  exact ⟨rfl, rfl, rfl⟩

end Go.Proofs.Ytcooobnaocbdjaa
