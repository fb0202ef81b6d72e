/-
  A loop over an iterator that keeps a row of its own between two rounds and hands over a fresh row in each: the iterator's contract, and the caller's law.
-/
import Derived.RangeFuncNested
import Derived.RangeFuncBound
import Derived.RangeFuncCalls
import Derived.RangeFuncLeaves
import Derived.RangeFuncBox
import Derived.RangeFuncWrites
import Derived.Test.YtkmcfbopilieeaaRow
namespace Go.Proofs.Ytkmcfbopilieeaa
open Go.RowKit
set_option linter.unusedVariables false

/-- The iterator gives N rows, the p-th one R p, each in memory that is new in its round; it writes one block of its own (b0), which a round leaves alone. -/
def RowsGiven (F : Fence) (n : Nat) (P : Program) (gf : Nat) (lb : Array Value) (Kp : World → World → Prop) (R : Nat → List Int) (N : Nat) (w : World) (b0 : Nat) : Prop :=
  ∀ (l : Nat) (J : List Value → World → Prop) (W : World), Below w.heap.size w W → W.heap.size = b0 →
    (∀ pre A B, J pre A → A.grownBy B (some b0) → J pre B) →
    (∀ pre v W0 W1, J pre W0 → b0 < W0.heap.size → Below W0.heap.size W0 W1 → Row W0.heap.size W1 v (R pre.length) → pre.length < N → YieldAt F (n - 1) P l #[v] W1 fun e W' =>
      e = .returned (.bool true) ∧ J (pre ++ [v]) W' ∧ Kp W1 W' ∧ W'.heap[b0]? = W1.heap[b0]? ∧ W1.heap.size ≤ W'.heap.size) →
    J [] W →
    CallsIn F n P gf (#[.func (.yield l) #[] #[]] ++ lb) W fun e W' => (∃ v, e = .returned v) ∧ ∃ xs : List Value, xs.length = N ∧ J xs W'

/-- How a round's body is left: only off its end. -/
def rowsPost (B : Nat) (Kp : World → World → Prop) (I : List Value → World → Prop) (xs : List Value) (W : World) : Exit → Act → World → Prop
  | .normal, _, W' => KeepsFrom B W W' ∧ W'.heap[B + 2]? = W.heap[B + 2]? ∧ Kp W W' ∧ I xs W'
  | _, _, _ => False

theorem below_putTwo {W0 W1 : World} (h : Below W0.heap.size W0 W1) (l : Nat) (o : Obj) (hl : l < W0.heap.size) : Below (W0.putObj l o).heap.size (W0.putObj l o) (W1.putObj l o) := by
  refine ⟨h.os, h.tape, h.output, by simpa using h.size, fun b hb => ?_⟩
  have hb' : b < W0.heap.size := by simpa using hb
  by_cases e : b = l
  · subst e
    rw [World.putObj_heap_same (Nat.lt_of_lt_of_le hl h.size), World.putObj_heap_same hl]
  · rw [World.putObj_heap_other e, World.putObj_heap_other e]
    exact h.block b hb'

theorem wpIn_rowsIter {F : Fence} {n : Nat} {P : Program} {g : Operand} {ps : Array Tmp} {assign body : Code} {Q : Exit → Act → World → Prop} {a : Act} {w : World}
    (hro : F.round = none) (h1 : 1 ≤ n) {gf : Nat} {lb : Array Value} (hg : a.eval g = .func (.func gf) #[] lb) (hFg : F.fn gf) (eg : ∀ args w, (callFunc gf args).run P w = .ok (.enter gf args) w)
    {Kp : World → World → Prop} {R : Nat → List Int} {N : Nat} {w0 : World} (hseq : RowsGiven F (n - 1) P gf lb Kp R N w0 (w.heap.size + 2))
    (hKt : ∀ {A B C : World}, Kp A B → Kp B C → Kp A C) (hKb : ∀ (W : World) (l : Nat) (o o' : Obj), w.heap.size ≤ l → W.heap[l]? = some o → o.isCells = false → o.isWalk = false → Kp W (W.putObj l o')) (hb0 : Below w0.heap.size w0 w) (hps : ps.size = 1)
    (I : List Value → World → Prop) (hI : ∀ pre A B row, I pre A → A.grownBy B row → (∀ r, row = some r → w.heap.size ≤ r ∧ r < w.heap.size + 3) → I pre B) (h0 : I [] w) (a₁ : Value → Act)
    (hassign : ∀ (l : Nat) (x : Value) (W : World) (K : Act → World → Prop), K (a₁ x) W →
      assign.wpIn (F.inRound l) (n - 1 - 1) P (Exit.then K (fun _ _ _ => False)) { tmps := (ps.zip #[x]).foldl (fun t (p, v) => t.setIfInBounds p v) a.tmps, defers := [] } W)
    (hbody : ∀ (l : Nat) (pre : List Value) (v : Value) (W0 W1 : World), I pre W0 → w.heap.size + 3 ≤ W0.heap.size → Below W0.heap.size W0 W1 → Row W0.heap.size W1 v (R pre.length) → pre.length < N → body.wpIn (F.inRound l) (n - 1 - 1) P (rowsPost w.heap.size Kp I (pre ++ [v]) W1) (a₁ v) W1)
    (hdone : ∀ (xs : List Value) (W : World), xs.length = N → I xs W → W.heap[w.heap.size]? = some (.deferred (some [])) → Q .normal { a with defers := { target := .collected w.heap.size, args := #[] } :: a.defers } W) :
    (Code.rangeFunc g ps assign body).wpIn F n P Q a w := by
  refine wpIn_rangeFunc fun fn hfn => ?_
  rw [hro]
  obtain ⟨rec, hrec⟩ : ∃ rec : LoopState → Option Code → Loop, rec = fun st pe => { state := st, pending := pe, fn, tmps := a.tmps, params := ps, assign, body, defers := w.heap.size } := ⟨_, rfl⟩
  obtain ⟨W1, hW1⟩ : ∃ W1, (w.alloc (.deferred (some []))).alloc (.loop (rec .ready none)) = W1 := ⟨_, rfl⟩
  have hs1 : W1.heap.size = w.heap.size + 2 := by rw [← hW1]; simp
  have hL1 : W1.heap[w.heap.size + 1]? = some (.loop (rec .ready none)) := by
    have := World.alloc_heap_new (w.alloc (.deferred (some []))) (.loop (rec .ready none))
    rw [World.size_alloc] at this
    rw [← hW1]
    exact this
  have hK1 : W1.heap[w.heap.size]? = some (.deferred (some [])) := by
    rw [← hW1]
    exact (Below.heap_alloc _ _ _ (by simp)).trans (World.alloc_heap_new w _)
  have hgr : w.grownBy W1 none := by
    rw [← hW1]
    exact grownBy_trans' (World.grownBy_alloc w _ none) (World.grownBy_alloc _ _ none)
  have hI1 : I [] W1 := hI _ _ _ none h0 hgr fun r e => by cases e
  have hb1 : Below w0.heap.size w0 W1 := by
    rw [← hW1]
    exact hb0.trans ((((Below.refl _ w).alloc (Nat.le_refl _) _).alloc (by simp) _).mono hb0.size)
  refine ⟨w.heap.size + 1, [{ target := .collected w.heap.size, args := #[] }], W1, { target := .fn (.func gf) lb, args := #[.func (.yield (w.heap.size + 1)) #[] #[]] }, W1, gf,
    #[.func (.yield (w.heap.size + 1)) #[] #[]] ++ lb, W1, ?_, ?_, ?_, ?_, fun _ => h1, ?_⟩
  · rw [← hW1, hrec]
    exact run_enterLoop_outer _ _ _ _ _
  · simp only [resolve, hg]
    simp [go_sem]
  · intro f' hf'
    simp [Target.leads] at hf'
    subst hf'
    exact hFg
  · simp [invoke, go_sem, eg]
  · have hput : ∀ (pre : List Value) (A : World) (k : Nat) (o : Obj), w.heap.size ≤ k → k < w.heap.size + 3 → I pre A → I pre (A.putObj k o) := fun pre A k o h2 h3 hi =>
      hI _ _ _ (some k) hi (grownBy_putObj' A k o) fun r e => by cases e; exact ⟨h2, h3⟩
    refine (hseq (w.heap.size + 1) (fun pre W => I pre W ∧ W.heap[w.heap.size + 1]? = some (.loop (rec .ready none)) ∧ W.heap[w.heap.size]? = some (.deferred (some []))) W1 hb1 hs1
      (fun pre A B hs hg' => ⟨hI _ _ _ _ hs.1 hg' fun r e => by cases e; omega,
        (hg'.block _ (Array.getElem?_eq_some_iff.1 hs.2.1).1 (fun e => by have := Option.some.inj e; omega)).trans hs.2.1, (hg'.block _ (Array.getElem?_eq_some_iff.1 hs.2.2).1 (fun e => by have := Option.some.inj e; omega)).trans hs.2.2⟩)
      ?_ ⟨hI1, hL1, hK1⟩).mono ?_
    · rintro pre v U0 U1 ⟨hi, hl, hk⟩ hb0' hB hrow hlen
      have hlt : w.heap.size + 1 < U0.heap.size := (Array.getElem?_eq_some_iff.1 hl).1
      have hl1 : U1.heap[w.heap.size + 1]? = some (.loop (rec .ready none)) := (hB.block _ hlt).trans hl
      have hk1 : U1.heap[w.heap.size]? = some (.deferred (some [])) := (hB.block _ (by omega)).trans hk
      have hlt1 := Nat.lt_of_lt_of_le hlt hB.size
      have hy := run_yield (P := P) (args := #[v]) hl1 (by rw [hrec]; exact hps.symm)
      rw [hrec] at hy
      refine ⟨fn, _, assign, body, hy, roundIn_of_wpIn hfn (hassign _ v U1 _ ⟨_, run_beginRound hl1 (by rw [hrec]), ?_⟩)⟩
      obtain ⟨ob, hob⟩ : ∃ ob : Obj, .loop { rec .ready none with state := .busy } = ob := ⟨_, rfl⟩
      have hl2 : (U1.putObj (w.heap.size + 1) ob).heap[w.heap.size + 1]? = some (.loop { rec .ready none with state := .busy }) := by rw [← hob]; exact World.putObj_heap_same hlt1
      have hk2 : (U1.putObj (w.heap.size + 1) ob).heap[w.heap.size]? = some (.deferred (some [])) := (World.putObj_heap_other (by omega)).trans hk1
      have hw2 : Kp U1 (U1.putObj (w.heap.size + 1) ob) := hKb _ _ _ _ (by omega) hl1 rfl rfl
      have hq2 : (U1.putObj (w.heap.size + 1) ob).heap[w.heap.size + 2]? = U1.heap[w.heap.size + 2]? := World.putObj_heap_other (by omega)
      have hrow2 : Row U0.heap.size (U1.putObj (w.heap.size + 1) ob) v (R pre.length) := hrow.kept (grownBy_putObj' _ _ _) (by
        cases hv : v.ownBlock with
        | none => exact .inl rfl
        | some k => exact .inr fun e => by cases e; have := (hrow.lt _ hv).1; omega)
      have hb := hbody (w.heap.size + 1) pre v (U0.putObj (w.heap.size + 1) ob) (U1.putObj (w.heap.size + 1) ob) (hput pre U0 _ ob (by omega) (by omega) hi) (by simp; omega) (below_putTwo hB _ ob hlt) (by simpa using hrow2) hlen
      rw [hob]
      refine wpIn_mono hb ?_
      rintro e a3 U3 hp
      cases e with
      | normal =>
        obtain ⟨hk3, hq3, hkp3, hi3⟩ := hp
        have hl3 := hk3.same _ _ (by omega) hl2 rfl
        have hk4 := hk3.same _ _ (Nat.le_refl _) hk2 rfl
        have hlt3 := (Array.getElem?_eq_some_iff.1 hl3).1
        have hr := run_endRound (P := P) none hl3
        refine ⟨_, _, hr, rfl, ⟨hput _ _ _ _ (by omega) (by omega) hi3, ?_, (World.putObj_heap_other (by omega)).trans hk4⟩, hKt (hKt hw2 hkp3) (hKb _ _ _ _ (by omega) hl3 rfl rfl), ?_, ?_⟩
        · rw [World.putObj_heap_same hlt3, hrec]
          rfl
        · exact (World.putObj_heap_other (by omega)).trans (hq3.trans hq2)
        · have := hk3.size
          simpa using this
      | ret => exact hp.elim
      | exit id => exact hp.elim
      | goto t => exact hp.elim
      | panic ch => exact hp.elim
      | outgrown => exact hp.elim
    · rintro e U2 ⟨⟨v, rfl⟩, xs, hx, hi, hl, hk⟩
      have hr := run_endLoop (P := P) hl (by rw [hrec]; simp)
      refine ⟨none, _, by rw [hrec] at hr; exact hr, hdone xs _ hx (hput _ _ _ _ (by omega) (by omega) hi) ((World.putObj_heap_other (by omega)).trans hk)⟩
end Go.Proofs.Ytkmcfbopilieeaa
