import Derived.Test.YtkmcfbopilieeaaJoin15
import Derived.RangeFuncNested
import Derived.RangeFuncBound
import Derived.RangeFuncCalls
import Derived.RangeFuncLeaves
import Derived.RangeFuncBox
import Derived.RangeFuncWrites
import Derived.Shelf.Abstract
import Derived.Sort.QuietIn
import Derived.WalkKit
import Derived.OwnWalkIn
import Derived.TacticsInMore
import Derived.LoopNIn
import Derived.LoopIn
/-! YtkmcfbopilieeaaMatP -/
section

namespace Go.Proofs.Ytkmcfbopilieeaa
set_option linter.unusedVariables false

theorem sizes_yes {r c mn mx : Int} (e1 : (if c < r then c else r) = mn) (e2 : (if r < c then c else r) = mx) (h1 : ¬ mn < 1) (h2 : ¬ 6 < mx) : inB 1 6 r = true ∧ inB 1 6 c = true := by
  subst e1
  subst e2
  constructor <;> refine inB_yes ?_ ?_ <;> split at h1 <;> split at h2 <;> omega
theorem sizes_no {r c mn mx : Int} (xs : List Int) (e1 : (if c < r then c else r) = mn) (e2 : (if r < c then c else r) = mx) (h : mn < 1 ∨ 6 < mx) : matOkB r c xs = false := by
  subst e1
  subst e2
  cases hr : inB 1 6 r with
  | false => exact matOkB_r hr
  | true =>
    cases hc : inB 1 6 c with
    | false => exact matOkB_c hc
    | true =>
      have a := inB_has hr
      have b := inB_has hc
      rcases h with h | h <;> split at h <;> omega
theorem all_of_rows {m q : Nat} {xs : List Int} (hq : 1 ≤ q) (hl : xs.length = m * q) (h : ∀ i, i < m → vecOkB (rowOf q xs i) = true) : xs.all okB = true := by
  refine all_of_get fun p hp => ?_
  rw [hl] at hp
  have g1 : p / q < m := Nat.div_lt_of_lt_mul (by rw [Nat.mul_comm]; exact hp)
  have g2 : p % q < q := Nat.mod_lt _ (by omega)
  have g3 : p / q * q + p % q = p := by rw [Nat.mul_comm]; exact Nat.div_add_mod p q
  obtain ⟨_, _, hk⟩ := vecOkB_has (h _ g1)
  have := hk (p % q) (by rw [rowOf_length hl g1]; exact g2)
  rw [rowOf_get _ _ _ _ g2, g3] at this
  exact this
theorem row_bad {m q : Nat} {xs : List Int} (h2 : 1 ≤ q ∧ q ≤ 6) (hl : xs.length = m * q) {i : Nat} (hi : i < m) (h : vecOkB (rowOf q xs i) = false) : xs.all okB = false := by
  cases ha : xs.all okB with
  | false => rfl
  | true =>
    rw [rowOf_ok h2 hl ha hi] at h
    cases h
theorem rowK_mapK (f : Int → Int → Int) (xs ys : List Int) (k : Nat) : rowK f xs ys k = mapK (fun j => f (xs.getD j 0) (ys.getD j 0)) k := by
  induction k with
  | zero => rfl
  | succ k ih => rw [rowK, mapK, ih]
theorem flagK_anyK (g : Int → Int → Bool) (xs ys : List Int) (k : Nat) : flagK g xs ys k = anyK (fun j => g (xs.getD j 0) (ys.getD j 0)) k := by
  induction k with
  | zero => rfl
  | succ k ih => rw [flagK, anyK, ih]
theorem scale_row {d : Int} {xs : List Int} (hd : okB d = true) (hx : vecOkB xs = true) : scaleN d xs = mapK (fun k => mulN d (xs.getD k 0)) xs.length ∧ scaleB d xs = anyK (fun k => mulB d (xs.getD k 0)) xs.length := by
  have hp : pairB xs xs = true := by rw [pairB_self]; exact hx
  unfold scaleN scaleB
  rw [hd, rowP_yes _ hp, flagP_yes _ hp, rowK_mapK, flagK_anyK]
  exact ⟨rfl, rfl⟩
/-- The rows that have come are the first k. -/
def CameK {m : Nat} (ys : List (Fin m)) (k : Nat) : Prop := ys.map (fun x => x.1) = List.range k
theorem CameK.snoc {m : Nat} {ys : List (Fin m)} {k : Nat} (h : CameK ys k) (hk : k < m) : CameK (ys ++ [⟨k, hk⟩]) (k + 1) := by
  unfold CameK at h ⊢
  rw [List.map_append, h, List.range_succ]
  rfl
theorem CameK.length {m : Nat} {ys : List (Fin m)} {k : Nat} (h : CameK ys k) : ys.length = k := by
  have := congrArg List.length h
  simpa using this
theorem CameK.mem {m : Nat} {ys : List (Fin m)} (h : CameK ys m) (x : Fin m) : x ∈ ys := by
  have hx : x.1 ∈ ys.map (fun x => x.1) := by
    rw [show ys.map (fun x => x.1) = List.range m from h]
    exact List.mem_range.2 x.2
  obtain ⟨y, hy, e⟩ := List.mem_map.1 hx
  rw [← Fin.ext e]
  exact hy
theorem mapK_range (f : Nat → Int) (k : Nat) : (List.range k).map f = mapK f k := by
  induction k with
  | zero => rfl
  | succ k ih => rw [List.range_succ, List.map_append, ih]; rfl
theorem anyK_range (g : Nat → Bool) (k : Nat) : (List.range k).any g = anyK g k := by
  induction k with
  | zero => rfl
  | succ k ih => rw [List.range_succ, List.any_append, ih]; simp [anyK]
theorem CameK.map {m : Nat} {ys : List (Fin m)} {k : Nat} (h : CameK ys k) (f : Nat → Int) : ys.map (fun x => f x.1) = mapK f k := by
  rw [← mapK_range, ← (show ys.map (fun x => x.1) = List.range k from h), List.map_map]
  rfl
theorem CameK.any {m : Nat} {ys : List (Fin m)} {k : Nat} (h : CameK ys k) (g : Nat → Bool) : ys.any (fun x => g x.1) = anyK g k := by
  rw [← anyK_range, ← (show ys.map (fun x => x.1) = List.range k from h), List.any_map]
  rfl
open Go.RowKit in
/-- Row i, where it lies. -/
theorem row_in {B : Nat} {w : World} {b o n : Nat} {xs : List Int} {m q : Nat} (h : IntsIn B w (some ⟨b, o, none⟩) n xs) (hn : n = m * q) {i : Nat} (hi : i < m) : IntsIn B w (some ⟨b, o + i * q, none⟩) q (rowOf q xs i) := by
  have hle : (i + 1) * q ≤ m * q := Nat.mul_le_mul_right q (by omega)
  have hr := h.room
  rw [Nat.succ_mul] at hle
  refine ⟨rowOf_length (r := m) (by rw [h.len, hn]) hi, by omega, fun k hk => ?_⟩
  obtain ⟨b', o', e, hb', hcell⟩ := h.cells (i * q + k) (by omega)
  cases e
  refine ⟨b, o + i * q, rfl, hb', ?_⟩
  rw [rowOf_get q xs i k hk, Nat.add_assoc]
  exact hcell
end Go.Proofs.Ytkmcfbopilieeaa

end

/-! YtkmcfbopilieeaaChunk -/
section

namespace Go.Proofs.Ytkmcfbopilieeaa
open Go.RowKit Go.Shelf
set_option linter.unusedVariables false
attribute [local go_sem] Oper.semAt_some

/-- What a round of a loop over a table's rows keeps: what lay below n₀, and the two cells that the iterator reads. -/
def KeepB (n₀ B1 B2 : Nat) (W W' : World) : Prop := Below n₀ W W' ∧ W'.heap[B1]? = W.heap[B1]? ∧ W'.heap[B2]? = W.heap[B2]?
theorem keepB_t {n₀ B1 B2 : Nat} {A B C : World} (h : KeepB n₀ B1 B2 A B) (k : KeepB n₀ B1 B2 B C) : KeepB n₀ B1 B2 A C := ⟨h.1.trans k.1, k.2.1.trans h.2.1, k.2.2.trans h.2.2⟩
theorem keepB_b {n₀ B1 B2 : Nat} {w : World} (hn : n₀ ≤ w.heap.size) (h1 : B1 < w.heap.size) (h2 : B2 < w.heap.size) (W : World) (l : Nat) (o o' : Obj) (hl : w.heap.size ≤ l) (h : W.heap[l]? = some o) (hc : o.isCells = false) (hw : o.isWalk = false) : KeepB n₀ B1 B2 W (W.putObj l o') :=
  ⟨belowK_b hn W l o o' hl h hc hw, World.putObj_heap_other (by omega), World.putObj_heap_other (by omega)⟩

/-- The rows, as the iterator hands them over. -/
def rowEnc (b o q : Nat) (m : Nat) (x : Fin m) : Array Value := #[.slice (some ⟨b, o + x.1 * q, none⟩) q q]
theorem marks_ret {F : Fence} {n : Nat} {P : Program} {fn : Func} {R : Ending → World → Prop} {a : Act} {w : World} {v : Value} (hd : a.defers = []) (hr : (results fn a.tmps).run P w = .ok v w) (hR : R (.returned v) w) : bodyPostM F n P fn R .ret a w := by
  show LeavesInM F n P fn a.tmps R a.defers .returning w
  rw [hd]
  exact ⟨v, hr, hR⟩
theorem marks_ret1 {F : Fence} {n : Nat} {P : Program} {fn : Func} {R : Ending → World → Prop} {a : Act} {w : World} {v : Value} {D : Nat} (hd : a.defers = [{ target := .collected D, args := #[] }]) (hK : w.heap[D]? = some (.deferred (some [])))
    (hr : (results fn a.tmps).run P (w.putObj D (.deferred none)) = .ok v (w.putObj D (.deferred none))) (hR : R (.returned v) (w.putObj D (.deferred none))) : bodyPostM F n P fn R .ret a w := by
  show LeavesInM F n P fn a.tmps R a.defers .returning w
  rw [hd]
  exact ⟨by simp, .inl ⟨D, _, rfl, run_takeDeferred hK, v, hr, hR⟩⟩
theorem boxed_put {W : World} {B D : Nat} {t : TypeId} {v : Value} (h : Boxed W B t v) (hne : B ≠ D) (o : Obj) : Boxed (W.putObj D o) B t v := (World.putObj_heap_other hne).trans h
theorem below_put {n₀ D : Nat} {W0 W : World} {o : Obj} (h : Below n₀ W0 W) (hD : n₀ ≤ D) (hK : W.heap[D]? = some o) (o' : Obj) : Below n₀ W0 (W.putObj D o') :=
  h.grown (grownBy_putObj' W D o') (by have := (Array.getElem?_eq_some_iff.1 hK).1; omega) (fun k e => by cases e; exact hD)
theorem results_bool {P : Program} {fn : Func} {p : Tmp} {ty : TypeId} (h : fn.results = #[.cell p ty]) (tmps : Array Value) (w : World) (g : Nat) (t : TypeId) (x : Bool) (hp : tmps.getD p undef = .pointer (some ⟨g, 0, none⟩)) (hb : Boxed w g t (.bool x)) (hu : P.underlying ty = some .bool) :
    (results fn tmps).run P w = .ok (.bool x) w := by
  have hp' : tmps[p]?.getD undef = .pointer (some ⟨g, 0, none⟩) := by simpa using hp
  have hc := hb.cell
  simp [results, h, hp', asAddr, loadVar, isAgg, run_underlying hu, hc, go_sem]
end Go.Proofs.Ytkmcfbopilieeaa

end
