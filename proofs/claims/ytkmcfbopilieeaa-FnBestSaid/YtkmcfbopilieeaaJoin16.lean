import Derived.Test.YtkmcfbopilieeaaJoin15
import Derived.Laws.ResultCell
import Derived.Test.YtkmcfbopilieeaaJoin12
import Derived.Test.YtkmcfbopilieeaaJoin13
import Derived.Deep.RegionLaw
import Derived.Deep.DeepCutAuto
/-! YtkmcfbopilieeaaMatW -/
section

namespace Go.Proofs.Ytkmcfbopilieeaa
open Go.RowKit
set_option linter.unusedVariables false

/-- What a function that makes a table (and a mark) leaves. -/
def MatB (w : World) (r c : Int) (zs : List Int) (o : Bool) (e : Ending) (w' : World) : Prop := ∃ v, e = .returned (.tuple #[.agg #[.int .i64 r, .int .i64 c, v], .bool o]) ∧ Row w.heap.size w' v zs ∧ Below w.heap.size w w'
def MatV (w : World) (r c : Int) (zs : List Int) (e : Ending) (w' : World) : Prop := ∃ v, e = .returned (.agg #[.int .i64 r, .int .i64 c, v]) ∧ Row w.heap.size w' v zs ∧ Below w.heap.size w w'
def sameMatB (r c : Int) (xs : List Int) (r' c' : Int) (ys : List Int) : Bool := decide (r = r') && (decide (c = c') && decide (xs = ys))

theorem own_form {w : World} {base : Nat} {e : TypeId} {v : Value} {n : Nat} {xs : List Value} (h : w.ownsRow base e 1 v n xs) : ∃ a c, v = .slice a n c := by
  rcases h.2 with ⟨rfl, rfl⟩ | ⟨g, cap, cur, rfl, _⟩
  · exact ⟨_, _, rfl⟩
  · exact ⟨_, _, rfl⟩
theorem results_row_tmp {P : Program} {fn : Func} {p u : Tmp} {ty : TypeId} (h : fn.results = #[.cell p ty, .tmp u]) (tmps : Array Value) (w : World) (g : Nat) (t : TypeId) (cs : Array Value) (fr : Nat × Nat) (d : TypeDesc)
    (hp : tmps.getD p undef = .pointer (some ⟨g, 0, none⟩)) (hg : w.heap[g]? = some (.cells cs t fr))
    (hu : P.underlying ty = some d) (hd : (match d with | .struct _ | .array _ _ => true | _ => false) = true) (hi : (P.info? ty).map (·.size) = some cs.size) :
    (results fn tmps).run P w = .ok (.tuple #[.agg cs, tmps.getD u undef]) w := by
  rw [results_cell_tmp h, hp]
  simp [asAddr, run_loadVar_row w g t ty cs fr d hg hu hd hi, Result.andThen]

end Go.Proofs.Ytkmcfbopilieeaa

end

/-! YtkmcfbopilieeaaDrawMat -/
section

namespace Go.Proofs.Ytkmcfbopilieeaa
open Go.RowKit
set_option linter.unusedVariables false

/-- A table was drawn. -/
def DrewM (B : Nat) (w : World) (C : Nat) (e : Ending) (w' : World) : Prop := ∃ r c v xs, e = .returned (.agg #[.int .i64 r, .int .i64 c, v]) ∧ xs.length ≤ 9 ∧ Row w.heap.size w' v xs ∧ Turned B w w' C
theorem grownBy_setCell (w : World) (a : Addr) (u : Value) : w.grownBy (w.setCell a u) (some a.block) :=
  ⟨rfl, rfl, rfl, by simp [World.setCell], fun k _ hk => heap_setCell_other w a k u (fun e => hk (by rw [e]))⟩
theorem Turned.setCell {B : Nat} {w w1 : World} {C : Nat} (h : Turned B w w1 C) (hC : C < w.heap.size) (a : Addr) (u : Value) (ha : w.heap.size ≤ a.block) : Turned B w (w1.setCell a u) C :=
  h.store hC (grownBy_setCell w1 a u) ha
theorem Turned.block {B : Nat} {w w1 : World} {C : Nat} (h : Turned B w w1 C) {k : Nat} (hk : k < w.heap.size) (hne : k ≠ C) : w1.heap[k]? = w.heap[k]? := h.2.block k hk (fun e => hne (Option.some.inj e))

theorem l3Vec_i (B : Nat) (w : World) (C : Nat) (n : Int) (h0 : 0 ≤ n) (h1 : n ≤ 6) (hc : Cu B w C) :
    Calls Try.prog 84 #[.pointer (some ⟨C, 0, none⟩), .int .i64 n] w (DrewV (fun xs => (xs.length : Int) ≤ 6) B w C) := by
  obtain ⟨m, rfl⟩ : ∃ m : Nat, n = m := ⟨n.toNat, by omega⟩
  exact (l3Vec_e B w C m (by omega) hc).mono fun e w' ⟨v, xs, he, hl, hr, ht⟩ => ⟨v, xs, he, by show (xs.length : Int) ≤ 6; omega, hr, ht⟩
/-- A table and a row were drawn. -/
def DrewMB (w : World) (e : Ending) (w' : World) : Prop := ∃ r c v xs u ys, e = .returned (.tuple #[.agg #[.int .i64 r, .int .i64 c, v], u]) ∧ (xs.length ≤ 9 ∧ ys.length ≤ 7) ∧ Row w.heap.size w' v xs ∧ Row w.heap.size w' u ys ∧ Below w.heap.size w w'
end Go.Proofs.Ytkmcfbopilieeaa

end
