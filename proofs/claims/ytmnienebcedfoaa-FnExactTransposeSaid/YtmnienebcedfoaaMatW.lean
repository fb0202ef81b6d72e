/-
  The model's Outer, Transpose, SameMat.
-/
import Derived.Test.YtmnienebcedfoaaMatS
import Derived.Laws.ResultCell
import Derived.Test.YtmnienebcedfoaaVecS
namespace Go.Proofs.Ytmnienebcedfoaa
open Go.RowKit
set_option linter.unusedVariables false

/-- What a function that makes a table (and a mark) leaves. -/
def MatB (w : World) (r c : Int) (zs : List Int) (o : Bool) (e : Ending) (w' : World) : Prop := ∃ v, e = .returned (.tuple #[.agg #[.int .i64 r, .int .i64 c, v], .bool o]) ∧ Row w.heap.size w' v zs ∧ Below w.heap.size w w'
def MatV (w : World) (r c : Int) (zs : List Int) (e : Ending) (w' : World) : Prop := ∃ v, e = .returned (.agg #[.int .i64 r, .int .i64 c, v]) ∧ Row w.heap.size w' v zs ∧ Below w.heap.size w w'
def sameMatB (r c : Int) (xs : List Int) (r' c' : Int) (ys : List Int) : Bool := decide (r = r') && (decide (c = c') && decide (xs = ys))

theorem own_form {w : World} {base : Nat} {e : TypeId} {v : Value} {n : Nat} {xs : List Value} (h : w.ownsRow base e 1 v n xs) : ∃ a c, v = .slice a n c := by
  rcases h.2 with ⟨rfl, rfl⟩ | ⟨g, cap, cur, rfl, _⟩
  · exact ⟨_, _, rfl⟩
  · exact ⟨_, _, rfl⟩
theorem results_row_tmp {P : Program} {fn : Func} {p u : Tmp} {ty : TypeId} (h : fn.results = #[.cell p ty, .tmp u]) (tmps : Array Value) (w : World) (g : Nat) (t : TypeId) (cs : Array Value) (fr : Nat × Nat) (d : TypeDesc)
    (hp : tmps.getD p undef = .pointer (some ⟨g, 0, none⟩)) (hg : w.heap[g]? = some (.cells cs t fr))
    (hu : P.underlying ty = some d) (hd : (match d with | .struct _ | .array _ _ => true | _ => false) = true) (hi : (P.info? ty).map (·.size) = some cs.size) :
    (results fn tmps).run P w = .ok (.tuple #[.agg cs, tmps.getD u undef]) w := by
  rw [results_cell_tmp h, hp]
  simp [asAddr, run_loadVar_row w g t ty cs fr d hg hu hd hi, Result.andThen]

set_option maxRecDepth 100000 in
theorem specSameMat_any (w : World) (r c : Int) (a1 : Option Addr) (n1 c1 : Nat) (xs : List Int) (r' c' : Int) (a2 : Option Addr) (n2 c2 : Nat) (ys : List Int) (h1 : IntsIn w.heap.size w a1 n1 xs) (h2 : IntsIn w.heap.size w a2 n2 ys) :
    Calls Try.prog 15 #[.agg #[.int .i64 r, .int .i64 c, .slice a1 n1 c1], .agg #[.int .i64 r', .int .i64 c', .slice a2 n2 c2]] w fun e w' => e = .returned (.bool (sameMatB r c xs r' c' ys)) ∧ Below w.heap.size w w' := by
  have hal : Below w.heap.size w ((w.alloc (.cells #[.int .i64 r, .int .i64 c, .slice a1 n1 c1] 27 (0, 0))).alloc (.cells #[.int .i64 r', .int .i64 c', .slice a2 n2 c2] 27 (0, 0))) := ((Below.refl _ _).alloc (Nat.le_refl _) _).alloc (by simp) _
  have HS := Lib.hid (specSameVec_any _ a1 n1 c1 xs a2 n2 c2 ys ((h1.below hal (Nat.le_refl _)).le hal.size) ((h2.below hal (Nat.le_refl _)).le hal.size))
  have HA := Lib.hid hal
  clear h1 h2 hal
  unfold sameMatB
  by_cases hr : r = r'
  · subst hr
    by_cases hc : c = c'
    · subst hc
      rw [decide_eq_true rfl, decide_eq_true rfl]
      go_enter Try.func15, Try.ntmps15
      go_wp2_with fail
      refine HS.out.mono ?_
      rintro e w1 ⟨rfl, hb⟩
      have HB := Lib.hid (HA.out.trans (hb.mono HA.out.size))
      clear hb
      go_wp2_with fail
      go_ret
      exact ⟨by simp, HB.out⟩
    · rw [decide_eq_true rfl, decide_eq_false hc]
      have hne : (c == c') = false := by simpa using hc
      go_enter Try.func15, Try.ntmps15
      go_wp2_with fail
      go_ret
      exact ⟨by simp, HA.out⟩
  · rw [decide_eq_false hr]
    have hne : (r == r') = false := by simpa using hr
    go_enter Try.func15, Try.ntmps15
    go_wp2_with fail
    go_ret
    exact ⟨by simp, HA.out⟩

end Go.Proofs.Ytmnienebcedfoaa
