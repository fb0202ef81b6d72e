/-
  The program's functions on rows of numbers.
-/
import Derived.Test.YtdmkbmpgcpggdabThrough
namespace Go.Proofs.Ytdmkbmpgcpggdab
open Go.RowKit
set_option linter.unusedVariables false

theorem eg_mask : ∀ args w, (callFunc 22 args).run Try.prog w = .ok (.enter 22 args) w := enters_of Try.func22 (by kernel_rfl) rfl

theorem maskStep_any (x y : Int) (w : World) :
    Calls Try.prog 22 #[.int .i64 x, .int .i64 y] w fun e w' => e = .returned (.tuple #[.int .i64 (maskN x y), .bool false]) ∧ Below w.heap.size w w' := by
  by_cases h : 0 < x
  · rw [maskN_yes y h]
    have ht : decide (x > 0) = true := decide_eq_true h
    go_enter Try.func22, Try.ntmps22
    go_wp2_with fail
    go_ret2
    exact ⟨rfl, Below.refl _ _⟩
  · rw [maskN_no y h]
    have ht : decide (x > 0) = false := decide_eq_false h
    go_enter Try.func22, Try.ntmps22
    go_wp2_with fail
    go_ret2
    exact ⟨rfl, Below.refl _ _⟩
/-- What a function that makes a row and a mark leaves. -/
def RowB (w : World) (zs : List Int) (o : Bool) (e : Ending) (w' : World) : Prop := ∃ v, e = .returned (.tuple #[v, .bool o]) ∧ Row w.heap.size w' v zs ∧ Below w.heap.size w w'
/-- What a function that makes a row leaves. -/
def RowV (w : World) (zs : List Int) (e : Ending) (w' : World) : Prop := ∃ v, e = .returned v ∧ Row w.heap.size w' v zs ∧ Below w.heap.size w w'
/-- What a function that makes a number and a mark leaves. -/
def NumB (w : World) (x : Int) (o : Bool) (e : Ending) (w' : World) : Prop := e = .returned (.tuple #[.int .i64 x, .bool o]) ∧ Below w.heap.size w w'

set_option maxRecDepth 100000 in
theorem implVecMask_any (w : World) (a1 : Option Addr) (n1 c1 : Nat) (xs : List Int) (a2 : Option Addr) (n2 c2 : Nat) (ys : List Int) (h1 : IntsIn w.heap.size w a1 n1 xs) (h2 : IntsIn w.heap.size w a2 n2 ys) :
    Calls Try.prog 11 #[.slice a1 n1 c1, .slice a2 n2 c2] w (RowV w (rowP maskN xs ys)) := by
  have H := Lib.hid (oneByOne_any w a1 n1 c1 xs a2 n2 c2 ys 22 #[] maskN (fun _ _ => false) eg_mask (fun wr x y hb => by rw [Array.append_empty]; exact maskStep_any x y wr) h1 h2)
  clear h1 h2
  go_enter Try.func11, Try.ntmps11
  go_wp2_with fail
  refine H.out.mono ?_
  rintro e w1 ⟨v, rfl, hr, hb⟩
  go_wp2_with fail
  go_ret
  exact ⟨_, rfl, hr, hb⟩
set_option maxRecDepth 100000 in
theorem implSameVec_any (w : World) (a1 : Option Addr) (n1 c1 : Nat) (xs : List Int) (a2 : Option Addr) (n2 c2 : Nat) (ys : List Int) (h1 : IntsIn w.heap.size w a1 n1 xs) (h2 : IntsIn w.heap.size w a2 n2 ys) :
    Calls Try.prog 15 #[.slice a1 n1 c1, .slice a2 n2 c2] w fun e w' => e = .returned (.bool (decide (xs = ys))) ∧ Below w.heap.size w w' := by
  have H := Lib.hid (slicesEqual_any w a1 n1 c1 xs a2 n2 c2 ys h1 h2)
  clear h1 h2
  go_enter Try.func15, Try.ntmps15
  go_wp2_with fail
  refine H.out.mono ?_
  rintro e w1 ⟨rfl, hb⟩
  go_wp2_with fail
  go_ret
  exact ⟨rfl, hb⟩
end Go.Proofs.Ytdmkbmpgcpggdab
