/-
  Pipes: the model's SamePipe: stages that a number, a mark or a length parts (mksamt1.py).
-/
import Derived.Test.YtcooobnaocbdjaaJoin28
namespace Go.Proofs.Ytcooobnaocbdjaa
open Go.RowKit Go.Sort
set_option linter.unusedVariables false
set_option linter.unusedSimpArgs false

set_option maxRecDepth 100000 in
set_option maxHeartbeats 6400000 in
theorem sameStage_last_false (w : World) (q0 : Int) (q4 : Bool) (q12 : Int) (q13 : Bool) (r4 : Bool) (r12 : Int) (r13 : Bool) (j0 : Option Addr) (nj0 cj0 : Nat) (b0 : Option Addr) (nb0 cb0 : Nat) (j1 : Option Addr) (nj1 cj1 : Nat) (b1 : Option Addr) (nb1 cb1 : Nat) (j2 : Option Addr) (nj2 cj2 : Nat) (b2 : Option Addr) (nb2 cb2 : Nat) (j3 : Option Addr) (nj3 cj3 : Nat) (b3 : Option Addr) (nb3 cb3 : Nat) (j4 : Option Addr) (nj4 cj4 : Nat) (b4 : Option Addr) (nb4 cb4 : Nat) (j5 : Option Addr) (nj5 cj5 : Nat) (b5 : Option Addr) (nb5 cb5 : Nat) (j6 : Option Addr) (nj6 cj6 : Nat) (b6 : Option Addr) (nb6 cb6 : Nat) (j7 : Option Addr) (nj7 cj7 : Nat) (b7 : Option Addr) (nb7 cb7 : Nat) (j8 : Option Addr) (nj8 cj8 : Nat) (b8 : Option Addr) (nb8 cb8 : Nat) :
    Calls Try.prog 48 #[.agg #[.int .i64 q0, .slice j0 nj0 cj0, .slice j1 nj1 cj1, .bool false, .bool q4, .slice j2 nj2 cj2, .slice j3 nj3 cj3, .slice j4 nj4 cj4, .slice j5 nj5 cj5, .slice j6 nj6 cj6, .slice j7 nj7 cj7, .slice j8 nj8 cj8, .int .i64 q12, .bool q13], .agg #[.int .i64 q0, .slice b0 nb0 cb0, .slice b1 nb1 cb1, .bool true, .bool r4, .slice b2 nb2 cb2, .slice b3 nb3 cb3, .slice b4 nb4 cb4, .slice b5 nb5 cb5, .slice b6 nb6 cb6, .slice b7 nb7 cb7, .slice b8 nb8 cb8, .int .i64 r12, .bool r13]] w fun e w' => e = .returned (.bool false) ∧ Below w.heap.size w w' := by
  have HA := Lib.hid (((Below.refl w.heap.size w).alloc (Nat.le_refl _) (.cells #[.int .i64 q0, .slice j0 nj0 cj0, .slice j1 nj1 cj1, .bool false, .bool q4, .slice j2 nj2 cj2, .slice j3 nj3 cj3, .slice j4 nj4 cj4, .slice j5 nj5 cj5, .slice j6 nj6 cj6, .slice j7 nj7 cj7, .slice j8 nj8 cj8, .int .i64 q12, .bool q13] 60 (0, 0))).alloc (by simp) (.cells #[.int .i64 q0, .slice b0 nb0 cb0, .slice b1 nb1 cb1, .bool true, .bool r4, .slice b2 nb2 cb2, .slice b3 nb3 cb3, .slice b4 nb4 cb4, .slice b5 nb5 cb5, .slice b6 nb6 cb6, .slice b7 nb7 cb7, .slice b8 nb8 cb8, .int .i64 r12, .bool r13] 60 (0, 0)))
  go_enter Try.func48, Try.ntmps48
  go_wp2_with fail
  go_ret
  exact ⟨rfl, HA.out⟩
set_option maxRecDepth 100000 in
set_option maxHeartbeats 6400000 in
theorem sameStage_redo_true (w : World) (q0 : Int) (q3 : Bool) (q12 : Int) (q13 : Bool) (r12 : Int) (r13 : Bool) (j0 : Option Addr) (nj0 cj0 : Nat) (b0 : Option Addr) (nb0 cb0 : Nat) (j1 : Option Addr) (nj1 cj1 : Nat) (b1 : Option Addr) (nb1 cb1 : Nat) (j2 : Option Addr) (nj2 cj2 : Nat) (b2 : Option Addr) (nb2 cb2 : Nat) (j3 : Option Addr) (nj3 cj3 : Nat) (b3 : Option Addr) (nb3 cb3 : Nat) (j4 : Option Addr) (nj4 cj4 : Nat) (b4 : Option Addr) (nb4 cb4 : Nat) (j5 : Option Addr) (nj5 cj5 : Nat) (b5 : Option Addr) (nb5 cb5 : Nat) (j6 : Option Addr) (nj6 cj6 : Nat) (b6 : Option Addr) (nb6 cb6 : Nat) (j7 : Option Addr) (nj7 cj7 : Nat) (b7 : Option Addr) (nb7 cb7 : Nat) (j8 : Option Addr) (nj8 cj8 : Nat) (b8 : Option Addr) (nb8 cb8 : Nat) :
    Calls Try.prog 48 #[.agg #[.int .i64 q0, .slice j0 nj0 cj0, .slice j1 nj1 cj1, .bool q3, .bool true, .slice j2 nj2 cj2, .slice j3 nj3 cj3, .slice j4 nj4 cj4, .slice j5 nj5 cj5, .slice j6 nj6 cj6, .slice j7 nj7 cj7, .slice j8 nj8 cj8, .int .i64 q12, .bool q13], .agg #[.int .i64 q0, .slice b0 nb0 cb0, .slice b1 nb1 cb1, .bool q3, .bool false, .slice b2 nb2 cb2, .slice b3 nb3 cb3, .slice b4 nb4 cb4, .slice b5 nb5 cb5, .slice b6 nb6 cb6, .slice b7 nb7 cb7, .slice b8 nb8 cb8, .int .i64 r12, .bool r13]] w fun e w' => e = .returned (.bool false) ∧ Below w.heap.size w w' := by
  have HA := Lib.hid (((Below.refl w.heap.size w).alloc (Nat.le_refl _) (.cells #[.int .i64 q0, .slice j0 nj0 cj0, .slice j1 nj1 cj1, .bool q3, .bool true, .slice j2 nj2 cj2, .slice j3 nj3 cj3, .slice j4 nj4 cj4, .slice j5 nj5 cj5, .slice j6 nj6 cj6, .slice j7 nj7 cj7, .slice j8 nj8 cj8, .int .i64 q12, .bool q13] 60 (0, 0))).alloc (by simp) (.cells #[.int .i64 q0, .slice b0 nb0 cb0, .slice b1 nb1 cb1, .bool q3, .bool false, .slice b2 nb2 cb2, .slice b3 nb3 cb3, .slice b4 nb4 cb4, .slice b5 nb5 cb5, .slice b6 nb6 cb6, .slice b7 nb7 cb7, .slice b8 nb8 cb8, .int .i64 r12, .bool r13] 60 (0, 0)))
  go_enter Try.func48, Try.ntmps48
  go_wp2_with fail
  go_ret
  exact ⟨rfl, HA.out⟩
end Go.Proofs.Ytcooobnaocbdjaa
