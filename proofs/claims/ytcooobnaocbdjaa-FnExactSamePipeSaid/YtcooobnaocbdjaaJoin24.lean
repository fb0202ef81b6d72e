import Derived.Test.YtcooobnaocbdjaaJoin3
import Derived.Test.YtcooobnaocbdjaaJoin15
import Derived.Test.YtcooobnaocbdjaaJoin2
import Derived.Deep.QuietTactic
import Derived.BigQuiet
import Derived.Deep.DeepCutAuto
import Derived.Deep.RegionLaw
import Derived.Lib.QuietBelow
/-! YtcooobnaocbdjaaPPlanM -/
section

namespace Go.Proofs.Ytcooobnaocbdjaa

set_option linter.unusedVariables false

/-! ### What a plan is for -/
def taskB (n s m : Int) : Bool := inB 1 4 n && (inB 0 (n - 1) s && inB 1 5 m)
/-- How many go ahead before the first one comes back. -/
def warmN (ds n s m : Int) : Int := if taskB n s m = true then (if ds = 2 then min m (n - 1 - s) else m) else 0
end Go.Proofs.Ytcooobnaocbdjaa

end

/-! YtcooobnaocbdjaaPPlanP -/
section

namespace Go.Proofs.Ytcooobnaocbdjaa
set_option linter.unusedVariables false

/-- What a stage does ahead, and back. -/
def aheadK (n s : Int) : List Int := (if 0 < s then [1] else []) ++ ([2] ++ if s < n - 1 then [3] else [])
def backPl (n s : Int) (r : Bool) : List Int := (if s < n - 1 then [4] else []) ++ ((if r = true then [5] else []) ++ ([6] ++ if 0 < s then [7] else []))
def eachP (ks : List Int) (m : Int) : List (Int × Int) := ks.map fun k => (k, m)
/-- The first so many that go ahead. -/
def warmL (n s : Int) : Nat → List (Int × Int)
  | 0 => []
  | j + 1 => warmL n s j ++ eachP (aheadK n s) (j : Int)
/-- Then, for each in turn. -/
def turnL (n s m : Int) (r : Bool) (w : Nat) : Nat → List (Int × Int)
  | 0 => []
  | j + 1 => turnL n s m r w j ++ ((if (w : Int) + (j : Int) < m then eachP (aheadK n s) ((w : Int) + (j : Int)) else []) ++ eachP (backPl n s r) (j : Int))
def planB (ds n s m : Int) : Bool := inB 1 2 ds && taskB n s m
def planL (ds n s m : Int) (r : Bool) : List (Int × Int) :=
  if planB ds n s m = true then (warmL n s (warmN ds n s m).toNat ++ turnL n s m r (warmN ds n s m).toNat m.toNat) ++ [(8, 0)] else []
/-- The kinds from one on that a stage does. -/
def doesB (n s : Int) (r : Bool) (k : Int) : Bool := if k = 1 ∨ k = 7 then decide (0 < s) else if k = 3 ∨ k = 4 then decide (0 < n - 1 - s) else if k = 5 then r else true
def kindsK (n s : Int) (r : Bool) (f : Int) : Nat → List Int
  | 0 => []
  | c + 1 => kindsK n s r f c ++ if doesB n s r (f + (c : Int)) = true then [f + (c : Int)] else []
end Go.Proofs.Ytcooobnaocbdjaa

end

/-! YtcooobnaocbdjaaPPlanA -/
section

namespace Go.Proofs.Ytcooobnaocbdjaa
open Go.RowKit Go.Sort
set_option linter.unusedVariables false

abbrev taskV (n s m : Int) (r : Bool) : Value := .agg #[.int .i64 n, .int .i64 s, .int .i64 m, .bool r]
end Go.Proofs.Ytcooobnaocbdjaa

end
