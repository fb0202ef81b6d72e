import Derived.Test.YtcooobnaocbdjaaProg
import Derived.Test.YtcooobnaocbdjaaJoin3
import Derived.Outline
/-! YtcooobnaocbdjaaPFix -/
section

namespace Go.Proofs.Ytcooobnaocbdjaa
open Go.RowKit
set_option linter.unusedVariables false

def reluN (a : Int) : Int := if 0 < sat a then sat a else 0
def okB (x : Int) : Bool := inB (-2147483647) 2147483647 x
end Go.Proofs.Ytcooobnaocbdjaa

end

/-! YtcooobnaocbdjaaPVecM -/
section

namespace Go.Proofs.Ytcooobnaocbdjaa
set_option linter.unusedVariables false

/-- Is it a right row? -/
def vecOkB (xs : List Int) : Bool := decide (1 ≤ xs.length) && decide (xs.length ≤ 6) && xs.all okB
/-- Are both right, and of one length? -/
def pairB (xs ys : List Int) : Bool := vecOkB xs && vecOkB ys && decide (xs.length = ys.length)
/-- What comes of the first k places. -/
def rowK (f : Int → Int → Int) (xs ys : List Int) : Nat → List Int
  | 0 => []
  | k + 1 => rowK f xs ys k ++ [f (xs.getD k 0) (ys.getD k 0)]
def flagK (g : Int → Int → Bool) (xs ys : List Int) : Nat → Bool
  | 0 => false
  | k + 1 => flagK g xs ys k || g (xs.getD k 0) (ys.getD k 0)
/-- What comes of two rows, place by place. -/
def rowP (f : Int → Int → Int) (xs ys : List Int) : List Int := if pairB xs ys then rowK f xs ys xs.length else []
def flagP (g : Int → Int → Bool) (xs ys : List Int) : Bool := pairB xs ys && flagK g xs ys xs.length
/-- A number to each place. -/
def scaleN (c : Int) (xs : List Int) : List Int := if okB c then rowP (fun x _ => mulN c x) xs xs else []
def scaleB (c : Int) (xs : List Int) : Bool := okB c && flagP (fun x _ => mulB c x) xs xs
/-- A sum through both rows. -/
def sumK (F : Int → Int → Int → Int) (xs ys : List Int) : Nat → Int
  | 0 => 0
  | k + 1 => F (sumK F xs ys k) (xs.getD k 0) (ys.getD k 0)
def sumKB (F : Int → Int → Int → Int) (G : Int → Int → Int → Bool) (xs ys : List Int) : Nat → Bool
  | 0 => false
  | k + 1 => sumKB F G xs ys k || G (sumK F xs ys k) (xs.getD k 0) (ys.getD k 0)
/-- Products, added from the left. -/
def dotF (s x y : Int) : Int := addN s (mulN x y)
def dotG (s x y : Int) : Bool := mulB x y || addB s (mulN x y)
abbrev dotK (xs ys : List Int) (k : Nat) : Int := sumK dotF xs ys k
abbrev dotKB (xs ys : List Int) (k : Nat) : Bool := sumKB dotF dotG xs ys k
def dotN (xs ys : List Int) : Int := if pairB xs ys then dotK xs ys xs.length else 0
def dotB (xs ys : List Int) : Bool := pairB xs ys && dotKB xs ys xs.length
/-- What VecMask lets through. -/
def maskN (x d : Int) : Int := if 0 < x then d else 0
end Go.Proofs.Ytcooobnaocbdjaa

end
