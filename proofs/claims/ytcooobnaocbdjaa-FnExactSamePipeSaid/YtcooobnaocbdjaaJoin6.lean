import Derived.Test.YtcooobnaocbdjaaJoin4
import Derived.Test.YtcooobnaocbdjaaJoin5
import Derived.Test.YtcooobnaocbdjaaJoin1
/-! YtcooobnaocbdjaaPMatM -/
section

namespace Go.Proofs.Ytcooobnaocbdjaa
set_option linter.unusedVariables false

/-- What comes of the places below k. -/
def mapK (f : Nat → Int) : Nat → List Int
  | 0 => []
  | k + 1 => mapK f k ++ [f k]
def anyK (g : Nat → Bool) : Nat → Bool
  | 0 => false
  | k + 1 => anyK g k || g k
/-- Row by row. -/
def gridK (f : Nat → Nat → Int) (c : Nat) : Nat → List Int
  | 0 => []
  | i + 1 => gridK f c i ++ mapK (f i) c
/-- Row i, column k of a list of rows of c. -/
def rowOf (c : Nat) (xs : List Int) (i : Nat) : List Int := (xs.drop (i * c)).take c
def colF (c : Nat) (xs : List Int) (k i : Nat) : Int := xs.getD (i * c + k) 0
def colOf (r c : Nat) (xs : List Int) (k : Nat) : List Int := mapK (colF c xs k) r
/-- Is it a right table? -/
def matOkB (r c : Int) (xs : List Int) : Bool := inB 1 6 r && inB 1 6 c && decide ((xs.length : Int) = r * c) && xs.all okB
/-- What the functions of chapter 4 tell. -/
def mvOk (r c : Int) (xs ys : List Int) : Bool := matOkB r c xs && vecOkB ys && decide ((ys.length : Int) = c)
def mbOk (r c : Int) (xs ys : List Int) : Bool := matOkB r c xs && vecOkB ys && decide ((ys.length : Int) = r)
def mvN (r c : Int) (xs ys : List Int) : List Int := if mvOk r c xs ys then mapK (fun i => dotN (rowOf c.toNat xs i) ys) r.toNat else []
def mvB (r c : Int) (xs ys : List Int) : Bool := mvOk r c xs ys && anyK (fun i => dotB (rowOf c.toNat xs i) ys) r.toNat
def mbN (r c : Int) (xs ys : List Int) : List Int := if mbOk r c xs ys then mapK (fun k => dotN (colOf r.toNat c.toNat xs k) ys) c.toNat else []
def mbB (r c : Int) (xs ys : List Int) : Bool := mbOk r c xs ys && anyK (fun k => dotB (colOf r.toNat c.toNat xs k) ys) c.toNat
def bothB (xs ys : List Int) : Bool := vecOkB xs && vecOkB ys
/-- Outer: rows, columns, places, mark. -/
def outR (ds xs : List Int) : Int := if bothB ds xs then ds.length else 0
def outC (ds xs : List Int) : Int := if bothB ds xs then xs.length else 0
def outN (ds xs : List Int) : List Int := if bothB ds xs then gridK (fun i k => mulN (ds.getD i 0) (xs.getD k 0)) xs.length ds.length else []
def gridB (g : Nat → Nat → Bool) (c : Nat) : Nat → Bool
  | 0 => false
  | i + 1 => gridB g c i || anyK (g i) c
def outB (ds xs : List Int) : Bool := bothB ds xs && gridB (fun i k => mulB (ds.getD i 0) (xs.getD k 0)) xs.length ds.length
/-- Transpose. -/
def trR (r c : Int) (xs : List Int) : Int := if matOkB r c xs then c else 0
def trC (r c : Int) (xs : List Int) : Int := if matOkB r c xs then r else 0
def trN (r c : Int) (xs : List Int) : List Int := if matOkB r c xs then gridK (fun k i => xs.getD (i * c.toNat + k) 0) r.toNat c.toNat else []
end Go.Proofs.Ytcooobnaocbdjaa

end

/-! YtcooobnaocbdjaaPMat -/
section

namespace Go.Proofs.Ytcooobnaocbdjaa
open Go.RowKit
set_option linter.unusedVariables false

theorem szIntS_ok (w : World) (a : Option Addr) (n c : Nat) (L : Int) (h0 : (n : Int) ≤ L) (h1 : L ≤ 1048576) :
    Calls Try.prog 86 #[.slice a n c, .int .i64 L] w fun e w' => e = .returned (.int .i64 (L - n)) ∧ w = w' := by
  have hd : decide (L - (n : Int) < 0) = false := decide_eq_false (by omega)
  go_enter Try.func86, Try.ntmps86
  go_wp2_with fail
  go_ret
  exact ⟨rfl, rfl⟩
theorem szIntS_big (w : World) (a : Option Addr) (n c : Nat) (L : Int) (h0 : L < (n : Int)) (hl : 0 ≤ L) (h1 : L ≤ 1048576) (hn : n ≤ 9223372036854775807) :
    Calls Try.prog 86 #[.slice a n c, .int .i64 L] w fun e w' => e = .returned (.int .i64 (-1)) ∧ w = w' := by
  have hd : decide (L - (n : Int) < 0) = true := decide_eq_true (by omega)
  go_enter Try.func86, Try.ntmps86
  go_wp2_with fail
  go_ret
  exact ⟨rfl, rfl⟩
end Go.Proofs.Ytcooobnaocbdjaa

end
