/-
  Stages: the model's FindSaved, as the exact law calls it.
-/
import Derived.Test.YtpnifgpmleaohaaStgK
namespace Go.Proofs.Ytpnifgpmleaohaa
open Go.RowKit
set_option linter.unusedVariables false

theorem specFindSaved_d (w : World) (a : Option Addr) (n c : Nat) (l : List dSaved) (h : ListAt shSaved (Under w.heap.size) w a n l) (g1 : n ≤ c) (g2 : c ≤ 9223372036854775807) (hb : (Shape.list shSaved).bulk l ≤ 1048576) (m : Int) :
    Calls Try.prog 27 #[.slice a n c, .int .i64 m] w fun e w' => e = .returned (.int .i64 (findN l m)) ∧ Below w.heap.size w w' := by
  rw [bulk_list shSaved h] at hb
  exact (specFindSaved_c w a n c l m h (by omega)).mono fun e w' h => ⟨h.1, h.2 ▸ Below.refl _ _⟩
end Go.Proofs.Ytpnifgpmleaohaa
