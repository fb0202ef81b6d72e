/-
  The contract of impl.put: bytes put behind a row of the call's own.
-/
import Derived.Test.YtdoofapjhgahgaaProg
import Derived.Test.YtdoofapjhgahgaaBytes
import Derived.Lib.Hide
import Derived.WalkSpells
import Derived.WalkLawsBesides
import Derived.Deep.QuietTactic
import Derived.BigQuiet
namespace Go.Proofs.Ytdoofapjhgahgaa
open Go.RowKit

theorem Try.infoU8 : (Try.prog.info? 5).map (fun i => (i.zero, i.size, i.bytes)) = some (some (.int .u8 0), 1, 1) := by kernel_rfl

/-- What put leaves: a row of the call's own with the bytes behind it. -/
def PutPost (B n : Nat) (l : List UInt8) (w : World) (e : Ending) (w' : World) : Prop :=
  ∃ v', e = .returned v' ∧ w'.ownsRow B 5 1 v' n (bcells l) ∧ Below B w w'

end Go.Proofs.Ytdoofapjhgahgaa
