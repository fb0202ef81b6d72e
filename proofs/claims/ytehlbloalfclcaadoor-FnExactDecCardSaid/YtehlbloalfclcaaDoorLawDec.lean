/-
  The laws on Dec and ReadDec.
-/
import Derived.Test.YtehlbloalfclcaaDoorReadDec
import Derived.Test.YtehlbloalfclcaaDoorSpecReadDec
namespace Go.Proofs.YtehlbloalfclcaaDoor
open Go.RowKit
set_option linter.unusedVariables false

theorem lawDec (a0 : Int) (w : World) (h0 : -9223372036854775808 ≤ a0) (h1 : a0 ≤ 9223372036854775807) (hL : LaidT w) :
    Calls Tryd.prog 4 #[.int .i64 a0] w fun e w' => e = .returned (.bool true) ∧ Below w.heap.size w w' := by
  have HL := Lib.hid hL
  clear hL
  go_enter Tryd.func4, Tryd.ntmps4
  go_wp2_with fail
  refine (specDec_any a0 _ h0 h1).mono ?_
  rintro e w1 ⟨rfl, hb1⟩
  go_wp2_with fail
  refine (implDec_any a0 _ h0 h1 (HL.out.below hb1)).mono ?_
  rintro e w2 ⟨rfl, hb2⟩
  go_wp2_with fail
  go_ret
  exact ⟨rfl, hb1.trans (hb2.mono hb1.size)⟩

theorem rs_rd (s : ByteArray) : rdN s = rsN s ∧ rdB s = rsB s := ⟨rfl, rfl⟩
theorem lawReadDec (a0 : ByteArray) (w : World) (h0 : a0.size ≤ maxLen) (hL : LaidW w) :
    Calls Tryd.prog 5 #[.string a0] w fun e w' => e = .returned (.bool true) ∧ Below w.heap.size w w' := by
  unfold maxLen at h0
  have HL := Lib.hid hL
  clear hL
  by_cases hbig : 1048576 < a0.size
  · go_enter Tryd.func5, Tryd.ntmps5
    go_wp2_with fail
    go_ret
    exact ⟨rfl, Below.refl _ _⟩
  · have HI := Lib.hid (fun w hl => implReadDec_any a0 w (by omega) hl)
    rw [(rs_rd a0).1, (rs_rd a0).2] at HI
    go_enter Tryd.func5, Tryd.ntmps5
    go_wp2_with fail
    refine (specReadDec_any a0 _ (by omega)).mono ?_
    rintro e w1 ⟨rfl, hb1⟩
    go_wp2_with fail
    refine (HI.out _ (HL.out.below hb1)).mono ?_
    rintro e w2 ⟨rfl, hb2⟩
    go_wp2_with fail
    go_ret
    exact ⟨rfl, hb1.trans (hb2.mono hb1.size)⟩
end Go.Proofs.YtehlbloalfclcaaDoor
