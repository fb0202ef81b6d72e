/-
  The contracts of spec.Fixed and impl.Fixed.
-/
import Derived.Test.YtehlbloalfclcaaDoorProg
import Derived.Test.YtehlbloalfclcaaDoorBytes
import Derived.Test.YtehlbloalfclcaaDoorFixM
import Derived.Test.YtehlbloalfclcaaDoorPut
import Derived.OpenShut
import Derived.Lib.Hide
import Derived.WalkSpells
import Derived.WalkLawsBesides
namespace Go.Proofs.YtehlbloalfclcaaDoor
open Go.RowKit

theorem l1In_yes (x lo hi : Int) (w : World) (h1 : lo ≤ x) (h2 : x ≤ hi) :
    Calls Tryd.prog 40 #[.int .i64 x, .int .i64 lo, .int .i64 hi] w fun e w' => e = .returned (.bool true) ∧ w = w' := by
  go_enter Tryd.func40, Tryd.ntmps40
  go_wp2
  go_ret
  exact ⟨rfl, rfl⟩
theorem l1In_no (x lo hi : Int) (w : World) (h : x < lo ∨ hi < x) :
    Calls Tryd.prog 40 #[.int .i64 x, .int .i64 lo, .int .i64 hi] w fun e w' => e = .returned (.bool false) ∧ w = w' := by
  by_cases h1 : x < lo
  · go_enter Tryd.func40, Tryd.ntmps40
    go_wp2
    go_ret
    exact ⟨rfl, rfl⟩
  · have h2 : hi < x := by omega
    have h3 : decide (x ≤ hi) = false := by simpa using h2
    clear h
    go_enter Tryd.func40, Tryd.ntmps40
    go_wp2
    go_ret
    exact ⟨rfl, rfl⟩

theorem widthOk_yes (x : Int) (w : World) (h1 : 1 ≤ x) (h2 : x ≤ 7) :
    Calls Tryd.prog 24 #[.int .i64 x] w fun e w' => e = .returned (.bool true) ∧ w = w' := by
  go_enter Tryd.func24, Tryd.ntmps24
  go_wp2
  go_ret
  exact ⟨rfl, rfl⟩
theorem widthOk_no (x : Int) (w : World) (h : x < 1 ∨ 7 < x) :
    Calls Tryd.prog 24 #[.int .i64 x] w fun e w' => e = .returned (.bool false) ∧ w = w' := by
  by_cases h1 : x < 1
  · go_enter Tryd.func24, Tryd.ntmps24
    go_wp2
    go_ret
    exact ⟨rfl, rfl⟩
  · have h2 : 7 < x := by omega
    have h3 : decide (x ≤ 7) = false := by simpa using h2
    clear h
    go_enter Tryd.func24, Tryd.ntmps24
    go_wp2
    go_ret
    exact ⟨rfl, rfl⟩

theorem implFixed_no (n width : Int) (w : World) (h : width < 1 ∨ 7 < width ∨ n < 0) :
    Calls Tryd.prog 11 #[.int .i64 n, .int .i64 width] w fun e w' => e = .returned (.string ByteArray.empty) ∧ w = w' := by
  by_cases h1 : width < 1 ∨ 7 < width
  · go_enter Tryd.func11, Tryd.ntmps11
    go_wp2_with (go_at_call 24; refine (widthOk_no _ _ h1).mono ?_; rintro e w' ⟨rfl, rfl⟩)
    go_ret
    exact ⟨rfl, rfl⟩
  · have h3 : n < 0 := by omega
    have h4 : 1 ≤ width := by omega
    have h5 : width ≤ 7 := by omega
    clear h h1
    go_enter Tryd.func11, Tryd.ntmps11
    go_wp2_with (go_at_call 24; refine (widthOk_yes _ _ h4 h5).mono ?_; rintro e w' ⟨rfl, rfl⟩)
    go_ret
    exact ⟨rfl, rfl⟩

theorem implFixed_big (N W : Nat) (w : World) (_hN : N ≤ 9223372036854775807) (h4 : 1 ≤ W) (h5 : W ≤ 7) (hz : N / 256 ^ W ≠ 0) :
    Calls Tryd.prog 11 #[.int .i64 N, .int .i64 W] w fun e w' => e = .returned (.string (fixW N W)) ∧ w = w' := by
  have g4 : 1 ≤ (W : Int) := by omega
  have g5 : (W : Int) ≤ 7 := by omega
  have HF := Lib.hid (fixW_no hz)
  have hs : ((N : Int) / 2 ^ (8 * W) != 0) = true := by rw [shr_pow]; simp only [bne_iff_ne, ne_eq]; omega
  clear hz
  go_enter Tryd.func11, Tryd.ntmps11
  go_wp2_with (go_at_call 24; refine (widthOk_yes _ _ g4 g5).mono ?_; rintro e w' ⟨rfl, rfl⟩)
  go_ret
  exact ⟨by rw [HF.out]; rfl, rfl⟩

theorem implFixed_small (N W : Nat) (w : World) (_hN : N ≤ 9223372036854775807) (h4 : 1 ≤ W) (h5 : W ≤ 7) (hz : N / 256 ^ W = 0) :
    Calls Tryd.prog 11 #[.int .i64 N, .int .i64 W] w fun e w' => e = .returned (.string (fixW N W)) ∧ Below w.heap.size w w' := by
  have g4 : 1 ≤ (W : Int) := by omega
  have g5 : (W : Int) ≤ 7 := by omega
  have HF := Lib.hid (fixW_yes hz)
  have HZ := Lib.hid hz
  have hs : ((N : Int) / 2 ^ (8 * W) != 0) = false := by rw [shr_pow, hz]; rfl
  clear hz
  go_enter Tryd.func11, Tryd.ntmps11
  go_wp2_with (go_at_call 24; refine (widthOk_yes _ _ g4 g5).mono ?_; rintro e w' ⟨rfl, rfl⟩)
  clear hs
  go_loopw [5, 6] (fun v i wr => ∃ j n : Nat, j ≤ W ∧ Hid (n + j = W) ∧ i = .int .i64 ((j : Int) - 1) ∧ wr.ownsRow w.heap.size 5 1 v n (bcells (fixL (N / 256 ^ j) n)) ∧ Below w.heap.size w wr)
    (fun _ i _ => (intOf i + 1).toNat)
  case atStart => exact ⟨W, 0, Nat.le_refl _, Lib.hid (by omega), rfl, World.ownsRow_nil _ _ _ _, Below.refl _ _⟩
  case round =>
    rename_i v0 i0
    obtain ⟨j, n, hj, hn, rfl, hown, hbl⟩ := hrel
    have hsz := hbl.size
    by_cases hlt : 0 < j
    · obtain ⟨i, rfl⟩ : ∃ i, j = i + 1 := ⟨j - 1, by omega⟩
      have hb8 : (N : Int) / 2 ^ (8 * i) % 256 = ((UInt8.ofNat (N / 256 ^ i % 256)).toNat : Int) := by
        rw [u8_ofNat_toNat _ (by omega), shr_pow]; omega
      have HB := Lib.hid hb8
      have hnn := hn.out
      have hn9 : n + 1 ≤ 7 := by omega
      have HN := hn
      clear hb8 hn hnn
      go_wp2_with (go_at_call 23; refine (put_own w.heap.size wr.heap.size 1 1 n _ (fixL (N / 256 ^ (i + 1)) n) [UInt8.ofNat (N / 256 ^ i % 256)] _ (hown.alloc _) (by simp; omega) (by simp) rfl Nat.one_pos (by omega) (cell_one_put _ _ _ _ HB.out)).mono ?_; rintro e w' ⟨v', rfl, ho, hb2⟩)
      go_roundw
      case rel => exact ⟨i, n + 1, by omega, Lib.hid (by have := HN.out; omega), by go_num, by rw [fixL, ← div_pow_succ]; exact ho, (hbl.alloc hsz _).trans hb2⟩
      case measure => simp [intOf]
    · obtain rfl : j = 0 := by omega
      have hcv := own_string (P := Tryd.prog) 22 9 Tryd.underlying22 Tryd.underlying5 Tryd.underlying9 hown
      go_wp2_with fail
      go_ret
      refine ⟨?_, hbl⟩
      have hn0 := hn.out
      obtain rfl : n = W := by omega
      rw [HF.out]
      simp

/-- What both tell, at any two integers. -/
def fixI (n width : Int) : ByteArray := if 1 ≤ width ∧ width ≤ 7 ∧ 0 ≤ n then fixW n.toNat width.toNat else ByteArray.empty
theorem implFixed_any (n width : Int) (w : World) (hn : n ≤ 9223372036854775807) :
    Calls Tryd.prog 11 #[.int .i64 n, .int .i64 width] w fun e w' => e = .returned (.string (fixI n width)) ∧ Below w.heap.size w w' := by
  by_cases h : 1 ≤ width ∧ width ≤ 7 ∧ 0 ≤ n
  · have h1 : n = (n.toNat : Int) := by omega
    have h2 : width = (width.toNat : Int) := by omega
    rw [fixI, if_pos h, h1, h2]
    by_cases hz : n.toNat / 256 ^ width.toNat = 0
    · exact implFixed_small n.toNat width.toNat w (by omega) (by omega) (by omega) hz
    · exact (implFixed_big n.toNat width.toNat w (by omega) (by omega) (by omega) hz).mono fun e w' ⟨he, hw⟩ => ⟨he, hw ▸ Below.refl _ _⟩
  · rw [fixI, if_neg h]
    refine (implFixed_no n width w (by omega)).mono fun e w' ⟨he, hw⟩ => ⟨he, hw ▸ Below.refl _ _⟩

theorem i64_le {a : Int} (h : (Lit.int .i64 a).wf = true) : a ≤ 9223372036854775807 := by
  have := (bounds_i64 h).2
  omega
end Go.Proofs.YtehlbloalfclcaaDoor
