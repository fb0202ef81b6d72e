/-
  Numbers with a point: the contracts of the arithmetic, both sides.
-/
import Derived.Test.YtgnjcfbfbpjndaaDoorProg
import Derived.Test.YtgnjcfbfbpjndaaDoorSat
import Derived.Test.YtgnjcfbfbpjndaaDoorAs
import Derived.Outline
namespace Go.Proofs.YtgnjcfbfbpjndaaDoor
open Go.RowKit
set_option linter.unusedVariables false

theorem fix_ret {a b : Int} (h : a = b) : Ending.returned (.int .i64 a) = .returned (.int .i64 b) := by rw [h]
theorem inRange_mid (x : Int) (w : World) (h0 : -2147483647 ≤ x) (h1 : x ≤ 2147483647) :
    Calls Tryd.prog 31 #[.int .i64 x] w fun e w' => e = .returned .nilIface ∧ w = w' := by
  go_enter Tryd.func31, Tryd.ntmps31
  go_wp2
  go_ret
  exact ⟨rfl, rfl⟩
theorem inRange_hi (x : Int) (w : World) (h0 : 2147483647 < x) :
    Calls Tryd.prog 31 #[.int .i64 x] w fun e w' => e = .returned (.iface 57 (.agg #[.int .i64 2147483647])) ∧ w = w' := by
  go_enter Tryd.func31, Tryd.ntmps31
  go_wp2
  go_ret
  exact ⟨rfl, rfl⟩
theorem inRange_lo (x : Int) (w : World) (h0 : x < -2147483647) :
    Calls Tryd.prog 31 #[.int .i64 x] w fun e w' => e = .returned (.iface 57 (.agg #[.int .i64 (-2147483647)])) ∧ w = w' := by
  go_enter Tryd.func31, Tryd.ntmps31
  go_wp2
  go_ret
  exact ⟨rfl, rfl⟩

/-- errors.As at a target that the call itself has made. -/
theorem as_new (n : Int) (w : World) (hg : LaidE w) :
    Calls Tryd.prog 32 #[.iface 57 (.agg #[.int .i64 n]), .iface 59 (.pointer (some ⟨w.heap.size, 0, none⟩))] (w.alloc (.cells #[.int .i64 0] 57)) fun e w' => e = .returned (.bool true) ∧ w'.cell? ⟨w.heap.size, 0, none⟩ = some (.int .i64 n) ∧ Below w.heap.size w w' := by
  have hg' : LaidE (w.alloc (.cells #[.int .i64 0] 57)) := hg.below hg.lt ((Below.refl _ _).alloc (Nat.le_refl _) _)
  refine (as_hit n ⟨w.heap.size, 0, none⟩ (.int .i64 0) _ hg' (by simp) (by simp)).mono fun e w' ⟨he, hw⟩ => ⟨he, ?_, ?_⟩
  · rw [hw]
    refine World.cell?_setCell_same _ _ _ (u := .int .i64 0) ?_
    rw [World.cell?_alloc_lt _ _ ⟨w.heap.size, 0, none⟩ (by simp; omega), World.cell?_alloc_lt _ _ ⟨w.heap.size, 0, none⟩ (by simp; omega), World.cell?_alloc_lt _ _ ⟨w.heap.size, 0, none⟩ (by simp; omega), World.cell?_alloc_lt _ _ ⟨w.heap.size, 0, none⟩ (by simp)]
    simp
  · rw [hw]
    exact ((((((Below.refl _ _).alloc (Nat.le_refl _) _).alloc (by simp) _).alloc (by simp; omega) _).alloc (by simp; omega) _).alloc (by simp; omega) _).setCell (Nat.le_refl _) _

theorem intoRange_any (x : Int) (w : World) (hg : LaidE w) :
    Calls Tryd.prog 24 #[.int .i64 x] w fun e w' => e = .returned (.tuple #[.int .i64 (sat x), .bool (satB x)]) ∧ Below w.heap.size w w' := by
  have HG := Lib.hid hg
  clear hg
  by_cases h1 : 2147483647 < x
  · have HS := Lib.hid (sat_hi h1)
    go_enter Tryd.func24, Tryd.ntmps24
    go_wp2_with fail
    refine (inRange_hi x _ h1).mono ?_
    rintro e w' ⟨rfl, rfl⟩
    go_wp2_with fail
    refine (as_new 2147483647 _ HG.out).mono ?_
    rintro e w1 ⟨rfl, hc, hb⟩
    go_wp2_with fail
    go_ret2
    exact ⟨by rw [HS.out.1, HS.out.2] <;> rfl, hb⟩
  · by_cases h2 : x < -2147483647
    · have HS := Lib.hid (sat_lo h2)
      go_enter Tryd.func24, Tryd.ntmps24
      go_wp2_with fail
      refine (inRange_lo x _ h2).mono ?_
      rintro e w' ⟨rfl, rfl⟩
      go_wp2_with fail
      refine (as_new (-2147483647) _ HG.out).mono ?_
      rintro e w1 ⟨rfl, hc, hb⟩
      go_wp2_with fail
      go_ret2
      exact ⟨by rw [HS.out.1, HS.out.2] <;> rfl, hb⟩
    · have g1 : -2147483647 ≤ x := by omega
      have g2 : x ≤ 2147483647 := by omega
      have HS := Lib.hid (sat_mid g1 g2)
      clear h1 h2
      go_enter Tryd.func24, Tryd.ntmps24
      go_wp2_with fail
      refine (inRange_mid x _ g1 g2).mono ?_
      rintro e w' ⟨rfl, rfl⟩
      go_wp2_with fail
      go_ret2
      exact ⟨by rw [HS.out.1, HS.out.2] <;> rfl, Below.refl _ _⟩

theorem nearest_any (x : Int) (w : World) (hg : LaidE w) :
    Calls Tryd.prog 25 #[.int .i64 x] w fun e w' => e = .returned (.int .i64 (sat x)) ∧ Below w.heap.size w w' := by
  have HG := Lib.hid hg
  clear hg
  go_enter Tryd.func25, Tryd.ntmps25
  go_wp2_with fail
  refine (intoRange_any x _ HG.out).mono ?_
  rintro e w1 ⟨rfl, hb⟩
  go_wp2_with fail
  go_ret
  exact ⟨rfl, hb⟩

theorem implFixAdd_any (a b : Int) (w : World) (hg : LaidE w) :
    Calls Tryd.prog 15 #[.int .i64 a, .int .i64 b] w fun e w' => e = .returned (.tuple #[.int .i64 (addN a b), .bool (addB a b)]) ∧ Below w.heap.size w w' := by
  have HG := Lib.hid hg
  have hlt := hg.lt
  clear hg
  obtain ⟨a0, a1⟩ := sat_range a
  obtain ⟨b0, b1⟩ := sat_range b
  go_enter Tryd.func15, Tryd.ntmps15
  go_wp2_with fail
  refine (nearest_any a _ HG.out).mono ?_
  rintro e w1 ⟨rfl, hb1⟩
  go_wp2_with fail
  refine (nearest_any b _ (HG.out.below hlt hb1)).mono ?_
  rintro e w2 ⟨rfl, hb2⟩
  have hb12 := hb1.trans (hb2.mono hb1.size)
  go_wp2_with fail
  refine (intoRange_any (sat a + sat b) _ (HG.out.below hlt hb12)).mono ?_
  rintro e w3 ⟨rfl, hb3⟩
  go_wp2_with fail
  go_ret2
  exact ⟨rfl, hb12.trans (hb3.mono hb12.size)⟩

def reluN (a : Int) : Int := if 0 < sat a then sat a else 0
def okB (x : Int) : Bool := inB (-2147483647) 2147483647 x
theorem okB_yes {x : Int} (h0 : -2147483647 ≤ x) (h1 : x ≤ 2147483647) : okB x = true := inB_yes h0 h1
theorem okB_no {x : Int} (h : x < -2147483647 ∨ 2147483647 < x) : okB x = false := inB_no h
end Go.Proofs.YtgnjcfbfbpjndaaDoor
