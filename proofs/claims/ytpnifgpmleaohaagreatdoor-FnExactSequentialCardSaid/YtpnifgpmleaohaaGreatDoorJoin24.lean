/-
  What goes back: a closure for each operation.
-/
import Derived.Test.YtpnifgpmleaohaaGreatDoorJoin22
import Derived.Test.YtpnifgpmleaohaaGreatDoorJoin23
namespace Go.Proofs.YtpnifgpmleaohaaGreatDoor
open Go.RowKit Go.Sort
set_option linter.unusedVariables false

set_option maxRecDepth 100000 in
set_option maxHeartbeats 800000 in
/-- One step back, called with its boxes. -/
theorem implStep_any (w : World) (bo BI bi : Nat) (k i o : Int) (ae : Option Addr) (ne ce : Nat) (ps : List Int) (ai : Option Addr) (ni ci : Nat) (is : List dRow) (j : Nat) (X : List Int) (ad : Option Addr) (nd cd : Nat) (ds : List Int)
    (ho : w.heap[bo]? = some (.cells #[.int .i64 k, .int .i64 i, .int .i64 o, .slice ae ne ce] 38 (0, 0))) (hI : w.heap[BI]? = some (.cells #[.slice ai ni ci] 27 (0, 0))) (hj : w.heap[bi]? = some (.cells #[.int .i64 j] 3 (0, 0)))
    (hp : IntsIn w.heap.size w ae ne ps) (hcp : ne ≤ ce) (hcap : ce ≤ 9223372036854775807) (hi : ListAt shRow (Under w.heap.size) w ai ni is) (hX : is[j]? = some X) (hX6 : X.length ≤ 1048576) (hd : IntsIn w.heap.size w ad nd ds) (hg : LaidE w) :
    Calls Tryz.prog 158 #[.slice ad nd cd, .pointer (some ⟨bo, 0, none⟩), .pointer (some ⟨BI, 0, none⟩), .pointer (some ⟨bi, 0, none⟩)] w (RowsB w (bwN k i o ps X ds) (bwG k i o ps X ds) (bwB k i o ps X ds)) := by
  obtain ⟨⟨c0, c1, c2, c3⟩, -⟩ := cells4 ho
  have e0 := box1 hI
  have e1 : w.cell? ⟨bi, 0, none⟩ = some (.int .i64 j) := by rw [cell_of_row _ _ _ _ _ _ hj]; rfl
  have hjn : j < ni := by rw [← hi.1]; exact (List.getElem?_eq_some_iff.1 hX).1
  obtain ⟨b2, o2, es2, rfl, hbB2, hr2, hs2⟩ := hi.2 j X hX
  obtain ⟨ay, ny, cy, rfl, -, -, my⟩ := shRow_reads.1 hs2
  rw [shRow_size, Nat.mul_one] at hr2
  have r0 := hr2 0 _ rfl
  simp only [Nat.add_zero] at r0
  have hjj : (j : Int) < (ni : Int) := by omega
  have hdw : Below w.heap.size w w.drew := (Below.refl w.heap.size w).drew
  have hC := implOpBackward_any w.drew k i o ae ne ce ps ay ny cy X ad nd cd ds ((hp.below hdw (Nat.le_refl _)).le hdw.size) hcp hcap (((my.ints (by have := my.1; omega)).below hdw (Nat.le_refl _)).le hdw.size) ((hd.below hdw (Nat.le_refl _)).le hdw.size) (hg.below hg.lt hdw)
  obtain ⟨N1, hN1⟩ : ∃ v, bwN k i o ps X ds = v := ⟨_, rfl⟩
  obtain ⟨N2, hN2⟩ : ∃ v, bwG k i o ps X ds = v := ⟨_, rfl⟩
  obtain ⟨N3, hN3⟩ : ∃ v, bwB k i o ps X ds = v := ⟨_, rfl⟩
  rw [hN1, hN2, hN3] at hC ⊢
  have HC := Lib.hid hC
  clear hC hN1 hN2 hN3 hdw
  clear ho hI hj hp hi hX hX6 hd hg hr2 hs2 my hbB2
  go_enter Tryz.func158, Tryz.ntmps158
  go_upto_region 1 with fail
  go_cut [5, 6, 7] (fun d u s wx => s = .bool N3 ∧ Row w.heap.size wx d N1 ∧ Row w.heap.size wx u N2 ∧ ApartV d u ∧ Below w.heap.size w wx)
  case first =>
    go_region_law (first
      | (go_simp; go_at_call 159; (with_reducible refine HC.out.mono ?_); rintro e wt ⟨v, u, rfl, hr, hr', hap, hb⟩; have HR := Lib.hid hr; have HR' := Lib.hid hr'; have HAP := Lib.hid hap; have HBT := Lib.hid hb; clear hr hr' hap hb))
    all_goals
      go_wp2_with fail
      go_meet
      case rel => exact ⟨rfl, HR.out, HR'.out, HAP.out, ((Below.refl w.heap.size w).drew).trans HBT.out⟩
  case rest =>
    obtain ⟨rfl, hr, hr', hap, hb⟩ := hcut
    have HR := Lib.hid hr
    have HR' := Lib.hid hr'
    have HAP := Lib.hid hap
    have HB := Lib.hid hb
    clear hr hr' hap hb HC
    go_wp2_with fail
    go_ret3
    exact ⟨_, _, rfl, HR.out, HR'.out, HAP.out, HB.out⟩
end Go.Proofs.YtpnifgpmleaohaaGreatDoor
