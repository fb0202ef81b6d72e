/-
  The exact law on all cuts: the walk.
-/
import Derived.Test.YtkmcfbopilieeaaCutB
import Derived.Test.YtkmcfbopilieeaaMark
import Derived.Test.YtkmcfbopilieeaaFew
namespace Go.Proofs.Ytkmcfbopilieeaa
open Go.RowKit
set_option linter.unusedVariables false

theorem ways_bulk (ops stages : Int) : (Shape.list shRow).bulk (waysI ops stages) ≤ 1048576 := by
  have h := waysI_few ops stages
  have hb : (Shape.list shRow).bulk (waysI ops stages) = (waysI ops stages).length + Shape.sum shRow.bulk (waysI ops stages) := rfl
  have hs : ∀ l : List dRow, (∀ x ∈ l, x.length ≤ 7) → Shape.sum shRow.bulk l ≤ 7 * l.length := fun l => by
    induction l with
    | nil => intro _; simp [Shape.sum]
    | cons x xs ih =>
      intro hx
      have h1 := hx x (by simp)
      have h2 := ih fun y hy => hx y (by simp [hy])
      have h3 : shRow.bulk x = x.length := by rw [shRow_bulk, bulk_ints]
      simp only [Shape.sum, List.length_cons, h3]
      omega
  have h2 := hs _ h.2
  omega
set_option maxRecDepth 100000 in
set_option maxHeartbeats 3200000 in
theorem lawAllCuts_any (w : World) (a0 a1 : Int) :
    Calls Try.prog 11 #[.int .i64 a0, .int .i64 a1] w fun e w' => e = .returned (.bool true) ∧ Below w.heap.size w w' := by
  have hbk := ways_bulk a0 a1
  have hct := few_RowS (waysI a0 a1)
  have HS := Lib.hid (specAllCuts_o w a0 a1)
  have HI := Lib.hid fun (w : World) => implAllCuts_o w a0 a1
  obtain ⟨xs, hxs⟩ : ∃ xs, waysI a0 a1 = xs := ⟨_, rfl⟩
  rw [hxs] at hbk hct HS
  simp only [hxs] at HI
  obtain ⟨n, hn⟩ : ∃ n, xs.length = n := ⟨_, rfl⟩
  obtain ⟨M, hM⟩ : ∃ M : Int, 1 + (Shape.sum ownRow.ct xs : Nat) = M := ⟨_, rfl⟩
  have hM0 : decide (M < 0) = false := decide_eq_false (by omega)
  have hM1 : ¬ M < 0 := by omega
  have HM := Lib.hid hM
  have HN := Lib.hid hn
  have HBK := Lib.hid hbk
  have HCT := Lib.hid hct
  clear hxs hn hM hbk hct
  go_enter Try.func11, Try.ntmps11
  go_wp2_with fail
  refine HS.out.mono ?_
  rintro e w1 ⟨v1, rfl, hl, hb⟩
  obtain ⟨a1', c1', rfl, -, -, ho⟩ := hl.list (by decide)
  rw [HN.out] at ho ⊢
  have sz1 := hb.size
  have W1 := Lib.hid (ho.listAt (I := Under w1.heap.size) (fun b o f => f.2) (by decide))
  have T1 := Lib.hid hb
  clear hl hb ho HS
  have HI1 := Lib.hid (HI.out w1)
  go_wp2_with fail
  refine HI1.out.mono ?_
  rintro e w2 ⟨v2, rfl, hl, hb⟩
  obtain ⟨a2', c2', rfl, -, -, ho⟩ := hl.list (by decide)
  rw [HN.out] at ho ⊢
  have sz2 := hb.size
  have G2 := Lib.hid ho
  have W2 := Lib.hid (W1.out.below hb (Nat.le_refl _))
  have T2 := Lib.hid (T1.out.trans (hb.mono sz1))
  clear hl hb ho HI1 W1 T1
  have HC := Lib.hid (eqRowS_c w2 w2.heap.size w1.heap.size a2' a1' n c2' c1' xs (G2.out.listAt (I := Under w2.heap.size) (fun b o f => f.2) (by decide)) W2.out (Nat.le_refl _) sz2 HBK.out)
  go_wp2_with fail
  refine HC.out.mono ?_
  rintro e w3 ⟨rfl, hb⟩
  have sz3 := hb.size
  have G3 := Lib.hid (G2.out.keep (.of_below hb fun b o f => f.2))
  have W3 := Lib.hid (W2.out.below hb (by omega))
  have T3 := Lib.hid (T2.out.trans (hb.mono (by omega)))
  clear hb G2 W2 T2 HC
  have hC := markRowS_o w3 _ a2' n c2' xs 1 G3.out HBK.out (by omega) (by have := HBK.out; have := HCT.out; omega)
  rw [HM.out] at hC
  have HC := Lib.hid hC
  clear hC
  go_wp2_with fail
  refine HC.out.mono ?_
  rintro e w4 ⟨rfl, ho, ht⟩
  have sz4 : w4.heap.size = w3.heap.size := ht.size
  have hb := ht.below (B := w1.heap.size) fun b o f => f.1
  have G4 := Lib.hid (ho.listAt (I := Under w4.heap.size) (fun b o f => by have := f.2; omega) (by decide))
  have G4O := Lib.hid ho
  have W4 := Lib.hid (W3.out.below hb (Nat.le_refl _))
  have T4 := Lib.hid (T3.out.trans (hb.mono sz1))
  have SZ4 := Lib.hid sz4
  clear hb ho ht HC G3 W3 T3 sz4
  have hC := heldRowS_o w4 w4.heap.size a2' n c2' xs 1 G4.out HBK.out (by omega) (by have := HBK.out; have := HCT.out; omega)
  rw [HM.out] at hC
  have HC := Lib.hid hC
  clear hC
  go_wp2_with fail
  refine HC.out.mono ?_
  rintro e w5 ⟨rfl, rfl⟩
  clear HC
  have HI1 := Lib.hid (HI.out w4)
  go_wp2_with fail
  refine HI1.out.mono ?_
  rintro e w6 ⟨v6, rfl, hl, hb⟩
  obtain ⟨a6', c6', rfl, -, -, ho⟩ := hl.list (by decide)
  rw [HN.out] at ho ⊢
  have sz6 := hb.size
  have H6 := Lib.hid (ho.listAt (I := Under w6.heap.size) (fun b o f => f.2) (by decide))
  have G6 := Lib.hid (G4.out.below hb (Nat.le_refl _))
  have W6 := Lib.hid (W4.out.below hb (by have := SZ4.out; omega))
  have T6 := Lib.hid (T4.out.trans (hb.mono (by have := SZ4.out; omega)))
  clear hl hb ho HI1 G4 G4O W4 T4
  have HC := Lib.hid (eqRowS_c w6 w6.heap.size w1.heap.size a6' a1' n c6' c1' xs H6.out W6.out (Nat.le_refl _) (by have := SZ4.out; omega) HBK.out)
  go_wp2_with fail
  refine HC.out.mono ?_
  rintro e w7 ⟨rfl, hb⟩
  have G7 := Lib.hid ((G6.out.below hb (by omega)).le (show w4.heap.size ≤ w7.heap.size by have := hb.size; omega))
  have T7 := Lib.hid (T6.out.trans (hb.mono (by have := SZ4.out; omega)))
  clear hb HC G6 W6 T6 H6
  have hC := heldRowS_o w7 w7.heap.size a2' n c2' xs 1 G7.out HBK.out (by omega) (by have := HBK.out; have := HCT.out; omega)
  rw [HM.out] at hC
  have HC := Lib.hid hC
  clear hC
  go_wp2_with fail
  refine HC.out.mono ?_
  rintro e w8 ⟨rfl, rfl⟩
  go_wp2_with fail
  go_ret
  exact ⟨rfl, T7.out⟩
end Go.Proofs.Ytkmcfbopilieeaa
