/-
  Tables of numbers, drawn.
-/
import Derived.Test.YtdmkbmpgcpggdaaDoorDrawVec
import Derived.Test.YtdmkbmpgcpggdaaDoorLaws
import Derived.Test.YtdmkbmpgcpggdaaDoorMatW
import Derived.Deep.RegionLaw
import Derived.Deep.DeepCutAuto
namespace Go.Proofs.YtdmkbmpgcpggdaaDoor
open Go.RowKit
set_option linter.unusedVariables false

/-- A table was drawn. -/
def DrewM (B : Nat) (w : World) (C : Nat) (e : Ending) (w' : World) : Prop := ∃ r c v xs, e = .returned (.agg #[.int .i64 r, .int .i64 c, v]) ∧ xs.length ≤ 9 ∧ Row w.heap.size w' v xs ∧ Turned B w w' C
theorem grownBy_setCell (w : World) (a : Addr) (u : Value) : w.grownBy (w.setCell a u) (some a.block) :=
  ⟨rfl, rfl, rfl, by simp [World.setCell], fun k _ hk => heap_setCell_other w a k u (fun e => hk (by rw [e]))⟩
theorem Turned.setCell {B : Nat} {w w1 : World} {C : Nat} (h : Turned B w w1 C) (hC : C < w.heap.size) (a : Addr) (u : Value) (ha : w.heap.size ≤ a.block) : Turned B w (w1.setCell a u) C :=
  h.store hC (grownBy_setCell w1 a u) ha
theorem Turned.block {B : Nat} {w w1 : World} {C : Nat} (h : Turned B w w1 C) {k : Nat} (hk : k < w.heap.size) (hne : k ≠ C) : w1.heap[k]? = w.heap[k]? := h.2.block k hk (fun e => hne (Option.some.inj e))

set_option maxRecDepth 100000 in
set_option maxHeartbeats 1600000 in
theorem l4Mat_e (B : Nat) (w : World) (C : Nat) (hc : Cu B w C) :
    Calls Tryd.prog 30 #[.pointer (some ⟨C, 0, none⟩)] w (DrewM B w C) := by
  have HC := Lib.hid hc
  have hlt := hc.lt
  have HC1 := Lib.hid (hc.alloc (.cells #[.int .i64 0, .int .i64 0, .slice none 0 0] 26 (0, 0)))
  have hb0 := heap_alloc_new w (.cells #[.int .i64 0, .int .i64 0, .slice none 0 0] 26 (0, 0))
  have T0 := Lib.hid ((Turned.refl hc).alloc (.cells #[.int .i64 0, .int .i64 0, .slice none 0 0] 26 (0, 0)))
  have hs0 : w.heap.size < (w.alloc (.cells #[.int .i64 0, .int .i64 0, .slice none 0 0] 26 (0, 0))).heap.size := by simp
  have HB0 := Lib.hid hb0
  clear hc hb0
  go_enter Tryd.func30, Tryd.ntmps30
  go_wp2_with fail
  generalize w.alloc (.cells #[.int .i64 0, .int .i64 0, .slice none 0 0] 26 (0, 0)) = wa at HC1 HB0 T0 hs0 ⊢
  refine (l1Below_e B _ C 3 (by omega) HC1.out).mono ?_
  rintro e w1 ⟨x, rfl, ⟨x0, x1⟩, ht1⟩
  have HB1 := Lib.hid ((ht1.block hs0 (by omega)).trans HB0.out)
  have T1 := Lib.hid (T0.out.trans ht1)
  have hs1 := ht1.size
  clear ht1
  go_wp2_with fail
  obtain ⟨R, hR⟩ : ∃ R : Nat, (R : Int) = 1 + x := ⟨(1 + x).toNat, by omega⟩
  rw [← hR]
  have hR1 : 1 ≤ R := by omega
  have hR3 : R ≤ 3 := by omega
  clear hR x0 x1
  refine (l1Below_e B _ C 3 (by omega) T1.out.cu).mono ?_
  rintro e w2 ⟨y, rfl, ⟨y0, y1⟩, ht2⟩
  have HB2 := Lib.hid ((ht2.block (by omega) (by omega)).trans HB1.out)
  have T2 := Lib.hid (T1.out.trans ht2)
  have hs2 := ht2.size
  obtain ⟨K, hK⟩ : ∃ K : Nat, (K : Int) = 1 + y := ⟨(1 + y).toNat, by omega⟩
  have hK1 : 1 ≤ K := by omega
  have hK3 : K ≤ 3 := by omega
  obtain ⟨P, hP⟩ : ∃ P, R * K = P := ⟨_, rfl⟩
  have hP9 : P ≤ 9 := by rw [← hP]; exact Nat.mul_le_mul hR3 hK3
  have hP1 : 1 ≤ P := by rw [← hP]; exact Nat.mul_le_mul hR1 hK1
  have hw : (R : Int) * (1 + y) = (P : Int) := by rw [← hK, ← hP]; push_cast; rfl
  clear ht2 y0 y1
  go_wp2_with fail
  clear hw
  refine (l3Vec_e B _ C P (by omega) T2.out.cu).mono ?_
  rintro e w3 ⟨v, xs, rfl, hxl, hrow, ht3⟩
  have HB3 := Lib.hid ((ht3.block (by omega) (by omega)).trans HB2.out)
  have T3 := Lib.hid (T2.out.trans ht3)
  have hs3 := ht3.size
  obtain ⟨g, cp, rfl, hg1, hg2⟩ := hrow.first (by rw [hxl]; omega)
  rw [hxl] at hrow ⊢
  have HR := Lib.hid hrow
  have LEN := Lib.hid hxl
  clear ht3 hrow hxl
  go_wp2_with fail
  have hk := heap_alloc_new w3 (.cells #[.int .i64 R, .int .i64 (1 + y), .slice (some ⟨g, 0, none⟩) P cp] 26 (0, 0))
  have ht := T3.out.alloc (.cells #[.int .i64 R, .int .i64 (1 + y), .slice (some ⟨g, 0, none⟩) P cp] 26 (0, 0))
  have hr := HR.out.below ((Below.refl w3.heap.size w3).alloc (Nat.le_refl _) (.cells #[.int .i64 R, .int .i64 (1 + y), .slice (some ⟨g, 0, none⟩) P cp] 26 (0, 0)))
  have hb := (Below.heap_alloc w3 (.cells #[.int .i64 R, .int .i64 (1 + y), .slice (some ⟨g, 0, none⟩) P cp] 26 (0, 0)) w.heap.size (by omega)).trans HB3.out
  have hs4 : w3.heap.size < (w3.alloc (.cells #[.int .i64 R, .int .i64 (1 + y), .slice (some ⟨g, 0, none⟩) P cp] 26 (0, 0))).heap.size := by simp
  generalize w3.alloc (.cells #[.int .i64 R, .int .i64 (1 + y), .slice (some ⟨g, 0, none⟩) P cp] 26 (0, 0)) = w4 at hk ht hr hb hs4 ⊢
  have T4 := Lib.hid ht
  have BX4 := Lib.hid hk
  have HR4 := Lib.hid hr
  have RB4 := Lib.hid hb
  clear hk ht hr hb
  refine (l1Below_e B _ C 16 (by omega) T4.out.cu).mono ?_
  rintro e w5 ⟨k, rfl, ⟨k0, k1⟩, ht5⟩
  have hs5 := ht5.size
  have BX5 := Lib.hid ((ht5.block hs4 (by omega)).trans BX4.out)
  have RB5 := Lib.hid ((ht5.block (by omega) (by omega)).trans RB4.out)
  have HR5 := Lib.hid (HR4.out.turned (by omega) ht5)
  have T5 := Lib.hid (T4.out.trans ht5)
  clear ht5
  by_cases e0 : k = 0
  · subst e0
    go_wp2_with fail
    have hsa : w5.heap.size < (w5.alloc (.cells #[.int .i64 0, .int .i64 7, .int .i64 ((R : Int) + 1)] 3 (0, 0))).heap.size := by simp
    have hTa := T5.out.alloc (.cells #[.int .i64 0, .int .i64 7, .int .i64 ((R : Int) + 1)] 3 (0, 0))
    have hBa := (Below.heap_alloc w5 (.cells #[.int .i64 0, .int .i64 7, .int .i64 ((R : Int) + 1)] 3 (0, 0)) w3.heap.size (by omega)).trans BX5.out
    have hRa := (Below.heap_alloc w5 (.cells #[.int .i64 0, .int .i64 7, .int .i64 ((R : Int) + 1)] 3 (0, 0)) w.heap.size (by omega)).trans RB5.out
    have hra := HR5.out.below ((Below.refl w5.heap.size w5).alloc (Nat.le_refl _) (.cells #[.int .i64 0, .int .i64 7, .int .i64 ((R : Int) + 1)] 3 (0, 0)))
    refine (l1PickInt_e B _ C w5.heap.size 3 [0, 7, (R : Int) + 1] (fun _ => True) rfl (by omega) (by omega) (fun _ _ => trivial) hTa.cu (by omega) (fun j hj => ints_cells w5 [0, 7, (R : Int) + 1] _ j hj)).mono ?_
    rintro e w6 ⟨RR, rfl, -, ht6⟩
    have hs6 := ht6.size
    have hbx := (ht6.block (by omega) (by omega)).trans hBa
    have hrb := (ht6.block (by omega) (by omega)).trans hRa
    have hr6 := hra.turned (by omega) ht6
    have T6 := Lib.hid (hTa.trans ht6)
    clear hTa hBa hRa hra ht6
    obtain ⟨⟨d0, d1, d2⟩, f0, f1, f2⟩ := cells3 hbx
    obtain ⟨⟨p0, p1, p2⟩, q0, q1, q2⟩ := cells3 hrb
    have RB : Hid ((w6.setCell ⟨w3.heap.size, 0, none⟩ (.int .i64 RR)).heap[w.heap.size]? = some (.cells #[.int .i64 0, .int .i64 0, .slice none 0 0] 26 (0, 0))) := Lib.hid ((heap_setCell_other _ _ _ _ (by show w.heap.size ≠ w3.heap.size; omega)).trans hrb)
    have HRF := Lib.hid (hr6.kept (grownBy_setCell w6 ⟨w3.heap.size, 0, none⟩ (.int .i64 RR)) (.inr (fun e => by have := Option.some.inj e; simp at this; omega)))
    have TF := Lib.hid (T6.out.setCell hlt ⟨w3.heap.size, 0, none⟩ (.int .i64 RR) (by show w.heap.size ≤ w3.heap.size; omega))
    clear hbx hrb hr6
    go_wp2_with fail
    refine bodyPost_ret (results_cell_row rfl _ _ w.heap.size 26 #[.int .i64 RR, .int .i64 (1 + y), .slice (some ⟨g, 0, none⟩) P cp] (0, 0) _ rfl ?_ Tryd.underlying26 rfl (by kernel_rfl)) rfl ?_
    · exact store3 RB.out _ _ _
    refine ⟨_, _, _, _, rfl, ?_, (((HRF.out.setBelow (by show w.heap.size < _; omega) _).setBelow (by show w.heap.size < _; omega) _).setBelow (by show w.heap.size < _; omega) _).le (by omega), ((TF.out.setCell hlt _ _ (Nat.le_refl _)).setCell hlt _ _ (Nat.le_refl _)).setCell hlt _ _ (Nat.le_refl _)⟩
    rw [LEN.out]; exact hP9
  · have t0 : (k == 0) = false := by simpa using e0
    by_cases e1 : k = 1
    · subst e1
      have hdr : Below w5.heap.size w5 w5.drew := (Below.refl _ _).drew
      have hcd : Cu B w5.drew C := T5.out.cu.below hdr
      have htd : Turned B w w5.drew C := T5.out.then hdr
      have hbd : w5.drew.heap[w3.heap.size]? = some (.cells #[.int .i64 R, .int .i64 (1 + y), .slice (some ⟨g, 0, none⟩) P cp] 26 (0, 0)) := BX5.out
      have hrd : w5.drew.heap[w.heap.size]? = some (.cells #[.int .i64 0, .int .i64 0, .slice none 0 0] 26 (0, 0)) := RB5.out
      have hrr : Row w2.heap.size w5.drew (.slice (some ⟨g, 0, none⟩) P cp) xs := HR5.out.below hdr
      have hsd : w5.heap.size ≤ w5.drew.heap.size := hdr.size
      have CD := Lib.hid hcd
      have TD := Lib.hid htd
      have BD := Lib.hid hbd
      have RD := Lib.hid hrd
      have RRD := Lib.hid hrr
      obtain ⟨⟨d0, d1, d2⟩, -⟩ := cells3 BX5.out
      clear hdr hcd htd hbd hrd hrr
      have hne1 : ¬ g = w3.heap.size := by omega
      have hne2 : ¬ w3.heap.size = g := by omega
      have hne3 : ¬ g = w.heap.size := by omega
      have hne4 : ¬ w.heap.size = g := by omega
      have hP0 : (0 : Int) < (P : Int) := by omega
      have hPn : 0 < P := by omega
      have hPz : ¬ P = 0 := by omega
      have hPl : ¬ P ≤ 0 := by omega
      go_wp2_with fail
      go_region_law (go_simp; go_at_call 50; (refine (l2Raw_e B _ C CD.out).mono ?_); rintro e w6 ⟨z, rfl, -, ht6⟩; have hs6 := ht6.size; have hbx := (ht6.block (by omega) (by omega)).trans BD.out; have hrb := (ht6.block (by omega) (by omega)).trans RD.out; have hr6 := RRD.out.turned (by omega) ht6; have T6 := Lib.hid (TD.out.trans ht6); obtain ⟨⟨d0', d1', d2'⟩, f0, f1, f2⟩ := cells3 hbx; obtain ⟨⟨p0, p1, p2⟩, q0, q1, q2⟩ := cells3 hrb; have BX6 := Lib.hid hbx; have RB6 := Lib.hid hrb; have HR6 := Lib.hid hr6; have hown : w6.ownsRow w2.heap.size 3 1 (.slice (some ⟨g, 0, none⟩) P cp) P (icells xs) := (by have := hr6; unfold Row at this; rw [LEN.out] at this; exact this); have hfr := World.ownsRow.frozenAt hown 0; obtain ⟨u, hu⟩ : ∃ u, w6.cell? ⟨g, 0, none⟩ = some u := (by rw [World.ownsRow.cellAt hown 0 (by omega)]; exact ⟨_, List.getElem?_eq_getElem (by rw [icells_length, LEN.out]; omega)⟩); have ST := Lib.hid (World.ownsRow.stored hown 0 (.int .i64 z)).1; clear hbx hrb hr6 hown ht6)
      all_goals
        have RB : Hid ((w6.setCell ⟨g, 0, none⟩ (.int .i64 z)).heap[w.heap.size]? = some (.cells #[.int .i64 0, .int .i64 0, .slice none 0 0] 26 (0, 0))) := Lib.hid ((heap_setCell_other _ _ _ _ (by show w.heap.size ≠ g; omega)).trans RB6.out)
        have TF := Lib.hid (T6.out.setCell hlt ⟨g, 0, none⟩ (.int .i64 z) (by show w.heap.size ≤ g; omega))
        have HRF : Hid (Row w2.heap.size (w6.setCell ⟨g, 0, none⟩ (.int .i64 z)) (.slice (some ⟨g, 0, none⟩) P cp) (xs.set 0 z)) := by
          have h1 := ST.out
          rw [icells_set] at h1
          show Row _ _ _ _
          unfold Row
          rw [List.length_set, LEN.out]
          exact h1
        go_wp2_with fail
        refine bodyPost_ret (results_cell_row rfl _ _ w.heap.size 26 #[.int .i64 R, .int .i64 (1 + y), .slice (some ⟨g, 0, none⟩) P cp] (0, 0) _ rfl ?_ Tryd.underlying26 rfl (by kernel_rfl)) rfl ?_
        · exact store3 RB.out _ _ _
        refine ⟨_, _, _, _, rfl, ?_, (((HRF.out.setBelow (by show w.heap.size < _; omega) _).setBelow (by show w.heap.size < _; omega) _).setBelow (by show w.heap.size < _; omega) _).le (by omega), ((TF.out.setCell hlt _ _ (Nat.le_refl _)).setCell hlt _ _ (Nat.le_refl _)).setCell hlt _ _ (Nat.le_refl _)⟩
        rw [List.length_set, LEN.out]; exact hP9
    · have t1 : (k == 1) = false := by simpa using e1
      obtain ⟨⟨d0, d1, d2⟩, -⟩ := cells3 BX5.out
      obtain ⟨⟨p0, p1, p2⟩, q0, q1, q2⟩ := cells3 RB5.out
      have RB := Lib.hid RB5.out
      have HRF := Lib.hid HR5.out
      have TF := Lib.hid T5.out
      go_wp2_with fail
      refine bodyPost_ret (results_cell_row rfl _ _ w.heap.size 26 #[.int .i64 R, .int .i64 (1 + y), .slice (some ⟨g, 0, none⟩) P cp] (0, 0) _ rfl ?_ Tryd.underlying26 rfl (by kernel_rfl)) rfl ?_
      · exact store3 RB.out _ _ _
      refine ⟨_, _, _, _, rfl, ?_, (((HRF.out.setBelow (by show w.heap.size < _; omega) _).setBelow (by show w.heap.size < _; omega) _).setBelow (by show w.heap.size < _; omega) _).le (by omega), ((TF.out.setCell hlt _ _ (Nat.le_refl _)).setCell hlt _ _ (Nat.le_refl _)).setCell hlt _ _ (Nat.le_refl _)⟩
      rw [LEN.out]; exact hP9

theorem l3Vec_i (B : Nat) (w : World) (C : Nat) (n : Int) (h0 : 0 ≤ n) (h1 : n ≤ 6) (hc : Cu B w C) :
    Calls Tryd.prog 33 #[.pointer (some ⟨C, 0, none⟩), .int .i64 n] w (DrewV (fun xs => (xs.length : Int) ≤ 6) B w C) := by
  obtain ⟨m, rfl⟩ : ∃ m : Nat, n = m := ⟨n.toNat, by omega⟩
  exact (l3Vec_e B w C m (by omega) hc).mono fun e w' ⟨v, xs, he, hl, hr, ht⟩ => ⟨v, xs, he, by show (xs.length : Int) ≤ 6; omega, hr, ht⟩
/-- Two rows of any kind. -/
theorem drawOuter_e (w : World) (a : Option Addr) (cap : Nat) (bs : List UInt8) (hc : CodeIn w.heap.size w a bs) :
    Calls Tryd.prog 15 #[.slice a bs.length cap] w fun e w' => ∃ v xs u ys, e = .returned (.tuple #[v, u]) ∧ (xs.length ≤ 7 ∧ ys.length ≤ 7) ∧ Row w.heap.size w' v xs ∧ Row w.heap.size w' u ys ∧ Below w.heap.size w w' := by
  have HC := Lib.hid hc
  clear hc
  go_enter Tryd.func15, Tryd.ntmps15
  go_wp2_with fail
  refine (l1New_e _ a cap bs HC.out).mono ?_
  rintro e w1 ⟨rfl, hcu, hg1⟩
  have hs1 := hg1.size
  have hlt := hcu.lt
  go_wp2_with fail
  refine (l3Any_e _ _ _ hcu).mono ?_
  rintro e w2 ⟨v, xs, rfl, hxl, hr1, ht2⟩
  have hs2 := ht2.size
  go_wp2_with fail
  refine (l3Any_e _ _ _ ht2.cu).mono ?_
  rintro e w3 ⟨u, ys, rfl, hyl, hr2, ht3⟩
  go_wp2_with fail
  go_ret2
  exact ⟨v, xs, u, ys, rfl, ⟨hxl, hyl⟩, (hr1.turned (by omega) ht3).le hs1, hr2.le (by omega), ((Below.refl _ _).grown hg1 (Nat.le_refl _) (fun k h => by cases h)).trans ((ht2.trans ht3).below hs1 (Nat.le_refl _))⟩

/-- A table and a row were drawn. -/
def DrewMB (w : World) (e : Ending) (w' : World) : Prop := ∃ r c v xs u ys, e = .returned (.tuple #[.agg #[.int .i64 r, .int .i64 c, v], u]) ∧ (xs.length ≤ 9 ∧ ys.length ≤ 7) ∧ Row w.heap.size w' v xs ∧ Row w.heap.size w' u ys ∧ Below w.heap.size w w'
set_option maxRecDepth 100000 in
set_option maxHeartbeats 1600000 in
theorem drawMatBack_e (w : World) (a : Option Addr) (cap : Nat) (bs : List UInt8) (hc : CodeIn w.heap.size w a bs) :
    Calls Tryd.prog 8 #[.slice a bs.length cap] w (DrewMB w) := by
  have hal : Below w.heap.size w (w.alloc (.cells #[.int .i64 0, .int .i64 0, .slice none 0 0] 26 (0, 0))) := (Below.refl _ _).alloc (Nat.le_refl _) _
  have HC := Lib.hid ((hc.below hal).le hal.size)
  have hb0 := heap_alloc_new w (.cells #[.int .i64 0, .int .i64 0, .slice none 0 0] 26 (0, 0))
  have hs0 : w.heap.size < (w.alloc (.cells #[.int .i64 0, .int .i64 0, .slice none 0 0] 26 (0, 0))).heap.size := by simp
  have HA := Lib.hid hal
  have HB0 := Lib.hid hb0
  clear hc hal hb0
  go_enter Tryd.func8, Tryd.ntmps8
  go_wp2_with fail
  generalize w.alloc (.cells #[.int .i64 0, .int .i64 0, .slice none 0 0] 26 (0, 0)) = wa at HC HA HB0 hs0 ⊢
  refine (l1New_e _ a cap bs HC.out).mono ?_
  rintro e w1 ⟨rfl, hcu, hg1⟩
  have hs1 := hg1.size
  have hlt := hcu.lt
  have HB1 := Lib.hid ((hg1.block w.heap.size hs0 (fun e => by cases e)).trans HB0.out)
  have HT1 := Lib.hid (HA.out.trans (((Below.refl wa.heap.size wa).grown hg1 (Nat.le_refl _) (fun k h => by cases h)).mono (by omega : w.heap.size ≤ wa.heap.size)))
  clear hg1
  go_wp2_with fail
  refine (l4Mat_e _ _ _ hcu).mono ?_
  rintro e w2 ⟨r, c, v, xs, rfl, hxl, hr1, ht2⟩
  have hs2 := ht2.size
  obtain ⟨nx, hnx⟩ : ∃ nx, xs.length = nx := ⟨_, rfl⟩
  rw [hnx] at hxl
  obtain ⟨a1, cp1, rfl, hcp1, -⟩ := hr1.form2 (Lib.hid hnx) (by omega)
  have HB2 := Lib.hid ((ht2.block (by omega) (by omega)).trans HB1.out)
  have HT2 := Lib.hid ht2
  have HR2 := Lib.hid hr1
  have LX := Lib.hid hnx
  clear ht2 hr1 hnx
  go_wp2_with fail
  have hk := heap_alloc_new w2 (.cells #[.int .i64 r, .int .i64 c, .slice a1 nx cp1] 26 (0, 0))
  have ht := HT2.out.alloc (.cells #[.int .i64 r, .int .i64 c, .slice a1 nx cp1] 26 (0, 0))
  have hr := HR2.out.below ((Below.refl w2.heap.size w2).alloc (Nat.le_refl _) (.cells #[.int .i64 r, .int .i64 c, .slice a1 nx cp1] 26 (0, 0)))
  have hb := (Below.heap_alloc w2 (.cells #[.int .i64 r, .int .i64 c, .slice a1 nx cp1] 26 (0, 0)) w.heap.size (by omega)).trans HB2.out
  have hs4 : w2.heap.size < (w2.alloc (.cells #[.int .i64 r, .int .i64 c, .slice a1 nx cp1] 26 (0, 0))).heap.size := by simp
  generalize w2.alloc (.cells #[.int .i64 r, .int .i64 c, .slice a1 nx cp1] 26 (0, 0)) = w3 at hk ht hr hb hs4 ⊢
  refine (l1Once_e _ _ _ 8 ht.cu).mono ?_
  rintro e w4 ⟨o, rfl, ht4⟩
  have hs5 := ht4.size
  have BX4 := Lib.hid ((ht4.block hs4 (by omega)).trans hk)
  have RB4 := Lib.hid ((ht4.block (by omega) (by omega)).trans hb)
  have HR4 := Lib.hid (hr.turned (by omega) ht4)
  have T4 := Lib.hid (ht.trans ht4)
  clear hk ht hr hb ht4
  obtain ⟨⟨d0, d1, d2⟩, -⟩ := cells3 BX4.out
  have hdr : Below w4.heap.size w4 w4.drew := (Below.refl _ _).drew
  have CD := Lib.hid (T4.out.cu.below hdr)
  have TD := Lib.hid (T4.out.then hdr)
  have BD : Hid (w4.drew.heap[w2.heap.size]? = some (.cells #[.int .i64 r, .int .i64 c, .slice a1 nx cp1] 26 (0, 0))) := Lib.hid BX4.out
  have RD : Hid (w4.drew.heap[w.heap.size]? = some (.cells #[.int .i64 0, .int .i64 0, .slice none 0 0] 26 (0, 0))) := Lib.hid RB4.out
  have RRD : Hid (Row w1.heap.size w4.drew (.slice a1 nx cp1) xs) := Lib.hid (HR4.out.below hdr)
  have hsd : w4.heap.size ≤ w4.drew.heap.size := hdr.size
  clear hdr
  cases o
  · go_wp2_with fail
    by_cases h6 : 6 < r
    · go_region_law (go_simp; go_at_call 33; (with_reducible refine (l3Vec_i _ _ _ 6 (by omega) (by omega) CD.out).mono ?_); rintro e w6 ⟨u, ys, rfl, hyl, hr6, ht6⟩; obtain ⟨a2, cp2, rfl, -⟩ := hr6.form; have hs6 := ht6.size; have hbx := (ht6.block (by omega) (by omega)).trans BD.out; have hrb := (ht6.block (by omega) (by omega)).trans RD.out; have hr7 := RRD.out.turned (by omega) ht6; have T6 := Lib.hid (TD.out.trans ht6); obtain ⟨⟨d0', d1', d2'⟩, f0, f1, f2⟩ := cells3 hbx; obtain ⟨⟨p0, p1, p2⟩, q0, q1, q2⟩ := cells3 hrb; have BX6 := Lib.hid hbx; have RB6 := Lib.hid hrb; have HR6 := Lib.hid hr7; have HU := Lib.hid hr6; have LY : Hid (ys.length ≤ 7) := Lib.hid (by have := hyl; omega); clear hbx hrb hr6 hr7 ht6 hyl)
      all_goals
        go_wp2_with fail
        refine bodyPost_ret (results_row_tmp rfl _ _ w.heap.size 26 #[.int .i64 r, .int .i64 c, .slice a1 nx cp1] (0, 0) _ rfl ?_ Tryd.underlying26 rfl (by kernel_rfl)) rfl ?_
        · exact store3 RB6.out _ _ _
        exact ⟨r, c, .slice a1 nx cp1, xs, .slice a2 ys.length cp2, ys, rfl, ⟨by rw [LX.out]; exact hxl, LY.out⟩, (((HR6.out.setBelow (by show w.heap.size < _; omega) _).setBelow (by show w.heap.size < _; omega) _).setBelow (by show w.heap.size < _; omega) _).le (by omega), (((HU.out.setBelow (by show w.heap.size < _; omega) _).setBelow (by show w.heap.size < _; omega) _).setBelow (by show w.heap.size < _; omega) _).le (by omega),
          (((HT1.out.trans (T6.out.below (by omega) (by omega))).setCell (Nat.le_refl _) _).setCell (Nat.le_refl _) _).setCell (Nat.le_refl _) _⟩
    · by_cases h0 : 0 < r
      · go_region_law (go_simp; go_at_call 33; (with_reducible refine (l3Vec_i _ _ _ r (by omega) (by omega) CD.out).mono ?_); rintro e w6 ⟨u, ys, rfl, hyl, hr6, ht6⟩; obtain ⟨a2, cp2, rfl, -⟩ := hr6.form; have hs6 := ht6.size; have hbx := (ht6.block (by omega) (by omega)).trans BD.out; have hrb := (ht6.block (by omega) (by omega)).trans RD.out; have hr7 := RRD.out.turned (by omega) ht6; have T6 := Lib.hid (TD.out.trans ht6); obtain ⟨⟨d0', d1', d2'⟩, f0, f1, f2⟩ := cells3 hbx; obtain ⟨⟨p0, p1, p2⟩, q0, q1, q2⟩ := cells3 hrb; have BX6 := Lib.hid hbx; have RB6 := Lib.hid hrb; have HR6 := Lib.hid hr7; have HU := Lib.hid hr6; have LY : Hid (ys.length ≤ 7) := Lib.hid (by have := hyl; omega); clear hbx hrb hr6 hr7 ht6 hyl)
        all_goals
          go_wp2_with fail
          refine bodyPost_ret (results_row_tmp rfl _ _ w.heap.size 26 #[.int .i64 r, .int .i64 c, .slice a1 nx cp1] (0, 0) _ rfl ?_ Tryd.underlying26 rfl (by kernel_rfl)) rfl ?_
          · exact store3 RB6.out _ _ _
          exact ⟨r, c, .slice a1 nx cp1, xs, .slice a2 ys.length cp2, ys, rfl, ⟨by rw [LX.out]; exact hxl, LY.out⟩, (((HR6.out.setBelow (by show w.heap.size < _; omega) _).setBelow (by show w.heap.size < _; omega) _).setBelow (by show w.heap.size < _; omega) _).le (by omega), (((HU.out.setBelow (by show w.heap.size < _; omega) _).setBelow (by show w.heap.size < _; omega) _).setBelow (by show w.heap.size < _; omega) _).le (by omega),
            (((HT1.out.trans (T6.out.below (by omega) (by omega))).setCell (Nat.le_refl _) _).setCell (Nat.le_refl _) _).setCell (Nat.le_refl _) _⟩
      · go_region_law (go_simp; go_at_call 33; (with_reducible refine (l3Vec_i _ _ _ 0 (by omega) (by omega) CD.out).mono ?_); rintro e w6 ⟨u, ys, rfl, hyl, hr6, ht6⟩; obtain ⟨a2, cp2, rfl, -⟩ := hr6.form; have hs6 := ht6.size; have hbx := (ht6.block (by omega) (by omega)).trans BD.out; have hrb := (ht6.block (by omega) (by omega)).trans RD.out; have hr7 := RRD.out.turned (by omega) ht6; have T6 := Lib.hid (TD.out.trans ht6); obtain ⟨⟨d0', d1', d2'⟩, f0, f1, f2⟩ := cells3 hbx; obtain ⟨⟨p0, p1, p2⟩, q0, q1, q2⟩ := cells3 hrb; have BX6 := Lib.hid hbx; have RB6 := Lib.hid hrb; have HR6 := Lib.hid hr7; have HU := Lib.hid hr6; have LY : Hid (ys.length ≤ 7) := Lib.hid (by have := hyl; omega); clear hbx hrb hr6 hr7 ht6 hyl)
        all_goals
          go_wp2_with fail
          refine bodyPost_ret (results_row_tmp rfl _ _ w.heap.size 26 #[.int .i64 r, .int .i64 c, .slice a1 nx cp1] (0, 0) _ rfl ?_ Tryd.underlying26 rfl (by kernel_rfl)) rfl ?_
          · exact store3 RB6.out _ _ _
          exact ⟨r, c, .slice a1 nx cp1, xs, .slice a2 ys.length cp2, ys, rfl, ⟨by rw [LX.out]; exact hxl, LY.out⟩, (((HR6.out.setBelow (by show w.heap.size < _; omega) _).setBelow (by show w.heap.size < _; omega) _).setBelow (by show w.heap.size < _; omega) _).le (by omega), (((HU.out.setBelow (by show w.heap.size < _; omega) _).setBelow (by show w.heap.size < _; omega) _).setBelow (by show w.heap.size < _; omega) _).le (by omega),
            (((HT1.out.trans (T6.out.below (by omega) (by omega))).setCell (Nat.le_refl _) _).setCell (Nat.le_refl _) _).setCell (Nat.le_refl _) _⟩
  · go_wp2_with fail
    go_region_law (go_simp; go_at_call 32; (refine (l3Any_e _ _ _ CD.out).mono ?_); rintro e w6 ⟨u, ys, rfl, hyl, hr6, ht6⟩; obtain ⟨a2, cp2, rfl, -⟩ := hr6.form; have hs6 := ht6.size; have hbx := (ht6.block (by omega) (by omega)).trans BD.out; have hrb := (ht6.block (by omega) (by omega)).trans RD.out; have hr7 := RRD.out.turned (by omega) ht6; have T6 := Lib.hid (TD.out.trans ht6); obtain ⟨⟨d0', d1', d2'⟩, f0, f1, f2⟩ := cells3 hbx; obtain ⟨⟨p0, p1, p2⟩, q0, q1, q2⟩ := cells3 hrb; have BX6 := Lib.hid hbx; have RB6 := Lib.hid hrb; have HR6 := Lib.hid hr7; have HU := Lib.hid hr6; have LY := Lib.hid hyl; clear hbx hrb hr6 hr7 ht6 hyl)
    all_goals
      go_wp2_with fail
      refine bodyPost_ret (results_row_tmp rfl _ _ w.heap.size 26 #[.int .i64 r, .int .i64 c, .slice a1 nx cp1] (0, 0) _ rfl ?_ Tryd.underlying26 rfl (by kernel_rfl)) rfl ?_
      · exact store3 RB6.out _ _ _
      exact ⟨r, c, .slice a1 nx cp1, xs, .slice a2 ys.length cp2, ys, rfl, ⟨by rw [LX.out]; exact hxl, LY.out⟩, (((HR6.out.setBelow (by show w.heap.size < _; omega) _).setBelow (by show w.heap.size < _; omega) _).setBelow (by show w.heap.size < _; omega) _).le (by omega), (((HU.out.setBelow (by show w.heap.size < _; omega) _).setBelow (by show w.heap.size < _; omega) _).setBelow (by show w.heap.size < _; omega) _).le (by omega),
        (((HT1.out.trans (T6.out.below (by omega) (by omega))).setCell (Nat.le_refl _) _).setCell (Nat.le_refl _) _).setCell (Nat.le_refl _) _⟩
end Go.Proofs.YtdmkbmpgcpggdaaDoor
