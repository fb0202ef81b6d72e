import Derived.Test.YtkmcfbopilieeaaJoin16
import Derived.Test.YtkmcfbopilieeaaJoin20
import Derived.Test.YtkmcfbopilieeaaJoin9
import Derived.Deep.MidRow
import Derived.Deep.Slices
import Derived.ChangeArms
/-! YtkmcfbopilieeaaDrawOp -/
section

namespace Go.Proofs.Ytkmcfbopilieeaa
open Go.RowKit
set_option linter.unusedVariables false

/-- An operation was drawn. -/
def DrewO (lo m : Int) (L : Nat) (B : Nat) (w : World) (C : Nat) (e : Ending) (w' : World) : Prop := ∃ k i o v ps, e = .returned (.agg #[.int .i64 k, .int .i64 i, .int .i64 o, v]) ∧ ((-1 ≤ k ∧ k ≤ 7) ∧ (lo ≤ i ∧ i ≤ m) ∧ (lo ≤ o ∧ o ≤ m) ∧ ps.length ≤ L) ∧ Row w.heap.size w' v ps ∧ Turned B w w' C
theorem intsIn_none (B : Nat) (w : World) : IntsIn B w none 0 [] := ⟨rfl, by omega, fun j hj => by omega⟩
theorem Row.setOther {base : Nat} {w : World} {v : Value} {zs : List Int} (h : Row base w v zs) (a : Addr) (u : Value) (hne : ∀ k, v.ownBlock = some k → k ≠ a.block) : Row base (w.setCell a u) v zs :=
  h.kept (grownBy_setCell w a u) (by
    cases hv : v.ownBlock with
    | none => exact .inl rfl
    | some k => exact .inr fun e => hne k hv (Option.some.inj e))
/-- A row lies in no block of another type. -/
theorem Row.apart {base : Nat} {w : World} {v : Value} {xs : List Int} (h : Row base w v xs) {b : Nat} {cs : Array Value} {t : TypeId} {fz : Nat × Nat} (hb : w.heap[b]? = some (.cells cs t fz)) (ht : t ≠ 3) : ∀ k, v.ownBlock = some k → k ≠ b := by
  intro k hk e
  rcases h.2 with ⟨rfl, _⟩ | ⟨g, cap, cur, rfl, _, hg, _⟩
  · cases hk
  · cases hk
    subst e
    rw [hg] at hb
    cases hb
    exact ht rfl
theorem opSz_bound (k i o : Int) : 0 ≤ opSz k i o ∧ opSz k i o ≤ 36 := by
  unfold opSz
  split
  · rename_i h
    simp only [Bool.and_eq_true] at h
    have hp := prod36 h.1 h.2
    have hi := inB_has h.1
    split
    · omega
    · split
      · omega
      · split <;> omega
  · omega

set_option maxRecDepth 100000 in
set_option maxHeartbeats 500000 in
theorem l5Op_e (B : Nat) (w : World) (C : Nat) (i : Int) (hi0 : 1 ≤ i) (hi1 : i ≤ 3) (hc : Cu B w C) :
    Calls Try.prog 77 #[.pointer (some ⟨C, 0, none⟩), .int .i64 i] w (DrewO 1 3 36 B w C) := by
  have HC := Lib.hid hc
  have hlt := hc.lt
  have T0 := Lib.hid ((Turned.refl hc).alloc (.cells #[.int .i64 0, .int .i64 0, .int .i64 0, .slice none 0 0] 48 (0, 0)))
  have hb0 := heap_alloc_new w (.cells #[.int .i64 0, .int .i64 0, .int .i64 0, .slice none 0 0] 48 (0, 0))
  have hs0 : w.heap.size < (w.alloc (.cells #[.int .i64 0, .int .i64 0, .int .i64 0, .slice none 0 0] 48 (0, 0))).heap.size := by simp
  have HB0 := Lib.hid hb0
  clear hc hb0
  go_enter Try.func77, Try.ntmps77
  go_wp2_with fail
  generalize w.alloc (.cells #[.int .i64 0, .int .i64 0, .int .i64 0, .slice none 0 0] 48 (0, 0)) = wa at HB0 T0 hs0 ⊢
  refine (l1Below_e B _ C 5 (by omega) T0.out.cu).mono ?_
  rintro e w1 ⟨x, rfl, ⟨x0, x1⟩, ht1⟩
  have RB1 := Lib.hid ((ht1.block hs0 (by omega)).trans HB0.out)
  have T1 := Lib.hid (T0.out.trans ht1)
  have hs1 := ht1.size
  clear ht1
  obtain ⟨K, hK⟩ : ∃ K : Int, 1 + x = K := ⟨_, rfl⟩
  have hK0 : 1 ≤ K := by omega
  have hK5 : K ≤ 5 := by omega
  go_upto_region 2 with fail
  clear hK x0 x1
  have hk := heap_alloc_new w1 (.cells #[.int .i64 K, .int .i64 i, .int .i64 i, .slice none 0 0] 48 (0, 0))
  have ht := T1.out.alloc (.cells #[.int .i64 K, .int .i64 i, .int .i64 i, .slice none 0 0] 48 (0, 0))
  have hr := (Below.heap_alloc w1 (.cells #[.int .i64 K, .int .i64 i, .int .i64 i, .slice none 0 0] 48 (0, 0)) w.heap.size (by omega)).trans RB1.out
  have hs2 : w1.heap.size < (w1.alloc (.cells #[.int .i64 K, .int .i64 i, .int .i64 i, .slice none 0 0] 48 (0, 0))).heap.size := by simp
  generalize w1.alloc (.cells #[.int .i64 K, .int .i64 i, .int .i64 i, .slice none 0 0] 48 (0, 0)) = w2 at hk ht hr hs2 ⊢
  have BX2 := Lib.hid hk
  have TT2 := Lib.hid ht
  have RB2 := Lib.hid hr
  clear hk ht hr
  by_cases k1 : K = 1
  · subst k1
    obtain ⟨⟨d0, d1, d2, d3⟩, -⟩ := cells4 BX2.out
    go_wp2_with fail
    clear d0 d1 d2 d3
    refine (l1Below_e B _ C 3 (by omega) TT2.out.cu).mono ?_
    rintro e w20 ⟨y, rfl, ⟨y0, y1⟩, ht2⟩
    have hs20 := ht2.size
    have hbx := (ht2.block (by omega) (by omega)).trans BX2.out
    have hrb := (ht2.block (by omega) (by omega)).trans RB2.out
    have ht20 := TT2.out.trans ht2
    obtain ⟨O, hO⟩ : ∃ O : Int, 1 + y = O := ⟨_, rfl⟩
    have hO0 : 1 ≤ O := by omega
    have hO3 : O ≤ 3 := by omega
    obtain ⟨⟨d0, d1, d2, d3⟩, f0, f1, f2, f3⟩ := cells4 hbx
    go_upto_region 4 with fail
    clear hO y0 y1 ht2
    clear d0 d1 d2 d3 f0 f1 f2 f3
    have hb22 : (w20.setCell ⟨w1.heap.size, 2, none⟩ (.int .i64 O)).heap[w1.heap.size]? = some (.cells #[.int .i64 1, .int .i64 i, .int .i64 O, .slice none 0 0] 48 (0, 0)) := heap_setCell_same w20 w1.heap.size 2 _ _ _ hbx
    have hr22 := (heap_setCell_other w20 ⟨w1.heap.size, 2, none⟩ w.heap.size (.int .i64 O) (by show w.heap.size ≠ w1.heap.size; omega)).trans hrb
    have ht22 := ht20.setCell hlt ⟨w1.heap.size, 2, none⟩ (.int .i64 O) (by show w.heap.size ≤ w1.heap.size; omega)
    have hs22 : w20.heap.size ≤ (w20.setCell ⟨w1.heap.size, 2, none⟩ (.int .i64 O)).heap.size := by simp
    generalize w20.setCell ⟨w1.heap.size, 2, none⟩ (.int .i64 O) = w22 at hb22 hr22 ht22 hs22 ⊢
    have BX := Lib.hid hb22
    have RB := Lib.hid hr22
    have TT := Lib.hid ht22
    clear hb22 hr22 ht22 hbx hrb ht20
    obtain ⟨⟨d0, d1, d2, d3⟩, -⟩ := cells4 BX.out
    go_wp2_with fail
    refine (specOpSize_any w22 1 i O none 0 0 [] (intsIn_none _ _)).mono ?_
    rintro e w3 ⟨rfl, hb3⟩
    have hs3 := hb3.size
    have BX3 := Lib.hid ((hb3.block w1.heap.size (by omega)).trans BX.out)
    have RB3 := Lib.hid ((hb3.block w.heap.size (by omega)).trans RB.out)
    have T3 := Lib.hid (TT.out.then hb3)
    clear hb3 d0 d1 d2 d3
    obtain ⟨N, hN⟩ : ∃ N : Nat, opSz 1 i O = N := ⟨(opSz 1 i O).toNat, by have := opSz_bound 1 i O; omega⟩
    have hN36 : N ≤ 36 := by have := opSz_bound 1 i O; omega
    rw [hN]
    clear hN
    go_wp2_with fail
    refine (l3Vec_e B _ C N (by omega) T3.out.cu).mono ?_
    rintro e w4 ⟨v, ps, rfl, hpl, hrow, ht4⟩
    have hs4 := ht4.size
    have hbx := (ht4.block (by omega) (by omega)).trans BX3.out
    have hrb := (ht4.block (by omega) (by omega)).trans RB3.out
    obtain ⟨a5, c5, rfl, -⟩ := hrow.form
    rw [hpl] at hrow ⊢
    have LEN := Lib.hid hpl
    clear hpl
    obtain ⟨⟨d0, d1, d2, d3⟩, f0, f1, f2, f3⟩ := cells4 hbx
    obtain ⟨⟨p0, p1, p2, p3⟩, q0, q1, q2, q3⟩ := cells4 hrb
    have RBF := Lib.hid ((heap_setCell_other w4 ⟨w1.heap.size, 3, none⟩ w.heap.size (.slice a5 N c5) (by show w.heap.size ≠ w1.heap.size; omega)).trans hrb)
    have T4 := Lib.hid (T3.out.trans ht4)
    have TF := Lib.hid (T4.out.setCell hlt ⟨w1.heap.size, 3, none⟩ (.slice a5 N c5) (by show w.heap.size ≤ w1.heap.size; omega))
    have HRF := Lib.hid (hrow.setBelow (a := ⟨w1.heap.size, 3, none⟩) (by show w1.heap.size < w3.heap.size; omega) (.slice a5 N c5))
    clear ht4 hbx hrb hrow
    go_wp2_with fail
    refine bodyPost_ret (results_cell_row rfl _ _ w.heap.size 48 #[.int .i64 1, .int .i64 i, .int .i64 O, .slice a5 N c5] (0, 0) _ rfl ?_ Try.underlying48 rfl (by kernel_rfl)) rfl ?_
    · exact store4 RBF.out _ _ _ _
    exact ⟨_, _, _, _, _, rfl, ⟨by omega, by omega, by omega, by rw [LEN.out]; omega⟩, ((((HRF.out.setBelow (by show w.heap.size < _; omega) _).setBelow (by show w.heap.size < _; omega) _).setBelow (by show w.heap.size < _; omega) _).setBelow (by show w.heap.size < _; omega) _).le (by omega), (((TF.out.setCell hlt _ _ (Nat.le_refl _)).setCell hlt _ _ (Nat.le_refl _)).setCell hlt _ _ (Nat.le_refl _)).setCell hlt _ _ (Nat.le_refl _)⟩
  · have kb : (K == 1) = false := by simpa using k1
    obtain ⟨⟨d0, d1, d2, d3⟩, -⟩ := cells4 BX2.out
    go_upto_region 4 with fail
    clear d0 d1 d2 d3
    have BX := BX2
    have RB := RB2
    have TT := TT2
    clear BX2 RB2 TT2
    obtain ⟨⟨d0, d1, d2, d3⟩, -⟩ := cells4 BX.out
    go_wp2_with fail
    refine (specOpSize_any w2 K i i none 0 0 [] (intsIn_none _ _)).mono ?_
    rintro e w3 ⟨rfl, hb3⟩
    have hs3 := hb3.size
    have BX3 := Lib.hid ((hb3.block w1.heap.size (by omega)).trans BX.out)
    have RB3 := Lib.hid ((hb3.block w.heap.size (by omega)).trans RB.out)
    have T3 := Lib.hid (TT.out.then hb3)
    clear hb3 d0 d1 d2 d3
    obtain ⟨N, hN⟩ : ∃ N : Nat, opSz K i i = N := ⟨(opSz K i i).toNat, by have := opSz_bound K i i; omega⟩
    have hN36 : N ≤ 36 := by have := opSz_bound K i i; omega
    rw [hN]
    clear hN
    go_wp2_with fail
    refine (l3Vec_e B _ C N (by omega) T3.out.cu).mono ?_
    rintro e w4 ⟨v, ps, rfl, hpl, hrow, ht4⟩
    have hs4 := ht4.size
    have hbx := (ht4.block (by omega) (by omega)).trans BX3.out
    have hrb := (ht4.block (by omega) (by omega)).trans RB3.out
    obtain ⟨a5, c5, rfl, -⟩ := hrow.form
    rw [hpl] at hrow ⊢
    have LEN := Lib.hid hpl
    clear hpl
    obtain ⟨⟨d0, d1, d2, d3⟩, f0, f1, f2, f3⟩ := cells4 hbx
    obtain ⟨⟨p0, p1, p2, p3⟩, q0, q1, q2, q3⟩ := cells4 hrb
    have RBF := Lib.hid ((heap_setCell_other w4 ⟨w1.heap.size, 3, none⟩ w.heap.size (.slice a5 N c5) (by show w.heap.size ≠ w1.heap.size; omega)).trans hrb)
    have T4 := Lib.hid (T3.out.trans ht4)
    have TF := Lib.hid (T4.out.setCell hlt ⟨w1.heap.size, 3, none⟩ (.slice a5 N c5) (by show w.heap.size ≤ w1.heap.size; omega))
    have HRF := Lib.hid (hrow.setBelow (a := ⟨w1.heap.size, 3, none⟩) (by show w1.heap.size < w3.heap.size; omega) (.slice a5 N c5))
    clear ht4 hbx hrb hrow
    go_wp2_with fail
    refine bodyPost_ret (results_cell_row rfl _ _ w.heap.size 48 #[.int .i64 K, .int .i64 i, .int .i64 i, .slice a5 N c5] (0, 0) _ rfl ?_ Try.underlying48 rfl (by kernel_rfl)) rfl ?_
    · exact store4 RBF.out _ _ _ _
    exact ⟨_, _, _, _, _, rfl, ⟨by omega, by omega, by omega, by rw [LEN.out]; omega⟩, ((((HRF.out.setBelow (by show w.heap.size < _; omega) _).setBelow (by show w.heap.size < _; omega) _).setBelow (by show w.heap.size < _; omega) _).setBelow (by show w.heap.size < _; omega) _).le (by omega), (((TF.out.setCell hlt _ _ (Nat.le_refl _)).setCell hlt _ _ (Nat.le_refl _)).setCell hlt _ _ (Nat.le_refl _)).setCell hlt _ _ (Nat.le_refl _)⟩

set_option maxRecDepth 100000 in
set_option maxHeartbeats 500000 in
theorem l5Any_e (B : Nat) (w : World) (C : Nat) (hc : Cu B w C) :
    Calls Try.prog 59 #[.pointer (some ⟨C, 0, none⟩)] w (DrewO 0 8 37 B w C) := by
  obtain ⟨i0, hi0, hz0, hz1, hz2⟩ := info_parts Try.infoI64
  have HC := Lib.hid hc
  have hlt := hc.lt
  have T0 := Lib.hid ((Turned.refl hc).alloc (.cells #[.int .i64 0, .int .i64 0, .int .i64 0, .slice none 0 0] 48 (0, 0)))
  have hb0 := heap_alloc_new w (.cells #[.int .i64 0, .int .i64 0, .int .i64 0, .slice none 0 0] 48 (0, 0))
  have hs0 : w.heap.size < (w.alloc (.cells #[.int .i64 0, .int .i64 0, .int .i64 0, .slice none 0 0] 48 (0, 0))).heap.size := by simp
  have HB0 := Lib.hid hb0
  clear hc hb0
  go_enter Try.func59, Try.ntmps59
  go_wp2_with fail
  generalize w.alloc (.cells #[.int .i64 0, .int .i64 0, .int .i64 0, .slice none 0 0] 48 (0, 0)) = wa at HB0 T0 hs0 ⊢
  refine (l1Below_e B _ C 3 (by omega) T0.out.cu).mono ?_
  rintro e w1 ⟨x, rfl, ⟨x0, x1⟩, ht1⟩
  have RB1 := Lib.hid ((ht1.block hs0 (by omega)).trans HB0.out)
  have T1 := Lib.hid (T0.out.trans ht1)
  have hs1 := ht1.size
  clear ht1
  obtain ⟨ii, hii⟩ : ∃ ii : Int, 1 + x = ii := ⟨_, rfl⟩
  have hii0 : 1 ≤ ii := by omega
  have hii3 : ii ≤ 3 := by omega
  go_wp2_with fail
  clear hii x0 x1
  refine (l5Op_e B _ C ii hii0 hii3 T1.out.cu).mono ?_
  rintro e w2 ⟨K, i, o, v, ps, rfl, ⟨⟨k0, k1⟩, ⟨i0', i1⟩, ⟨o0, o1⟩, hpl⟩, hrow, ht2⟩
  have RB2 := Lib.hid ((ht2.block (by omega) (by omega)).trans RB1.out)
  have T2 := Lib.hid (T1.out.trans ht2)
  have hs2 := ht2.size
  obtain ⟨N, hN⟩ : ∃ N, ps.length = N := ⟨_, rfl⟩
  obtain ⟨a5, c5, rfl, -⟩ := hrow.form
  rw [hN] at hrow hpl ⊢
  have HR2 := Lib.hid hrow
  have LEN := Lib.hid hN
  clear ht2 hrow hN
  go_upto_region 2 with fail
  have hk := heap_alloc_new w2 (.cells #[.int .i64 K, .int .i64 i, .int .i64 o, .slice a5 N c5] 48 (0, 0))
  have ht := T2.out.alloc (.cells #[.int .i64 K, .int .i64 i, .int .i64 o, .slice a5 N c5] 48 (0, 0))
  have hr := HR2.out.below ((Below.refl w2.heap.size w2).alloc (Nat.le_refl _) (.cells #[.int .i64 K, .int .i64 i, .int .i64 o, .slice a5 N c5] 48 (0, 0)))
  have hb := (Below.heap_alloc w2 (.cells #[.int .i64 K, .int .i64 i, .int .i64 o, .slice a5 N c5] 48 (0, 0)) w.heap.size (by omega)).trans RB2.out
  have hs4 : w2.heap.size < (w2.alloc (.cells #[.int .i64 K, .int .i64 i, .int .i64 o, .slice a5 N c5] 48 (0, 0))).heap.size := by simp
  generalize w2.alloc (.cells #[.int .i64 K, .int .i64 i, .int .i64 o, .slice a5 N c5] 48 (0, 0)) = w4 at hk ht hr hb hs4 ⊢
  have T4 := Lib.hid ht
  have BX4 := Lib.hid hk
  have HR4 := Lib.hid hr
  have RB4 := Lib.hid hb
  clear hk ht hr hb
  go_wp2_with fail
  refine (l1Below_e B _ C 14 (by omega) T4.out.cu).mono ?_
  rintro e w5 ⟨k, rfl, ⟨_, _⟩, ht5⟩
  have hs5 := ht5.size
  have BX5 := Lib.hid ((ht5.block hs4 (by omega)).trans BX4.out)
  have RB5 := Lib.hid ((ht5.block (by omega) (by omega)).trans RB4.out)
  have HR5 := Lib.hid (HR4.out.turned (by omega) ht5)
  have T5 := Lib.hid (T4.out.trans ht5)
  clear ht5
  by_cases e0 : k = 0
  · subst e0
    go_wp2_with fail
    refine (l1Below_e B _ C 8 (by omega) T5.out.cu).mono ?_
    rintro e w6 ⟨y, rfl, ⟨y0, y1⟩, ht6⟩
    have hs6 := ht6.size
    have hbx := (ht6.block (by omega) (by omega)).trans BX5.out
    have hrb := (ht6.block (by omega) (by omega)).trans RB5.out
    have hr6 := HR5.out.turned (by omega) ht6
    have T6 := Lib.hid (T5.out.trans ht6)
    obtain ⟨KK, hKK⟩ : ∃ KK : Int, y - 1 = KK := ⟨_, rfl⟩
    have hKK0 : -1 ≤ KK := by omega
    have hKK7 : KK ≤ 7 := by omega
    clear ht6
    obtain ⟨⟨d0, d1, d2, d3⟩, f0, f1, f2, f3⟩ := cells4 hbx
    obtain ⟨⟨p0, p1, p2, p3⟩, q0, q1, q2, q3⟩ := cells4 hrb
    have RB := Lib.hid ((heap_setCell_other w6 ⟨w2.heap.size, 0, none⟩ w.heap.size (.int .i64 KK) (by show w.heap.size ≠ w2.heap.size; omega)).trans hrb)
    have HRF := Lib.hid (hr6.setOther ⟨w2.heap.size, 0, none⟩ (.int .i64 KK) (fun k hk => by have := (HR2.out.lt k hk).2; show k ≠ w2.heap.size; omega))
    have TF := Lib.hid (T6.out.setCell hlt ⟨w2.heap.size, 0, none⟩ (.int .i64 KK) (by show w.heap.size ≤ w2.heap.size; omega))
    clear hbx hrb hr6
    go_wp2_with fail
    refine bodyPost_ret (results_cell_row rfl _ _ w.heap.size 48 #[.int .i64 KK, .int .i64 i, .int .i64 o, .slice a5 N c5] (0, 0) _ rfl ?_ Try.underlying48 rfl (by kernel_rfl)) rfl ?_
    · exact store4 RB.out _ _ _ _
    exact ⟨_, _, _, _, _, rfl, ⟨by omega, by omega, by omega, by rw [LEN.out]; omega⟩, ((((HRF.out.setBelow (by show w.heap.size < _; omega) _).setBelow (by show w.heap.size < _; omega) _).setBelow (by show w.heap.size < _; omega) _).setBelow (by show w.heap.size < _; omega) _).le (by omega), (((TF.out.setCell hlt _ _ (Nat.le_refl _)).setCell hlt _ _ (Nat.le_refl _)).setCell hlt _ _ (Nat.le_refl _)).setCell hlt _ _ (Nat.le_refl _)⟩
  · have t0 : (k == 0) = false := by simpa using e0
    by_cases e1 : k = 1
    · subst e1
      obtain ⟨⟨d0, d1, d2, d3⟩, -⟩ := cells4 BX5.out
      go_wp2_with fail
      clear d0 d1 d2 d3
      have hsa : w5.heap.size < (w5.alloc (.cells #[.int .i64 0, .int .i64 7, .int .i64 (i + 1)] 3 (0, 0))).heap.size := by simp
      have hTa := T5.out.alloc (.cells #[.int .i64 0, .int .i64 7, .int .i64 (i + 1)] 3 (0, 0))
      have hBa := (Below.heap_alloc w5 (.cells #[.int .i64 0, .int .i64 7, .int .i64 (i + 1)] 3 (0, 0)) w2.heap.size (by omega)).trans BX5.out
      have hRa := (Below.heap_alloc w5 (.cells #[.int .i64 0, .int .i64 7, .int .i64 (i + 1)] 3 (0, 0)) w.heap.size (by omega)).trans RB5.out
      have hra := HR5.out.below ((Below.refl w5.heap.size w5).alloc (Nat.le_refl _) (.cells #[.int .i64 0, .int .i64 7, .int .i64 (i + 1)] 3 (0, 0)))
      refine (l1PickInt_e B _ C w5.heap.size 3 [0, 7, i + 1] (fun x => 0 ≤ x ∧ x ≤ 8) rfl (by omega) (by omega) (fun x hx => by simp at hx; omega) hTa.cu (by omega) (fun j hj => ints_cells w5 [0, 7, i + 1] _ j hj)).mono ?_
      rintro e w6 ⟨RR, rfl, ⟨rr0, rr8⟩, ht6⟩
      have hs6 := ht6.size
      have hbx := (ht6.block (by omega) (by omega)).trans hBa
      have hrb := (ht6.block (by omega) (by omega)).trans hRa
      have hr6 := hra.turned (by omega) ht6
      have T6 := Lib.hid (hTa.trans ht6)
      clear hTa hBa hRa hra ht6
      obtain ⟨⟨d0, d1, d2, d3⟩, f0, f1, f2, f3⟩ := cells4 hbx
      obtain ⟨⟨p0, p1, p2, p3⟩, q0, q1, q2, q3⟩ := cells4 hrb
      have RB := Lib.hid ((heap_setCell_other w6 ⟨w2.heap.size, 1, none⟩ w.heap.size (.int .i64 RR) (by show w.heap.size ≠ w2.heap.size; omega)).trans hrb)
      have HRF := Lib.hid (hr6.setOther ⟨w2.heap.size, 1, none⟩ (.int .i64 RR) (fun k hk => by have := (HR2.out.lt k hk).2; show k ≠ w2.heap.size; omega))
      have TF := Lib.hid (T6.out.setCell hlt ⟨w2.heap.size, 1, none⟩ (.int .i64 RR) (by show w.heap.size ≤ w2.heap.size; omega))
      clear hbx hrb hr6
      go_wp2_with fail
      refine bodyPost_ret (results_cell_row rfl _ _ w.heap.size 48 #[.int .i64 K, .int .i64 RR, .int .i64 o, .slice a5 N c5] (0, 0) _ rfl ?_ Try.underlying48 rfl (by kernel_rfl)) rfl ?_
      · exact store4 RB.out _ _ _ _
      exact ⟨_, _, _, _, _, rfl, ⟨by omega, by omega, by omega, by rw [LEN.out]; omega⟩, ((((HRF.out.setBelow (by show w.heap.size < _; omega) _).setBelow (by show w.heap.size < _; omega) _).setBelow (by show w.heap.size < _; omega) _).setBelow (by show w.heap.size < _; omega) _).le (by omega), (((TF.out.setCell hlt _ _ (Nat.le_refl _)).setCell hlt _ _ (Nat.le_refl _)).setCell hlt _ _ (Nat.le_refl _)).setCell hlt _ _ (Nat.le_refl _)⟩
    · have t1 : (k == 1) = false := by simpa using e1
      by_cases e2 : k = 2
      · subst e2
        obtain rfl : ps.length = N := LEN.out
        obtain ⟨⟨d0, d1, d2, d3⟩, f0, f1, f2, f3⟩ := cells4 BX5.out
        have hown : w5.ownsRow w1.heap.size 3 1 (.slice a5 ps.length c5) ps.length (icells ps) := HR5.out
        have hs15 : w1.heap.size ≤ w5.heap.size := by omega
        go_wp2_with (at_builtin; refine wpList_append_own _ rfl _ _ 29 rfl w1.heap.size 3 i0 (.int .i64 0) 1 8 Try.underlying29 hi0 hz0 hz1 hz2 rfl (by decide) _ _ _ rfl (hown.alloc _) ⟨w5.heap.size, 0, none⟩ 1 1 (icells [0]) rfl rfl (cell_num_put _ _ _) (icells_one _) (by unfold maxLen; omega) (by omega) (by simp; omega) ?_; intro v6 w6 hown6 hgrow6 h8; clear h8; obtain ⟨a6, c6, rfl⟩ := own_form hown6; have hg7 : (w5.alloc (.cells #[.int .i64 0] 3 (0, 0))).grownBy w6 (Value.slice a5 ps.length c5).ownBlock := hgrow6; have hg2 : ∀ k, (Value.slice a5 ps.length c5).ownBlock = some k → w1.heap.size ≤ k ∧ w.heap.size ≤ k ∧ k ≠ C ∧ k < w2.heap.size := (fun k hk => by have := HR2.out.lt k hk; omega); have hbx := (hg7.block w2.heap.size (by simp; omega) (fun e => by have := hg2 _ e.symm; omega)).trans ((Below.heap_alloc w5 (.cells #[.int .i64 0] 3 (0, 0)) w2.heap.size (by omega)).trans BX5.out); have hrb := (hg7.block w.heap.size (by simp; omega) (fun e => by have := hg2 _ e.symm; omega)).trans ((Below.heap_alloc w5 (.cells #[.int .i64 0] 3 (0, 0)) w.heap.size (by omega)).trans RB5.out); have hput := Row.put (HR5.out) hs15 _ hown6 hg7; have htt := T5.out.put hlt (HR5.out.le (by omega)) _ hg7; have hs6 := hg7.size; clear d0 d1 d2 d3 f0 f1 f2 f3 hown hgrow6 hown6 hg7 hg2; obtain ⟨⟨d0, d1, d2, d3⟩, f0, f1, f2, f3⟩ := cells4 hbx; obtain ⟨⟨p0, p1, p2, p3⟩, q0, q1, q2, q3⟩ := cells4 hrb; have H6 := Lib.hid hput.1; have HT6 := Lib.hid htt; have RB6 := Lib.hid ((heap_setCell_other w6 ⟨w2.heap.size, 3, none⟩ w.heap.size (.slice a6 (ps.length + 1) c6) (by show w.heap.size ≠ w2.heap.size; omega)).trans hrb); have HRF := Lib.hid (hput.1.setOther ⟨w2.heap.size, 3, none⟩ (.slice a6 (ps.length + 1) c6) (hput.1.apart hbx (by decide))); have TF := Lib.hid (htt.setCell hlt ⟨w2.heap.size, 3, none⟩ (.slice a6 (ps.length + 1) c6) (by show w.heap.size ≤ w2.heap.size; omega)); clear hput htt hbx hrb)
        refine bodyPost_ret (results_cell_row rfl _ _ w.heap.size 48 #[.int .i64 K, .int .i64 i, .int .i64 o, .slice a6 (ps.length + 1) c6] (0, 0) _ rfl ?_ Try.underlying48 rfl (by kernel_rfl)) rfl ?_
        · exact store4 RB6.out _ _ _ _
        exact ⟨_, _, _, _, _, rfl, ⟨by omega, by omega, by omega, by rw [List.length_append]; show ps.length + 1 ≤ 37; omega⟩, ((((HRF.out.setBelow (by show w.heap.size < _; omega) _).setBelow (by show w.heap.size < _; omega) _).setBelow (by show w.heap.size < _; omega) _).setBelow (by show w.heap.size < _; omega) _).le (by omega), (((TF.out.setCell hlt _ _ (Nat.le_refl _)).setCell hlt _ _ (Nat.le_refl _)).setCell hlt _ _ (Nat.le_refl _)).setCell hlt _ _ (Nat.le_refl _)⟩
      · have t2 : (k == 2) = false := by simpa using e2
        by_cases e3 : k = 3
        · subst e3
          by_cases hPn : 0 < N
          · obtain ⟨g, cp, hv, hg1, hg2⟩ := HR2.out.first (by rw [LEN.out]; exact hPn)
            obtain ⟨rfl, rfl⟩ : a5 = some ⟨g, 0, none⟩ ∧ c5 = cp := by cases hv; exact ⟨rfl, rfl⟩
            clear hv
            have hdr : Below w5.heap.size w5 w5.drew := (Below.refl _ _).drew
            have hcd : Cu B w5.drew C := T5.out.cu.below hdr
            have htd : Turned B w w5.drew C := T5.out.then hdr
            have hbd : w5.drew.heap[w2.heap.size]? = some (.cells #[.int .i64 K, .int .i64 i, .int .i64 o, .slice (some ⟨g, 0, none⟩) N c5] 48 (0, 0)) := BX5.out
            have hrd : w5.drew.heap[w.heap.size]? = some (.cells #[.int .i64 0, .int .i64 0, .int .i64 0, .slice none 0 0] 48 (0, 0)) := RB5.out
            have hrr : Row w1.heap.size w5.drew (.slice (some ⟨g, 0, none⟩) N c5) ps := HR5.out.below hdr
            have hsd : w5.heap.size ≤ w5.drew.heap.size := hdr.size
            have CD := Lib.hid hcd
            have TD := Lib.hid htd
            have BD := Lib.hid hbd
            have RD := Lib.hid hrd
            have RRD := Lib.hid hrr
            obtain ⟨⟨d0, d1, d2, d3⟩, -⟩ := cells4 BX5.out
            clear hdr hcd htd hbd hrd hrr
            have hne1 : ¬ g = w2.heap.size := by omega
            have hne2 : ¬ w2.heap.size = g := by omega
            have hne3 : ¬ g = w.heap.size := by omega
            have hne4 : ¬ w.heap.size = g := by omega
            have hP0 : (0 : Int) < (N : Int) := by omega
            have hPz : ¬ N = 0 := by omega
            have hPl : ¬ N ≤ 0 := by omega
            go_wp2_with fail
            go_region_law (go_simp; go_at_call 79; (refine (l2Raw_e B _ C CD.out).mono ?_); rintro e w6 ⟨z, rfl, -, ht6⟩; have hs6 := ht6.size; have hbx := (ht6.block (by omega) (by omega)).trans BD.out; have hrb := (ht6.block (by omega) (by omega)).trans RD.out; have hr6 := RRD.out.turned (by omega) ht6; have T6 := Lib.hid (TD.out.trans ht6); obtain ⟨⟨d0', d1', d2', d3'⟩, f0, f1, f2, f3⟩ := cells4 hbx; obtain ⟨⟨p0, p1, p2, p3⟩, q0, q1, q2, q3⟩ := cells4 hrb; have BX6 := Lib.hid hbx; have RB6 := Lib.hid hrb; have HR6 := Lib.hid hr6; have hown : w6.ownsRow w1.heap.size 3 1 (.slice (some ⟨g, 0, none⟩) N c5) N (icells ps) := (by have := hr6; unfold Row at this; rw [LEN.out] at this; exact this); have hfr := World.ownsRow.frozenAt hown 0; obtain ⟨u, hu⟩ : ∃ u, w6.cell? ⟨g, 0, none⟩ = some u := (by rw [World.ownsRow.cellAt hown 0 (by omega)]; exact ⟨_, List.getElem?_eq_getElem (by rw [icells_length, LEN.out]; omega)⟩); have ST := Lib.hid (World.ownsRow.stored hown 0 (.int .i64 z)).1; clear hbx hrb hr6 hown ht6)
            all_goals
              have RB : Hid ((w6.setCell ⟨g, 0, none⟩ (.int .i64 z)).heap[w.heap.size]? = some (.cells #[.int .i64 0, .int .i64 0, .int .i64 0, .slice none 0 0] 48 (0, 0))) := Lib.hid ((heap_setCell_other _ _ _ _ (by show w.heap.size ≠ g; omega)).trans RB6.out)
              have TF := Lib.hid (T6.out.setCell hlt ⟨g, 0, none⟩ (.int .i64 z) (by show w.heap.size ≤ g; omega))
              have HRF : Hid (Row w1.heap.size (w6.setCell ⟨g, 0, none⟩ (.int .i64 z)) (.slice (some ⟨g, 0, none⟩) N c5) (ps.set 0 z)) := by
                have h1 := ST.out
                rw [icells_set] at h1
                show Row _ _ _ _
                unfold Row
                rw [List.length_set, LEN.out]
                exact h1
              go_wp2_with fail
              refine bodyPost_ret (results_cell_row rfl _ _ w.heap.size 48 #[.int .i64 K, .int .i64 i, .int .i64 o, .slice (some ⟨g, 0, none⟩) N c5] (0, 0) _ rfl ?_ Try.underlying48 rfl (by kernel_rfl)) rfl ?_
              · exact store4 RB.out _ _ _ _
              exact ⟨_, _, _, _, _, rfl, ⟨by omega, by omega, by omega, by rw [List.length_set, LEN.out]; omega⟩, ((((HRF.out.setBelow (by show w.heap.size < _; omega) _).setBelow (by show w.heap.size < _; omega) _).setBelow (by show w.heap.size < _; omega) _).setBelow (by show w.heap.size < _; omega) _).le (by omega), (((TF.out.setCell hlt _ _ (Nat.le_refl _)).setCell hlt _ _ (Nat.le_refl _)).setCell hlt _ _ (Nat.le_refl _)).setCell hlt _ _ (Nat.le_refl _)⟩
          · obtain rfl : N = 0 := by omega
            obtain ⟨⟨d0, d1, d2, d3⟩, f0, f1, f2, f3⟩ := cells4 BX5.out
            obtain ⟨⟨p0, p1, p2, p3⟩, q0, q1, q2, q3⟩ := cells4 RB5.out
            have RB := Lib.hid RB5.out
            have HRF := Lib.hid HR5.out
            have TF := Lib.hid T5.out
            go_wp2_with fail
            refine bodyPost_ret (results_cell_row rfl _ _ w.heap.size 48 #[.int .i64 K, .int .i64 i, .int .i64 o, .slice a5 0 c5] (0, 0) _ rfl ?_ Try.underlying48 rfl (by kernel_rfl)) rfl ?_
            · exact store4 RB.out _ _ _ _
            exact ⟨_, _, _, _, _, rfl, ⟨by omega, by omega, by omega, by rw [LEN.out]; omega⟩, ((((HRF.out.setBelow (by show w.heap.size < _; omega) _).setBelow (by show w.heap.size < _; omega) _).setBelow (by show w.heap.size < _; omega) _).setBelow (by show w.heap.size < _; omega) _).le (by omega), (((TF.out.setCell hlt _ _ (Nat.le_refl _)).setCell hlt _ _ (Nat.le_refl _)).setCell hlt _ _ (Nat.le_refl _)).setCell hlt _ _ (Nat.le_refl _)⟩
        · have t3 : (k == 3) = false := by simpa using e3
          obtain ⟨⟨d0, d1, d2, d3⟩, f0, f1, f2, f3⟩ := cells4 BX5.out
          obtain ⟨⟨p0, p1, p2, p3⟩, q0, q1, q2, q3⟩ := cells4 RB5.out
          have RB := Lib.hid RB5.out
          have HRF := Lib.hid HR5.out
          have TF := Lib.hid T5.out
          go_wp2_with fail
          refine bodyPost_ret (results_cell_row rfl _ _ w.heap.size 48 #[.int .i64 K, .int .i64 i, .int .i64 o, .slice a5 N c5] (0, 0) _ rfl ?_ Try.underlying48 rfl (by kernel_rfl)) rfl ?_
          · exact store4 RB.out _ _ _ _
          exact ⟨_, _, _, _, _, rfl, ⟨by omega, by omega, by omega, by rw [LEN.out]; omega⟩, ((((HRF.out.setBelow (by show w.heap.size < _; omega) _).setBelow (by show w.heap.size < _; omega) _).setBelow (by show w.heap.size < _; omega) _).setBelow (by show w.heap.size < _; omega) _).le (by omega), (((TF.out.setCell hlt _ _ (Nat.le_refl _)).setCell hlt _ _ (Nat.le_refl _)).setCell hlt _ _ (Nat.le_refl _)).setCell hlt _ _ (Nat.le_refl _)⟩

theorem l3Vec_j (B : Nat) (w : World) (C : Nat) (n : Int) (h0 : 0 ≤ n) (h1 : n ≤ 8) (hc : Cu B w C) :
    Calls Try.prog 84 #[.pointer (some ⟨C, 0, none⟩), .int .i64 n] w (DrewV (fun xs => (xs.length : Int) ≤ 8) B w C) := by
  obtain ⟨m, rfl⟩ : ∃ m : Nat, n = m := ⟨n.toNat, by omega⟩
  exact (l3Vec_e B w C m (by omega) hc).mono fun e w' ⟨v, xs, he, hl, hr, ht⟩ => ⟨v, xs, he, by show (xs.length : Int) ≤ 8; omega, hr, ht⟩
theorem results_cell_tmps {fn : Func} {p u t : Tmp} {ty : TypeId} (h : fn.results = #[.cell p ty, .tmp u, .tmp t]) (tmps : Array Value) (P : Program) (w : World) :
    (results fn tmps).run P w =
      ((asAddr (tmps.getD p undef)).run P w).andThen fun a w₁ => ((loadVar ty a).run P w₁).andThen fun v w₂ => .ok (.tuple #[v, tmps.getD u undef, tmps.getD t undef]) w₂ := by
  simp only [results, h]
  simp [Sem.run_bind, Result.andThen]
theorem results_row_tmps {P : Program} {fn : Func} {p u r : Tmp} {ty : TypeId} (h : fn.results = #[.cell p ty, .tmp u, .tmp r]) (tmps : Array Value) (w : World) (g : Nat) (t : TypeId) (cs : Array Value) (fr : Nat × Nat) (d : TypeDesc)
    (hp : tmps.getD p undef = .pointer (some ⟨g, 0, none⟩)) (hg : w.heap[g]? = some (.cells cs t fr))
    (hu : P.underlying ty = some d) (hd : (match d with | .struct _ | .array _ _ => true | _ => false) = true) (hi : (P.info? ty).map (·.size) = some cs.size) :
    (results fn tmps).run P w = .ok (.tuple #[.agg cs, tmps.getD u undef, tmps.getD r undef]) w := by
  rw [results_cell_tmps h, hp]
  simp [asAddr, run_loadVar_row w g t ty cs fr d hg hu hd hi, Result.andThen]
/-- An operation and two rows were drawn. -/
def DrewOB (w : World) (e : Ending) (w' : World) : Prop := ∃ k i o v ps u xs t ds, e = .returned (.tuple #[.agg #[.int .i64 k, .int .i64 i, .int .i64 o, v], u, t]) ∧ (ps.length ≤ 37 ∧ xs.length ≤ 8 ∧ ds.length ≤ 8) ∧ Row w.heap.size w' v ps ∧ Row w.heap.size w' u xs ∧ Row w.heap.size w' t ds ∧ Below w.heap.size w w'
end Go.Proofs.Ytkmcfbopilieeaa

end

/-! YtkmcfbopilieeaaShape -/
section

namespace Go.Proofs.Ytkmcfbopilieeaa
open Go.RowKit
set_option linter.unusedVariables false

/-- A set of blocks; those below B; those from lo on, below hi. -/
abbrev Under (B : Nat) : Nat → Prop := fun b => b < B
abbrev From (lo hi : Nat) : Nat → Prop := fun b => lo ≤ b ∧ b < hi
/-- The blocks of a set are as they were. -/
def Kept (I : Nat → Prop) (w w' : World) : Prop := ∀ b, I b → w'.heap[b]? = w.heap[b]?
theorem Kept.of_below {I : Nat → Prop} {B : Nat} {w w' : World} (h : Below B w w') (hI : ∀ b, I b → b < B) : Kept I w w' := fun b hb => h.block b (hI b hb)
theorem rangeAt_kept {I : Nat → Prop} {w w' : World} {b o : Nat} {es : List Value} (h : w.rangeAt b o es) (hb : I b) (hw : Kept I w w') : w'.rangeAt b o es :=
  fun j v hv => (World.cell?_of_block (w := w) (w' := w') (a := ⟨b, o + j, none⟩) (hw b hb)).trans (h j v hv)

/-- A shape of data: how many cells it takes; which cells read as which datum, all that is led to lying in blocks of a set; which types have it; how many places its lists have. -/
structure Shape (α : Type) : Type 1 where
  size : Nat
  reads : (Nat → Prop) → World → List Value → α → Prop
  fits : Program → TypeId → Bool
  bulk : α → Nat
  len : ∀ {I w cs d}, reads I w cs d → cs.length = size
  keep : ∀ {I w w' cs d}, reads I w cs d → Kept I w w' → reads I w' cs d
  sub : ∀ {I J : Nat → Prop} {w cs d}, reads I w cs d → (∀ b, I b → J b) → reads J w cs d
  opens : ∀ {H : Type} {enc : TypeId × Value → H} {P : Program} {w : World} {base : Nat} {spare : Nat → Bool} {held : Bool} {fuel : Nat} {t : TypeId} {cs : List Value} {x : DataW H × List MemPlace},
    fits P t = true → DataW.trod enc P w base spare held fuel t cs = some x → ∃ d, reads (Under w.heap.size) w cs d

/-- A list lies at a: n places, one behind the other, each of so many cells. -/
def ListAt {α : Type} (S : Shape α) (I : Nat → Prop) (w : World) (a : Option Addr) (n : Nat) (xs : List α) : Prop :=
  xs.length = n ∧ ∀ (j : Nat) (x : α), xs[j]? = some x → ∃ b o es, a = some ⟨b, o, none⟩ ∧ I b ∧ w.rangeAt b (o + j * S.size) es ∧ S.reads I w es x
theorem ListAt.keep {α : Type} {S : Shape α} {I : Nat → Prop} {w w' : World} {a : Option Addr} {n : Nat} {xs : List α} (h : ListAt S I w a n xs) (hw : Kept I w w') : ListAt S I w' a n xs :=
  ⟨h.1, fun j x hx => by
    obtain ⟨b, o, es, e, hb, hr, hs⟩ := h.2 j x hx
    exact ⟨b, o, es, e, hb, rangeAt_kept hr hb hw, S.keep hs hw⟩⟩
theorem ListAt.sub {α : Type} {S : Shape α} {I J : Nat → Prop} {w : World} {a : Option Addr} {n : Nat} {xs : List α} (h : ListAt S I w a n xs) (hI : ∀ b, I b → J b) : ListAt S J w a n xs :=
  ⟨h.1, fun j x hx => by
    obtain ⟨b, o, es, e, hb, hr, hs⟩ := h.2 j x hx
    exact ⟨b, o, es, e, hI b hb, hr, S.sub hs hI⟩⟩
theorem ListAt.below {α : Type} {S : Shape α} {B B' : Nat} {w w' : World} {a : Option Addr} {n : Nat} {xs : List α} (h : ListAt S (Under B) w a n xs) (hw : Below B' w w') (hB : B ≤ B') : ListAt S (Under B) w' a n xs :=
  h.keep (.of_below hw fun b hb => Nat.lt_of_lt_of_le hb hB)
theorem ListAt.le {α : Type} {S : Shape α} {B B' : Nat} {w : World} {a : Option Addr} {n : Nat} {xs : List α} (h : ListAt S (Under B) w a n xs) (hB : B ≤ B') : ListAt S (Under B') w a n xs :=
  h.sub fun b hb => Nat.lt_of_lt_of_le hb hB
theorem Shape.below {α : Type} (S : Shape α) {B B' : Nat} {w w' : World} {cs : List Value} {d : α} (h : S.reads (Under B) w cs d) (hw : Below B' w w') (hB : B ≤ B') : S.reads (Under B) w' cs d :=
  S.keep h (.of_below hw fun b hb => Nat.lt_of_lt_of_le hb hB)
theorem Shape.le {α : Type} (S : Shape α) {B B' : Nat} {w : World} {cs : List Value} {d : α} (h : S.reads (Under B) w cs d) (hB : B ≤ B') : S.reads (Under B') w cs d :=
  S.sub h fun b hb => Nat.lt_of_lt_of_le hb hB

namespace Shape
def int : Shape Int where
  size := 1
  reads := fun _ _ cs x => cs = [.int .i64 x]
  fits := fun P t => match P.underlying t with | some (.int .i64) => true | _ => false
  bulk := fun _ => 0
  len := by rintro _ _ _ _ rfl; rfl
  keep := fun h _ => h
  sub := fun h _ => h
  opens := by
    intro H enc P w base spare held fuel t cs x hf h
    split at hf
    · rename_i ht
      obtain ⟨n, hn, _⟩ := DataW.trod_int ht h
      exact ⟨n, hn⟩
    · cases hf
def bool : Shape Bool where
  size := 1
  reads := fun _ _ cs x => cs = [.bool x]
  fits := fun P t => match P.underlying t with | some .bool => true | _ => false
  bulk := fun _ => 0
  len := by rintro _ _ _ _ rfl; rfl
  keep := fun h _ => h
  sub := fun h _ => h
  opens := by
    intro H enc P w base spare held fuel t cs x hf h
    split at hf
    · rename_i ht
      obtain ⟨n, hn, _⟩ := DataW.trod_bool ht h
      exact ⟨n, hn⟩
    · cases hf

/-- From 'for each place there is one' to a list. -/
theorem list_of {α : Type} {p : Nat → α → Prop} (n : Nat) (h : ∀ j, j < n → ∃ x, p j x) : ∃ xs : List α, xs.length = n ∧ ∀ j x, xs[j]? = some x → p j x := by
  induction n with
  | zero => exact ⟨[], rfl, fun j x hx => by simp at hx⟩
  | succ n ih =>
    obtain ⟨xs, hl, hp⟩ := ih fun j hj => h j (by omega)
    obtain ⟨x, hx⟩ := h n (by omega)
    refine ⟨xs ++ [x], by simp [hl], fun j y hy => ?_⟩
    by_cases hj : j < n
    · rw [List.getElem?_append_left (by omega)] at hy
      exact hp j y hy
    · have hjn : j = n := by
        have := (List.getElem?_eq_some_iff.1 hy).1
        simp [hl] at this
        omega
      subst hjn
      rw [List.getElem?_append_right (by omega), hl, Nat.sub_self] at hy
      cases hy
      exact hx
def sum {α : Type} (f : α → Nat) : List α → Nat
  | [] => 0
  | x :: xs => f x + sum f xs
theorem sum_append {α : Type} (f : α → Nat) (xs ys : List α) : sum f (xs ++ ys) = sum f xs + sum f ys := by
  induction xs with
  | nil => simp [sum]
  | cons x xs ih => simp only [List.cons_append, sum, ih]; omega

def list {α : Type} (S : Shape α) : Shape (List α) where
  size := 1
  reads := fun I w cs xs => ∃ a n c, cs = [.slice a n c] ∧ n ≤ c ∧ c ≤ 9223372036854775807 ∧ ListAt S I w a n xs
  fits := fun P t => match P.underlying t with | some (.slice e) => P.cellsOf e == S.size && (decide (0 < S.size) && S.fits P e) | _ => false
  bulk := fun xs => xs.length + sum S.bulk xs
  len := by rintro _ _ _ _ ⟨_, _, _, rfl, _⟩; rfl
  keep := by
    rintro I w w' cs d ⟨a, n, c, e, h1, h2, h3⟩ hw
    exact ⟨a, n, c, e, h1, h2, h3.keep hw⟩
  sub := by
    rintro I J w cs d ⟨a, n, c, e, h1, h2, h3⟩ hI
    exact ⟨a, n, c, e, h1, h2, h3.sub hI⟩
  opens := by
    intro H enc P w base spare held fuel t cs x hf h
    split at hf
    · rename_i e ht
      simp only [Bool.and_eq_true, beq_iff_eq, decide_eq_true_eq] at hf
      obtain ⟨hc, h0, hfe⟩ := hf
      rcases Deep.open_slice ht h with ⟨rfl, _⟩ | ⟨a, len, cap, m, n, D, Pl, rfl, hb, hl, hm, hmm, _, hx⟩
      · exact ⟨[], none, 0, 0, rfl, Nat.le_refl _, by omega, rfl, fun j x hx => by simp at hx⟩
      · have hlm : len ≤ m := by rw [hmm]; split <;> omega
        have hx' := fun i (hi : i < len) => hx i (by omega)
        obtain ⟨xs, hxl, hxs⟩ := list_of (p := fun j x => ∃ es, w.cells? base (a.add (j * P.cellsOf e)) (P.cellsOf e) = some es ∧ S.reads (Under w.heap.size) w es x) len fun j hj => by
          obtain ⟨cs', h1, h2⟩ := hx j (by omega)
          obtain ⟨d, hd⟩ := S.opens hfe h2
          exact ⟨d, cs', h1, hd⟩
        unfold maxLen at hm
        refine ⟨xs, some a, len, cap, rfl, hl, by omega, hxl, fun j x hjx => ?_⟩
        obtain ⟨es, h1, h2⟩ := hxs j x hjx
        obtain ⟨_, hel, hcell⟩ := World.cells?_some h1
        have hes := S.len h2
        obtain ⟨b, o, spot⟩ := a
        have hc0 := hcell 0 (by omega)
        rw [List.getElem?_eq_getElem (by omega)] at hc0
        have hspot : spot = none := by
          have hjl : j < len := by rw [← hxl]; exact (List.getElem?_eq_some_iff.1 hjx).1
          obtain ⟨c0, k1, k2⟩ := hx' 0 (by omega)
          obtain ⟨_, kel, kcell⟩ := World.cells?_some k1
          have kc := kcell 0 (by omega)
          rw [List.getElem?_eq_getElem (by omega)] at kc
          have := World.cell?_spot kc
          simpa [Addr.add] using this
        subst hspot
        simp only [Addr.add_mid] at hcell hc0
        refine ⟨b, o, es, rfl, World.block_lt_of_cell? w _ hc0, fun i v hv => ?_, h2⟩
        have hi := (List.getElem?_eq_some_iff.1 hv).1
        rw [← hc]
        rw [hcell i (by omega)]
        exact hv
    · cases hf
end Shape

/-- The fields of a struct, from one offset on. -/
structure FieldsOf (α : Type) : Type 1 where
  size : Nat
  reads : (Nat → Prop) → World → List Value → α → Prop
  fits : Program → List Field → Nat → Bool
  bulk : α → Nat
  len : ∀ {I w cs d}, reads I w cs d → cs.length = size
  keep : ∀ {I w w' cs d}, reads I w cs d → Kept I w w' → reads I w' cs d
  sub : ∀ {I J : Nat → Prop} {w cs d}, reads I w cs d → (∀ b, I b → J b) → reads J w cs d
  opens : ∀ {H : Type} {enc : TypeId × Value → H} {P : Program} {w : World} {base : Nat} {spare : Nat → Bool} {held : Bool} {fuel : Nat} {fs : List Field} {off : Nat} {cs : List Value},
    fits P fs off = true → cs.length = off + size → (∀ f ∈ fs, ∃ y, DataW.trod enc P w base spare held fuel f.type ((cs.drop f.offset).take (P.cellsOf f.type)) = some y) → ∃ d, reads (Under w.heap.size) w (cs.drop off) d

namespace FieldsOf
def last {α : Type} (S : Shape α) : FieldsOf α where
  size := S.size
  reads := S.reads
  fits := fun P fs off => match fs with | [f] => f.offset == off && (P.cellsOf f.type == S.size && S.fits P f.type) | _ => false
  bulk := S.bulk
  len := S.len
  keep := S.keep
  sub := S.sub
  opens := by
    intro H enc P w base spare held fuel fs off cs hf hl h
    split at hf
    · rename_i f
      simp only [Bool.and_eq_true, beq_iff_eq] at hf
      obtain ⟨h1, h2, h3⟩ := hf
      obtain ⟨y, hy⟩ := h f (by simp)
      obtain ⟨d, hd⟩ := S.opens h3 hy
      rw [h1, h2, List.take_of_length_le (by simp; omega)] at hd
      exact ⟨d, hd⟩
    · cases hf
def cons {α β : Type} (S : Shape α) (F : FieldsOf β) : FieldsOf (α × β) where
  size := S.size + F.size
  reads := fun I w cs d => ∃ c1 c2, cs = c1 ++ c2 ∧ S.reads I w c1 d.1 ∧ F.reads I w c2 d.2
  fits := fun P fs off => match fs with | f :: r => f.offset == off && (P.cellsOf f.type == S.size && (S.fits P f.type && F.fits P r (off + S.size))) | _ => false
  bulk := fun d => S.bulk d.1 + F.bulk d.2
  len := by
    rintro B w cs d ⟨c1, c2, rfl, h1, h2⟩
    rw [List.length_append, S.len h1, F.len h2]
  keep := by
    rintro I w w' cs d ⟨c1, c2, e, h1, h2⟩ hw
    exact ⟨c1, c2, e, S.keep h1 hw, F.keep h2 hw⟩
  sub := by
    rintro I J w cs d ⟨c1, c2, e, h1, h2⟩ hI
    exact ⟨c1, c2, e, S.sub h1 hI, F.sub h2 hI⟩
  opens := by
    intro H enc P w base spare held fuel fs off cs hf hl h
    split at hf
    · rename_i f r
      simp only [Bool.and_eq_true, beq_iff_eq] at hf
      obtain ⟨h1, h2, h3, h4⟩ := hf
      obtain ⟨y, hy⟩ := h f (by simp)
      obtain ⟨d, hd⟩ := S.opens h3 hy
      obtain ⟨d', hd'⟩ := F.opens h4 (cs := cs) (by omega) (fun g hg => h g (List.mem_cons_of_mem _ hg))
      rw [h1, h2] at hd
      refine ⟨(d, d'), _, _, ?_, hd, hd'⟩
      rw [← List.drop_drop, List.take_append_drop]
    · cases hf
end FieldsOf
namespace Shape
def struct {α : Type} (F : FieldsOf α) : Shape α where
  size := F.size
  reads := F.reads
  fits := fun P t => match P.underlying t with | some (.struct fs) => P.cellsOf t == F.size && F.fits P fs.toList 0 | _ => false
  bulk := F.bulk
  len := F.len
  keep := F.keep
  sub := F.sub
  opens := by
    intro H enc P w base spare held fuel t cs x hf h
    split at hf
    · rename_i fs ht
      simp only [Bool.and_eq_true, beq_iff_eq] at hf
      obtain ⟨xs, n, hn, _, hl, hxl, hx⟩ := DataW.trod_struct ht h
      have := F.opens hf.2 (cs := cs) (w := w) (enc := enc) (base := base) (spare := spare) (held := held) (fuel := n) (by omega) (fun f hfm => by
        obtain ⟨i, hi⟩ := List.mem_iff_getElem?.1 hfm
        have hi' : fs[i]? = some f := by simpa using hi
        have hlt : i < fs.size := by
          have := (Array.getElem?_eq_some_iff.1 hi').1
          exact this
        rw [hx i f hi', List.getElem?_eq_getElem (by omega)]
        exact ⟨_, rfl⟩)
      simpa using this
    · cases hf
end Shape

/-- A row of numbers of a bounded length is what the walks over rows are told. -/
theorem ListAt.ints {B : Nat} {w : World} {a : Option Addr} {n : Nat} {xs : List Int} (h : ListAt Shape.int (Under B) w a n xs) (hr : n ≤ 1048576) : IntsIn B w a n xs :=
  ⟨h.1, hr, fun j hj => by
    have hx : xs[j]? = some (xs.getD j 0) := by
      rw [List.getElem?_eq_getElem (by rw [h.1]; exact hj)]
      simp [List.getD, h.1, hj]
    obtain ⟨b, o, es, e, hb, hr, hs⟩ := h.2 j _ hx
    have hs' : es = [.int .i64 (xs.getD j 0)] := hs
    subst hs'
    refine ⟨b, o, e, hb, ?_⟩
    have := hr 0 _ rfl
    simpa [Shape.int] using this⟩
theorem ListAt.of_ints {B : Nat} {w : World} {a : Option Addr} {n : Nat} {xs : List Int} (h : IntsIn B w a n xs) : ListAt Shape.int (Under B) w a n xs :=
  ⟨h.len, fun j x hx => by
    have hj := (List.getElem?_eq_some_iff.1 hx).1
    obtain ⟨b, o, e, hb, hc⟩ := h.cells j (by rw [← h.len]; exact hj)
    have hxe : xs.getD j 0 = x := by rw [List.getD_eq_getElem?_getD, hx]; rfl
    refine ⟨b, o, [.int .i64 x], e, hb, fun i v hv => ?_, rfl⟩
    cases i with
    | zero => cases hv; rw [← hxe]; simpa [Shape.int] using hc
    | succ i => simp at hv⟩
end Go.Proofs.Ytkmcfbopilieeaa

end

/-! YtkmcfbopilieeaaFill -/
section

namespace Go.Proofs.Ytkmcfbopilieeaa
open Go.RowKit
set_option linter.unusedVariables false

theorem run_make_many {P : Program} (t e : TypeId) (z : Value) (size bytes : Nat) (ht : P.underlying t = some (.slice e)) (hinfo : (P.info? e).map (fun i => (i.zero, i.size, i.bytes)) = some (some z, size, bytes))
    (n : Nat) (hbytes : bytes * n ≤ 281474976710656) (h63 : n ≤ 9223372036854775807) (w : World) :
    (Instr.makeSlice t (.int .i64 (n : Int)) (.int .i64 (n : Int))).run P w = .ok (.slice (some ⟨w.heap.size, 0, none⟩) n n) (w.alloc (.cells (madeCells z.cells (n * size)) e)) := by
  obtain ⟨i, hi, hzz⟩ := Option.map_eq_some_iff.1 hinfo
  simp only [Prod.mk.injEq] at hzz
  obtain ⟨hz, hs, hb⟩ := hzz
  have hb' : (i.bytes : Int) * (n : Int) ≤ 281474976710656 := by
    have h : ((i.bytes * n : Nat) : Int) ≤ 281474976710656 := by rw [hb]; omega
    rwa [Int.natCast_mul] at h
  have hr := run_make (P := P) w t e i z ht hi hz .i64 .i64 n n (by omega) (Int.le_refl _) hb' (by omega)
  simp only [Int.toNat_natCast, hs] at hr
  exact hr
theorem frozen_of_block {w w' : World} {a : Addr} (h : w'.heap[a.block]? = w.heap[a.block]?) : w'.frozen? a = w.frozen? a := World.frozen?_of_block h
theorem there_below {B : Nat} {w w' : World} {b o n : Nat} (h : w.there b o n) (hw : Below B w w') (hb : b < B) : w'.there b o n := fun j hj => by
  have h0 := h j hj
  rw [hw.cell (p := ⟨b, o + j, none⟩) hb, hw.frozen (p := ⟨b, o + j, none⟩) hb]
  exact h0
theorem there_part {w : World} {b o n o' n' : Nat} (h : w.there b o n) (h0 : o ≤ o') (h1 : o' + n' ≤ o + n) : w.there b o' n' := fun j hj => by
  have := h (o' + j - o) (by omega)
  rwa [show o + (o' + j - o) = o' + j by omega] at this
/-- The cells of what is there. -/
theorem there_cell {w : World} {b o n : Nat} (h : w.there b o n) (j : Nat) (hj : j < n) : (∃ v, w.cell? ⟨b, o + j, none⟩ = some v) ∧ w.frozen? ⟨b, o + j, none⟩ = false := by
  obtain ⟨h0, h1⟩ := h j hj
  exact ⟨Option.isSome_iff_exists.1 h0, h1⟩

/-- The first k places of a list that is made are filled: it lies in the block behind w; what its places lead to lies behind that. -/
structure Filled {α : Type} (S : Shape α) (w wr : World) (n k : Nat) (xs : List α) : Prop where
  below : Below w.heap.size w wr
  lt : w.heap.size < wr.heap.size
  done : ∀ j x, j < k → xs[j]? = some x → ∃ es, wr.rangeAt w.heap.size (j * S.size) es ∧ S.reads (From (w.heap.size + 1) wr.heap.size) wr es x
  rest : wr.there w.heap.size (k * S.size) ((n - k) * S.size)
theorem Filled.start {α : Type} (S : Shape α) (w : World) (n : Nat) (xs : List α) (z : Array Value) (e : TypeId) : Filled S w (w.alloc (.cells (madeCells z (n * S.size)) e)) n 0 xs where
  below := (Below.refl _ _).alloc (Nat.le_refl _) _
  lt := by simp
  done := fun j x hj => absurd hj (Nat.not_lt_zero _)
  rest := fun j hj => by
    have hj' : j < n * S.size := by simpa using hj
    have hb := heap_alloc_new w (.cells (madeCells z (n * S.size)) e)
    constructor
    · rw [cell_of_row _ _ _ _ _ _ hb]
      have : 0 * S.size + j < (madeCells z (n * S.size)).size := by rw [size_madeCells]; omega
      rw [Array.getElem?_eq_getElem this]
      rfl
    · exact frozen_of_row _ _ _ _ _ hb
theorem heap_setCells_other (g : Nat) : ∀ (cs : List Value) (o : Nat) (w : World) (b : Nat), b ≠ g → (w.setCells g o cs).heap[b]? = w.heap[b]?
  | [], _, _, _, _ => rfl
  | v :: vs, o, w, b, hb => by rw [World.setCells, heap_setCells_other g vs (o + 1) _ b hb]; exact Below.heap_setCell _ _ _ _ hb
theorem below_setCells {B : Nat} {a : World} (g : Nat) (hB : B ≤ g) : ∀ (cs : List Value) (o : Nat) (w : World), Below B a w → Below B a (w.setCells g o cs)
  | [], _, _, h => h
  | v :: vs, o, w, h => below_setCells g hB vs (o + 1) _ (h.setCell (p := ⟨g, o, none⟩) hB v)
theorem size_setCells (g : Nat) : ∀ (cs : List Value) (o : Nat) (w : World), (w.setCells g o cs).heap.size = w.heap.size
  | [], _, _ => rfl
  | v :: vs, o, w => by rw [World.setCells, size_setCells g vs (o + 1)]; simp
theorem Filled.step {α : Type} {S : Shape α} {w wr w1 : World} {n k : Nat} {xs : List α} {es : List Value} {x : α} (h : Filled S w wr n k xs) (hk : k < n) (hb : Below wr.heap.size wr w1) (hx : xs[k]? = some x)
    (hs : S.reads (From wr.heap.size w1.heap.size) w1 es x) : Filled S w (w1.setCells w.heap.size (k * S.size) es) n (k + 1) xs := by
  have hl := S.len hs
  have hlt := h.lt
  have hsz := hb.size
  have hmul : (n - k) * S.size = (n - (k + 1)) * S.size + S.size := by rw [show n - k = (n - (k + 1)) + 1 by omega, Nat.add_mul, Nat.one_mul]
  have hk1 : (k + 1) * S.size = k * S.size + S.size := by rw [Nat.add_mul, Nat.one_mul]
  have hth : w1.there w.heap.size (k * S.size) ((n - k) * S.size) := there_below h.rest hb hlt
  have hss := size_setCells w.heap.size es (k * S.size) w1
  refine ⟨below_setCells _ (Nat.le_refl _) _ _ _ (h.below.trans (hb.mono (Nat.le_of_lt hlt))), by omega, fun j y hj hy => ?_, ?_⟩
  · by_cases hjk : j < k
    · obtain ⟨es', hr, hs'⟩ := h.done j y hjk hy
      have hjl : j * S.size + S.size ≤ k * S.size := by
        have := Nat.mul_le_mul_right S.size (show j + 1 ≤ k by omega)
        rwa [Nat.add_mul, Nat.one_mul] at this
      refine ⟨es', World.rangeAt_setCells_apart (fun i v hv => (hb.cell (p := ⟨w.heap.size, j * S.size + i, none⟩) hlt).trans (hr i v hv)) _ _ _ (.inr (.inl (by rw [S.len hs']; exact hjl))), ?_⟩
      refine S.sub (S.keep hs' fun b hb' => ?_) fun b hb' => ⟨hb'.1, by rw [hss]; exact Nat.lt_of_lt_of_le hb'.2 hsz⟩
      rw [heap_setCells_other _ _ _ _ _ (by have := hb'.1; omega)]
      exact hb.block b hb'.2
    · obtain rfl : j = k := by omega
      rw [hx] at hy
      cases hy
      refine ⟨es, World.rangeAt_setCells_same _ _ _ _ (there_part hth (Nat.le_refl _) (by omega)), ?_⟩
      refine S.sub (S.keep hs fun b hb' => ?_) fun b hb' => ⟨by have := hb'.1; omega, by rw [hss]; exact hb'.2⟩
      exact heap_setCells_other _ _ _ _ _ (by have := hb'.1; omega)
  · exact World.there_setCells (there_part hth (by omega) (by omega)) _ _ _
theorem Filled.list {α : Type} {S : Shape α} {w wr : World} {n : Nat} {xs : List α} (h : Filled S w wr n n xs) (hl : xs.length = n) : ListAt S (From w.heap.size wr.heap.size) wr (some ⟨w.heap.size, 0, none⟩) n xs :=
  ⟨hl, fun j x hx => by
    obtain ⟨es, hr, hs⟩ := h.done j x (by rw [← hl]; exact (List.getElem?_eq_some_iff.1 hx).1) hx
    exact ⟨w.heap.size, 0, es, rfl, ⟨Nat.le_refl _, h.lt⟩, by rwa [Nat.zero_add], S.sub hs fun b hb => ⟨by have := hb.1; omega, hb.2⟩⟩⟩

/-! ### What is left behind so many places -/
def szN (b : Nat) (L : Int) : Int := if (b : Int) ≤ L then L - b else -1
theorem szN_yes {b : Nat} {L : Int} (h : (b : Int) ≤ L) : szN b L = L - b := if_pos h
theorem szN_no {b : Nat} {L : Int} (h : ¬ (b : Int) ≤ L) : szN b L = -1 := if_neg h
theorem sum_zero {α : Type} (xs : List α) : Shape.sum (fun _ => 0) xs = 0 := by
  induction xs with
  | nil => rfl
  | cons x xs ih => simp [Shape.sum, ih]
theorem bulk_ints (xs : List Int) : (Shape.list Shape.int).bulk xs = xs.length := by
  show xs.length + Shape.sum (fun _ => 0) xs = xs.length
  rw [sum_zero]
  rfl
theorem bulk_bools (xs : List Bool) : (Shape.list Shape.bool).bulk xs = xs.length := by
  show xs.length + Shape.sum (fun _ => 0) xs = xs.length
  rw [sum_zero]
  rfl
theorem sum_take {α : Type} (f : α → Nat) (xs : List α) (k : Nat) (x : α) (h : xs[k]? = some x) : Shape.sum f (xs.take (k + 1)) = Shape.sum f (xs.take k) + f x := by
  rw [List.take_add_one, h, Shape.sum_append]
  simp [Shape.sum]
theorem sum_take_le {α : Type} (f : α → Nat) (xs : List α) (k : Nat) : Shape.sum f (xs.take k) ≤ Shape.sum f xs := by
  have := Shape.sum_append f (xs.take k) (xs.drop k)
  rw [List.take_append_drop] at this
  omega
theorem bulk_mem {α : Type} (f : α → Nat) (xs : List α) (k : Nat) (x : α) (h : xs[k]? = some x) : f x ≤ Shape.sum f xs := by
  have h1 := sum_take f xs k x h
  have h2 := sum_take_le f xs (k + 1)
  omega
theorem bulk_list {α : Type} (S : Shape α) {I : Nat → Prop} {w : World} {a : Option Addr} {n : Nat} {xs : List α} (h : ListAt S I w a n xs) : (Shape.list S).bulk xs = n + Shape.sum S.bulk xs := by
  rw [← h.1]
  rfl

/-! ### A struct that is made in a variable of its own: the box of the argument, the box of the result, the variable -/
structure Boxes (w wr : World) (A Z O : Array Value) (TA T : TypeId) : Prop where
  below : Below w.heap.size w wr
  size : w.heap.size + 3 ≤ wr.heap.size
  a : wr.heap[w.heap.size]? = some (.cells A TA (0, 0))
  z : wr.heap[w.heap.size + 1]? = some (.cells Z T (0, 0))
  o : wr.heap[w.heap.size + 1 + 1]? = some (.cells O T (0, 0))
theorem Boxes.start (w : World) (A Z O : Array Value) (TA T : TypeId) : Boxes w (((w.alloc (.cells A TA (0, 0))).alloc (.cells Z T (0, 0))).alloc (.cells O T (0, 0))) A Z O TA T where
  below := (((Below.refl _ _).alloc (Nat.le_refl _) _).alloc (by simp) _).alloc (by simp; omega) _
  size := by simp
  a := by
    rw [Below.heap_alloc _ _ _ (by simp; omega), Below.heap_alloc _ _ _ (by simp)]
    exact heap_alloc_new w _
  z := by
    rw [Below.heap_alloc _ _ _ (by simp)]
    have := heap_alloc_new (w.alloc (.cells A TA (0, 0))) (.cells Z T (0, 0))
    simpa using this
  o := by
    have := heap_alloc_new ((w.alloc (.cells A TA (0, 0))).alloc (.cells Z T (0, 0))) (.cells O T (0, 0))
    simpa using this
theorem Boxes.call {w wr w1 : World} {A Z O : Array Value} {TA T : TypeId} (h : Boxes w wr A Z O TA T) (hb : Below wr.heap.size wr w1) : Boxes w w1 A Z O TA T := by
  have hs := h.size
  exact ⟨h.below.trans (hb.mono (by omega)), Nat.le_trans hs hb.size, (hb.block _ (by omega)).trans h.a, (hb.block _ (by omega)).trans h.z, (hb.block _ (by omega)).trans h.o⟩
theorem Boxes.store {w wr : World} {A Z O : Array Value} {TA T : TypeId} (h : Boxes w wr A Z O TA T) (i : Nat) (v : Value) : Boxes w (wr.setCell ⟨w.heap.size + 1 + 1, i, none⟩ v) A Z (O.setIfInBounds i v) TA T :=
  ⟨h.below.setCell (p := ⟨w.heap.size + 1 + 1, i, none⟩) (by show w.heap.size ≤ w.heap.size + 1 + 1; omega) v, by have := h.size; simpa using this,
    (heap_setCell_other _ _ _ _ (by show w.heap.size ≠ w.heap.size + 1 + 1; omega)).trans h.a, (heap_setCell_other _ _ _ _ (by show w.heap.size + 1 ≠ w.heap.size + 1 + 1; omega)).trans h.z,
    heap_setCell_same wr _ i O T v h.o⟩
theorem heap_setCells_all (g : Nat) (T : TypeId) : ∀ (vs pre old : List Value) (w : World), old.length = vs.length → w.heap[g]? = some (.cells (pre ++ old).toArray T (0, 0)) → (w.setCells g pre.length vs).heap[g]? = some (.cells (pre ++ vs).toArray T (0, 0))
  | [], pre, old, w, hl, h => by
    obtain rfl : old = [] := List.eq_nil_of_length_eq_zero hl
    exact h
  | v :: vs, pre, [], w, hl, h => by simp at hl
  | v :: vs, pre, u :: us, w, hl, h => by
    have h1 := heap_setCell_same w g pre.length _ T v h
    have h2 := heap_setCells_all g T vs (pre ++ [v]) us (w.setCell ⟨g, pre.length, none⟩ v) (by simpa using hl) (by
      rw [h1]
      simp)
    rw [List.length_append, List.length_singleton] at h2
    rw [World.setCells, h2]
    simp
theorem Boxes.result {w wr : World} {A Z O : Array Value} {TA T : TypeId} (h : Boxes w wr A Z O TA T) (vs : List Value) (hl : Z.size = vs.length) : (wr.setCells (w.heap.size + 1) 0 vs).heap[w.heap.size + 1]? = some (.cells vs.toArray T (0, 0)) := by
  have := heap_setCells_all (w.heap.size + 1) T vs [] Z.toList wr (by simpa using hl) (by simpa using h.z)
  simpa using this
theorem Boxes.last {w wr : World} {A Z O : Array Value} {TA T : TypeId} (h : Boxes w wr A Z O TA T) (vs : List Value) : Below w.heap.size w (wr.setCells (w.heap.size + 1) 0 vs) := below_setCells _ (by omega) _ _ _ h.below
/-- What lies behind the boxes stays there. -/
theorem ListAt.called {α : Type} {S : Shape α} {lo : Nat} {wr w1 : World} {a : Option Addr} {n : Nat} {xs : List α} (h : ListAt S (From lo wr.heap.size) wr a n xs) (hb : Below wr.heap.size wr w1) : ListAt S (From lo w1.heap.size) w1 a n xs :=
  (h.keep (fun b hb' => hb.block b hb'.2)).sub fun b hb' => ⟨hb'.1, Nat.lt_of_lt_of_le hb'.2 hb.size⟩
theorem ListAt.stored {α : Type} {S : Shape α} {lo : Nat} {wr : World} {a : Option Addr} {n : Nat} {xs : List α} (h : ListAt S (From lo wr.heap.size) wr a n xs) (g i : Nat) (v : Value) (hg : g < lo) : ListAt S (From lo (wr.setCell ⟨g, i, none⟩ v).heap.size) (wr.setCell ⟨g, i, none⟩ v) a n xs := by
  rw [show (wr.setCell ⟨g, i, none⟩ v).heap.size = wr.heap.size by simp]
  exact h.keep fun b hb' => heap_setCell_other _ _ _ _ (by have := hb'.1; show b ≠ g; omega)
theorem ListAt.storedAll {α : Type} {S : Shape α} {lo : Nat} {wr : World} {a : Option Addr} {n : Nat} {xs : List α} (h : ListAt S (From lo wr.heap.size) wr a n xs) (g i : Nat) (vs : List Value) (hg : g < lo) : ListAt S (From lo (wr.setCells g i vs).heap.size) (wr.setCells g i vs) a n xs := by
  rw [size_setCells]
  exact h.keep fun b hb' => heap_setCells_other _ _ _ _ _ (by have := hb'.1; omega)
theorem ListAt.lo {α : Type} {S : Shape α} {lo lo' hi : Nat} {w : World} {a : Option Addr} {n : Nat} {xs : List α} (h : ListAt S (From lo hi) w a n xs) (hl : lo' ≤ lo) : ListAt S (From lo' hi) w a n xs := h.sub fun b hb => ⟨Nat.le_trans hl hb.1, hb.2⟩
theorem ListAt.under {α : Type} {S : Shape α} {lo hi : Nat} {w : World} {a : Option Addr} {n : Nat} {xs : List α} (h : ListAt S (From lo hi) w a n xs) : ListAt S (Under hi) w a n xs := h.sub fun b hb => hb.2
theorem Shape.under {α : Type} (S : Shape α) {lo hi : Nat} {w : World} {cs : List Value} {d : α} (h : S.reads (From lo hi) w cs d) : S.reads (Under hi) w cs d := S.sub h fun b hb => hb.2
end Go.Proofs.Ytkmcfbopilieeaa

end
