/-
  Operations, drawn.
-/
import Derived.Test.YtkflinobmagiiaaJoin13
import Derived.Test.YtkflinobmagiiaaJoin17
namespace Go.Proofs.Ytkflinobmagiiaa
open Go.RowKit
set_option linter.unusedVariables false

/-- An operation was drawn. -/
def DrewO (lo m : Int) (L : Nat) (B : Nat) (w : World) (C : Nat) (e : Ending) (w' : World) : Prop := ∃ k i o v ps, e = .returned (.agg #[.int .i64 k, .int .i64 i, .int .i64 o, v]) ∧ ((-1 ≤ k ∧ k ≤ 7) ∧ (lo ≤ i ∧ i ≤ m) ∧ (lo ≤ o ∧ o ≤ m) ∧ ps.length ≤ L) ∧ Row w.heap.size w' v ps ∧ Turned B w w' C
theorem intsIn_none (B : Nat) (w : World) : IntsIn B w none 0 [] := ⟨rfl, by omega, fun j hj => by omega⟩
theorem Row.setOther {base : Nat} {w : World} {v : Value} {zs : List Int} (h : Row base w v zs) (a : Addr) (u : Value) (hne : ∀ k, v.ownBlock = some k → k ≠ a.block) : Row base (w.setCell a u) v zs :=
  h.kept (grownBy_setCell w a u) (by
    cases hv : v.ownBlock with
    | none => exact .inl rfl
    | some k => exact .inr fun e => hne k hv (Option.some.inj e))
/-- A row lies in no block of another type. -/
theorem Row.apart {base : Nat} {w : World} {v : Value} {xs : List Int} (h : Row base w v xs) {b : Nat} {cs : Array Value} {t : TypeId} {fz : Nat × Nat} (hb : w.heap[b]? = some (.cells cs t fz)) (ht : t ≠ 3) : ∀ k, v.ownBlock = some k → k ≠ b := by
  intro k hk e
  rcases h.2 with ⟨rfl, _⟩ | ⟨g, cap, cur, rfl, _, hg, _⟩
  · cases hk
  · cases hk
    subst e
    rw [hg] at hb
    cases hb
    exact ht rfl
theorem opSz_bound (k i o : Int) : 0 ≤ opSz k i o ∧ opSz k i o ≤ 36 := by
  unfold opSz
  split
  · rename_i h
    simp only [Bool.and_eq_true] at h
    have hp := prod36 h.1 h.2
    have hi := inB_has h.1
    split
    · omega
    · split
      · omega
      · split <;> omega
  · omega

set_option maxRecDepth 100000 in
set_option maxHeartbeats 500000 in
theorem l5Op_e (B : Nat) (w : World) (C : Nat) (i : Int) (hi0 : 1 ≤ i) (hi1 : i ≤ 3) (hc : Cu B w C) :
    Calls Try.prog 99 #[.pointer (some ⟨C, 0, none⟩), .int .i64 i] w (DrewO 1 3 36 B w C) := by
  have HC := Lib.hid hc
  have hlt := hc.lt
  have T0 := Lib.hid ((Turned.refl hc).alloc (.cells #[.int .i64 0, .int .i64 0, .int .i64 0, .slice none 0 0] 72 (0, 0)))
  have hb0 := heap_alloc_new w (.cells #[.int .i64 0, .int .i64 0, .int .i64 0, .slice none 0 0] 72 (0, 0))
  have hs0 : w.heap.size < (w.alloc (.cells #[.int .i64 0, .int .i64 0, .int .i64 0, .slice none 0 0] 72 (0, 0))).heap.size := by simp
  have HB0 := Lib.hid hb0
  clear hc hb0
  go_enter Try.func99, Try.ntmps99
  go_wp2_with fail
  generalize w.alloc (.cells #[.int .i64 0, .int .i64 0, .int .i64 0, .slice none 0 0] 72 (0, 0)) = wa at HB0 T0 hs0 ⊢
  refine (l1Below_e B _ C 5 (by omega) T0.out.cu).mono ?_
  rintro e w1 ⟨x, rfl, ⟨x0, x1⟩, ht1⟩
  have RB1 := Lib.hid ((ht1.block hs0 (by omega)).trans HB0.out)
  have T1 := Lib.hid (T0.out.trans ht1)
  have hs1 := ht1.size
  clear ht1
  obtain ⟨K, hK⟩ : ∃ K : Int, 1 + x = K := ⟨_, rfl⟩
  have hK0 : 1 ≤ K := by omega
  have hK5 : K ≤ 5 := by omega
  go_upto_region 2 with fail
  clear hK x0 x1
  have hk := heap_alloc_new w1 (.cells #[.int .i64 K, .int .i64 i, .int .i64 i, .slice none 0 0] 72 (0, 0))
  have ht := T1.out.alloc (.cells #[.int .i64 K, .int .i64 i, .int .i64 i, .slice none 0 0] 72 (0, 0))
  have hr := (Below.heap_alloc w1 (.cells #[.int .i64 K, .int .i64 i, .int .i64 i, .slice none 0 0] 72 (0, 0)) w.heap.size (by omega)).trans RB1.out
  have hs2 : w1.heap.size < (w1.alloc (.cells #[.int .i64 K, .int .i64 i, .int .i64 i, .slice none 0 0] 72 (0, 0))).heap.size := by simp
  generalize w1.alloc (.cells #[.int .i64 K, .int .i64 i, .int .i64 i, .slice none 0 0] 72 (0, 0)) = w2 at hk ht hr hs2 ⊢
  have BX2 := Lib.hid hk
  have TT2 := Lib.hid ht
  have RB2 := Lib.hid hr
  clear hk ht hr
  by_cases k1 : K = 1
  · subst k1
    obtain ⟨⟨d0, d1, d2, d3⟩, -⟩ := cells4 BX2.out
    go_wp2_with fail
    clear d0 d1 d2 d3
    refine (l1Below_e B _ C 3 (by omega) TT2.out.cu).mono ?_
    rintro e w20 ⟨y, rfl, ⟨y0, y1⟩, ht2⟩
    have hs20 := ht2.size
    have hbx := (ht2.block (by omega) (by omega)).trans BX2.out
    have hrb := (ht2.block (by omega) (by omega)).trans RB2.out
    have ht20 := TT2.out.trans ht2
    obtain ⟨O, hO⟩ : ∃ O : Int, 1 + y = O := ⟨_, rfl⟩
    have hO0 : 1 ≤ O := by omega
    have hO3 : O ≤ 3 := by omega
    obtain ⟨⟨d0, d1, d2, d3⟩, f0, f1, f2, f3⟩ := cells4 hbx
    go_upto_region 4 with fail
    clear hO y0 y1 ht2
    clear d0 d1 d2 d3 f0 f1 f2 f3
    have hb22 : (w20.setCell ⟨w1.heap.size, 2, none⟩ (.int .i64 O)).heap[w1.heap.size]? = some (.cells #[.int .i64 1, .int .i64 i, .int .i64 O, .slice none 0 0] 72 (0, 0)) := heap_setCell_same w20 w1.heap.size 2 _ _ _ hbx
    have hr22 := (heap_setCell_other w20 ⟨w1.heap.size, 2, none⟩ w.heap.size (.int .i64 O) (by show w.heap.size ≠ w1.heap.size; omega)).trans hrb
    have ht22 := ht20.setCell hlt ⟨w1.heap.size, 2, none⟩ (.int .i64 O) (by show w.heap.size ≤ w1.heap.size; omega)
    have hs22 : w20.heap.size ≤ (w20.setCell ⟨w1.heap.size, 2, none⟩ (.int .i64 O)).heap.size := by simp
    generalize w20.setCell ⟨w1.heap.size, 2, none⟩ (.int .i64 O) = w22 at hb22 hr22 ht22 hs22 ⊢
    have BX := Lib.hid hb22
    have RB := Lib.hid hr22
    have TT := Lib.hid ht22
    clear hb22 hr22 ht22 hbx hrb ht20
    obtain ⟨⟨d0, d1, d2, d3⟩, -⟩ := cells4 BX.out
    go_wp2_with fail
    refine (specOpSize_any w22 1 i O none 0 0 [] (intsIn_none _ _)).mono ?_
    rintro e w3 ⟨rfl, hb3⟩
    have hs3 := hb3.size
    have BX3 := Lib.hid ((hb3.block w1.heap.size (by omega)).trans BX.out)
    have RB3 := Lib.hid ((hb3.block w.heap.size (by omega)).trans RB.out)
    have T3 := Lib.hid (TT.out.then hb3)
    clear hb3 d0 d1 d2 d3
    obtain ⟨N, hN⟩ : ∃ N : Nat, opSz 1 i O = N := ⟨(opSz 1 i O).toNat, by have := opSz_bound 1 i O; omega⟩
    have hN36 : N ≤ 36 := by have := opSz_bound 1 i O; omega
    rw [hN]
    clear hN
    go_wp2_with fail
    refine (l3Vec_e B _ C N (by omega) T3.out.cu).mono ?_
    rintro e w4 ⟨v, ps, rfl, hpl, hrow, ht4⟩
    have hs4 := ht4.size
    have hbx := (ht4.block (by omega) (by omega)).trans BX3.out
    have hrb := (ht4.block (by omega) (by omega)).trans RB3.out
    obtain ⟨a5, c5, rfl, -⟩ := hrow.form
    rw [hpl] at hrow ⊢
    have LEN := Lib.hid hpl
    clear hpl
    obtain ⟨⟨d0, d1, d2, d3⟩, f0, f1, f2, f3⟩ := cells4 hbx
    obtain ⟨⟨p0, p1, p2, p3⟩, q0, q1, q2, q3⟩ := cells4 hrb
    have RBF := Lib.hid ((heap_setCell_other w4 ⟨w1.heap.size, 3, none⟩ w.heap.size (.slice a5 N c5) (by show w.heap.size ≠ w1.heap.size; omega)).trans hrb)
    have T4 := Lib.hid (T3.out.trans ht4)
    have TF := Lib.hid (T4.out.setCell hlt ⟨w1.heap.size, 3, none⟩ (.slice a5 N c5) (by show w.heap.size ≤ w1.heap.size; omega))
    have HRF := Lib.hid (hrow.setBelow (a := ⟨w1.heap.size, 3, none⟩) (by show w1.heap.size < w3.heap.size; omega) (.slice a5 N c5))
    clear ht4 hbx hrb hrow
    go_wp2_with fail
    refine bodyPost_ret (results_cell_row rfl _ _ w.heap.size 72 #[.int .i64 1, .int .i64 i, .int .i64 O, .slice a5 N c5] (0, 0) _ rfl ?_ Try.underlying72 rfl (by kernel_rfl)) rfl ?_
    · exact store4 RBF.out _ _ _ _
    exact ⟨_, _, _, _, _, rfl, ⟨by omega, by omega, by omega, by rw [LEN.out]; omega⟩, ((((HRF.out.setBelow (by show w.heap.size < _; omega) _).setBelow (by show w.heap.size < _; omega) _).setBelow (by show w.heap.size < _; omega) _).setBelow (by show w.heap.size < _; omega) _).le (by omega), (((TF.out.setCell hlt _ _ (Nat.le_refl _)).setCell hlt _ _ (Nat.le_refl _)).setCell hlt _ _ (Nat.le_refl _)).setCell hlt _ _ (Nat.le_refl _)⟩
  · have kb : (K == 1) = false := by simpa using k1
    obtain ⟨⟨d0, d1, d2, d3⟩, -⟩ := cells4 BX2.out
    go_upto_region 4 with fail
    clear d0 d1 d2 d3
    have BX := BX2
    have RB := RB2
    have TT := TT2
    clear BX2 RB2 TT2
    obtain ⟨⟨d0, d1, d2, d3⟩, -⟩ := cells4 BX.out
    go_wp2_with fail
    refine (specOpSize_any w2 K i i none 0 0 [] (intsIn_none _ _)).mono ?_
    rintro e w3 ⟨rfl, hb3⟩
    have hs3 := hb3.size
    have BX3 := Lib.hid ((hb3.block w1.heap.size (by omega)).trans BX.out)
    have RB3 := Lib.hid ((hb3.block w.heap.size (by omega)).trans RB.out)
    have T3 := Lib.hid (TT.out.then hb3)
    clear hb3 d0 d1 d2 d3
    obtain ⟨N, hN⟩ : ∃ N : Nat, opSz K i i = N := ⟨(opSz K i i).toNat, by have := opSz_bound K i i; omega⟩
    have hN36 : N ≤ 36 := by have := opSz_bound K i i; omega
    rw [hN]
    clear hN
    go_wp2_with fail
    refine (l3Vec_e B _ C N (by omega) T3.out.cu).mono ?_
    rintro e w4 ⟨v, ps, rfl, hpl, hrow, ht4⟩
    have hs4 := ht4.size
    have hbx := (ht4.block (by omega) (by omega)).trans BX3.out
    have hrb := (ht4.block (by omega) (by omega)).trans RB3.out
    obtain ⟨a5, c5, rfl, -⟩ := hrow.form
    rw [hpl] at hrow ⊢
    have LEN := Lib.hid hpl
    clear hpl
    obtain ⟨⟨d0, d1, d2, d3⟩, f0, f1, f2, f3⟩ := cells4 hbx
    obtain ⟨⟨p0, p1, p2, p3⟩, q0, q1, q2, q3⟩ := cells4 hrb
    have RBF := Lib.hid ((heap_setCell_other w4 ⟨w1.heap.size, 3, none⟩ w.heap.size (.slice a5 N c5) (by show w.heap.size ≠ w1.heap.size; omega)).trans hrb)
    have T4 := Lib.hid (T3.out.trans ht4)
    have TF := Lib.hid (T4.out.setCell hlt ⟨w1.heap.size, 3, none⟩ (.slice a5 N c5) (by show w.heap.size ≤ w1.heap.size; omega))
    have HRF := Lib.hid (hrow.setBelow (a := ⟨w1.heap.size, 3, none⟩) (by show w1.heap.size < w3.heap.size; omega) (.slice a5 N c5))
    clear ht4 hbx hrb hrow
    go_wp2_with fail
    refine bodyPost_ret (results_cell_row rfl _ _ w.heap.size 72 #[.int .i64 K, .int .i64 i, .int .i64 i, .slice a5 N c5] (0, 0) _ rfl ?_ Try.underlying72 rfl (by kernel_rfl)) rfl ?_
    · exact store4 RBF.out _ _ _ _
    exact ⟨_, _, _, _, _, rfl, ⟨by omega, by omega, by omega, by rw [LEN.out]; omega⟩, ((((HRF.out.setBelow (by show w.heap.size < _; omega) _).setBelow (by show w.heap.size < _; omega) _).setBelow (by show w.heap.size < _; omega) _).setBelow (by show w.heap.size < _; omega) _).le (by omega), (((TF.out.setCell hlt _ _ (Nat.le_refl _)).setCell hlt _ _ (Nat.le_refl _)).setCell hlt _ _ (Nat.le_refl _)).setCell hlt _ _ (Nat.le_refl _)⟩

set_option maxRecDepth 100000 in
set_option maxHeartbeats 500000 in
theorem l5Any_e (B : Nat) (w : World) (C : Nat) (hc : Cu B w C) :
    Calls Try.prog 89 #[.pointer (some ⟨C, 0, none⟩)] w (DrewO 0 8 37 B w C) := by
  obtain ⟨i0, hi0, hz0, hz1, hz2⟩ := info_parts Try.infoI64
  have HC := Lib.hid hc
  have hlt := hc.lt
  have T0 := Lib.hid ((Turned.refl hc).alloc (.cells #[.int .i64 0, .int .i64 0, .int .i64 0, .slice none 0 0] 72 (0, 0)))
  have hb0 := heap_alloc_new w (.cells #[.int .i64 0, .int .i64 0, .int .i64 0, .slice none 0 0] 72 (0, 0))
  have hs0 : w.heap.size < (w.alloc (.cells #[.int .i64 0, .int .i64 0, .int .i64 0, .slice none 0 0] 72 (0, 0))).heap.size := by simp
  have HB0 := Lib.hid hb0
  clear hc hb0
  go_enter Try.func89, Try.ntmps89
  go_wp2_with fail
  generalize w.alloc (.cells #[.int .i64 0, .int .i64 0, .int .i64 0, .slice none 0 0] 72 (0, 0)) = wa at HB0 T0 hs0 ⊢
  refine (l1Below_e B _ C 3 (by omega) T0.out.cu).mono ?_
  rintro e w1 ⟨x, rfl, ⟨x0, x1⟩, ht1⟩
  have RB1 := Lib.hid ((ht1.block hs0 (by omega)).trans HB0.out)
  have T1 := Lib.hid (T0.out.trans ht1)
  have hs1 := ht1.size
  clear ht1
  obtain ⟨ii, hii⟩ : ∃ ii : Int, 1 + x = ii := ⟨_, rfl⟩
  have hii0 : 1 ≤ ii := by omega
  have hii3 : ii ≤ 3 := by omega
  go_wp2_with fail
  clear hii x0 x1
  refine (l5Op_e B _ C ii hii0 hii3 T1.out.cu).mono ?_
  rintro e w2 ⟨K, i, o, v, ps, rfl, ⟨⟨k0, k1⟩, ⟨i0', i1⟩, ⟨o0, o1⟩, hpl⟩, hrow, ht2⟩
  have RB2 := Lib.hid ((ht2.block (by omega) (by omega)).trans RB1.out)
  have T2 := Lib.hid (T1.out.trans ht2)
  have hs2 := ht2.size
  obtain ⟨N, hN⟩ : ∃ N, ps.length = N := ⟨_, rfl⟩
  obtain ⟨a5, c5, rfl, -⟩ := hrow.form
  rw [hN] at hrow hpl ⊢
  have HR2 := Lib.hid hrow
  have LEN := Lib.hid hN
  clear ht2 hrow hN
  go_upto_region 2 with fail
  have hk := heap_alloc_new w2 (.cells #[.int .i64 K, .int .i64 i, .int .i64 o, .slice a5 N c5] 72 (0, 0))
  have ht := T2.out.alloc (.cells #[.int .i64 K, .int .i64 i, .int .i64 o, .slice a5 N c5] 72 (0, 0))
  have hr := HR2.out.below ((Below.refl w2.heap.size w2).alloc (Nat.le_refl _) (.cells #[.int .i64 K, .int .i64 i, .int .i64 o, .slice a5 N c5] 72 (0, 0)))
  have hb := (Below.heap_alloc w2 (.cells #[.int .i64 K, .int .i64 i, .int .i64 o, .slice a5 N c5] 72 (0, 0)) w.heap.size (by omega)).trans RB2.out
  have hs4 : w2.heap.size < (w2.alloc (.cells #[.int .i64 K, .int .i64 i, .int .i64 o, .slice a5 N c5] 72 (0, 0))).heap.size := by simp
  generalize w2.alloc (.cells #[.int .i64 K, .int .i64 i, .int .i64 o, .slice a5 N c5] 72 (0, 0)) = w4 at hk ht hr hb hs4 ⊢
  have T4 := Lib.hid ht
  have BX4 := Lib.hid hk
  have HR4 := Lib.hid hr
  have RB4 := Lib.hid hb
  clear hk ht hr hb
  go_wp2_with fail
  refine (l1Below_e B _ C 14 (by omega) T4.out.cu).mono ?_
  rintro e w5 ⟨k, rfl, ⟨_, _⟩, ht5⟩
  have hs5 := ht5.size
  have BX5 := Lib.hid ((ht5.block hs4 (by omega)).trans BX4.out)
  have RB5 := Lib.hid ((ht5.block (by omega) (by omega)).trans RB4.out)
  have HR5 := Lib.hid (HR4.out.turned (by omega) ht5)
  have T5 := Lib.hid (T4.out.trans ht5)
  clear ht5
  by_cases e0 : k = 0
  · subst e0
    go_wp2_with fail
    refine (l1Below_e B _ C 8 (by omega) T5.out.cu).mono ?_
    rintro e w6 ⟨y, rfl, ⟨y0, y1⟩, ht6⟩
    have hs6 := ht6.size
    have hbx := (ht6.block (by omega) (by omega)).trans BX5.out
    have hrb := (ht6.block (by omega) (by omega)).trans RB5.out
    have hr6 := HR5.out.turned (by omega) ht6
    have T6 := Lib.hid (T5.out.trans ht6)
    obtain ⟨KK, hKK⟩ : ∃ KK : Int, y - 1 = KK := ⟨_, rfl⟩
    have hKK0 : -1 ≤ KK := by omega
    have hKK7 : KK ≤ 7 := by omega
    clear ht6
    obtain ⟨⟨d0, d1, d2, d3⟩, f0, f1, f2, f3⟩ := cells4 hbx
    obtain ⟨⟨p0, p1, p2, p3⟩, q0, q1, q2, q3⟩ := cells4 hrb
    have RB := Lib.hid ((heap_setCell_other w6 ⟨w2.heap.size, 0, none⟩ w.heap.size (.int .i64 KK) (by show w.heap.size ≠ w2.heap.size; omega)).trans hrb)
    have HRF := Lib.hid (hr6.setOther ⟨w2.heap.size, 0, none⟩ (.int .i64 KK) (fun k hk => by have := (HR2.out.lt k hk).2; show k ≠ w2.heap.size; omega))
    have TF := Lib.hid (T6.out.setCell hlt ⟨w2.heap.size, 0, none⟩ (.int .i64 KK) (by show w.heap.size ≤ w2.heap.size; omega))
    clear hbx hrb hr6
    go_wp2_with fail
    refine bodyPost_ret (results_cell_row rfl _ _ w.heap.size 72 #[.int .i64 KK, .int .i64 i, .int .i64 o, .slice a5 N c5] (0, 0) _ rfl ?_ Try.underlying72 rfl (by kernel_rfl)) rfl ?_
    · exact store4 RB.out _ _ _ _
    exact ⟨_, _, _, _, _, rfl, ⟨by omega, by omega, by omega, by rw [LEN.out]; omega⟩, ((((HRF.out.setBelow (by show w.heap.size < _; omega) _).setBelow (by show w.heap.size < _; omega) _).setBelow (by show w.heap.size < _; omega) _).setBelow (by show w.heap.size < _; omega) _).le (by omega), (((TF.out.setCell hlt _ _ (Nat.le_refl _)).setCell hlt _ _ (Nat.le_refl _)).setCell hlt _ _ (Nat.le_refl _)).setCell hlt _ _ (Nat.le_refl _)⟩
  · have t0 : (k == 0) = false := by simpa using e0
    by_cases e1 : k = 1
    · subst e1
      obtain ⟨⟨d0, d1, d2, d3⟩, -⟩ := cells4 BX5.out
      go_wp2_with fail
      clear d0 d1 d2 d3
      have hsa : w5.heap.size < (w5.alloc (.cells #[.int .i64 0, .int .i64 7, .int .i64 (i + 1)] 3 (0, 0))).heap.size := by simp
      have hTa := T5.out.alloc (.cells #[.int .i64 0, .int .i64 7, .int .i64 (i + 1)] 3 (0, 0))
      have hBa := (Below.heap_alloc w5 (.cells #[.int .i64 0, .int .i64 7, .int .i64 (i + 1)] 3 (0, 0)) w2.heap.size (by omega)).trans BX5.out
      have hRa := (Below.heap_alloc w5 (.cells #[.int .i64 0, .int .i64 7, .int .i64 (i + 1)] 3 (0, 0)) w.heap.size (by omega)).trans RB5.out
      have hra := HR5.out.below ((Below.refl w5.heap.size w5).alloc (Nat.le_refl _) (.cells #[.int .i64 0, .int .i64 7, .int .i64 (i + 1)] 3 (0, 0)))
      refine (l1PickInt_e B _ C w5.heap.size 3 [0, 7, i + 1] (fun x => 0 ≤ x ∧ x ≤ 8) rfl (by omega) (by omega) (fun x hx => by simp at hx; omega) hTa.cu (by omega) (fun j hj => ints_cells w5 [0, 7, i + 1] _ j hj)).mono ?_
      rintro e w6 ⟨RR, rfl, ⟨rr0, rr8⟩, ht6⟩
      have hs6 := ht6.size
      have hbx := (ht6.block (by omega) (by omega)).trans hBa
      have hrb := (ht6.block (by omega) (by omega)).trans hRa
      have hr6 := hra.turned (by omega) ht6
      have T6 := Lib.hid (hTa.trans ht6)
      clear hTa hBa hRa hra ht6
      obtain ⟨⟨d0, d1, d2, d3⟩, f0, f1, f2, f3⟩ := cells4 hbx
      obtain ⟨⟨p0, p1, p2, p3⟩, q0, q1, q2, q3⟩ := cells4 hrb
      have RB := Lib.hid ((heap_setCell_other w6 ⟨w2.heap.size, 1, none⟩ w.heap.size (.int .i64 RR) (by show w.heap.size ≠ w2.heap.size; omega)).trans hrb)
      have HRF := Lib.hid (hr6.setOther ⟨w2.heap.size, 1, none⟩ (.int .i64 RR) (fun k hk => by have := (HR2.out.lt k hk).2; show k ≠ w2.heap.size; omega))
      have TF := Lib.hid (T6.out.setCell hlt ⟨w2.heap.size, 1, none⟩ (.int .i64 RR) (by show w.heap.size ≤ w2.heap.size; omega))
      clear hbx hrb hr6
      go_wp2_with fail
      refine bodyPost_ret (results_cell_row rfl _ _ w.heap.size 72 #[.int .i64 K, .int .i64 RR, .int .i64 o, .slice a5 N c5] (0, 0) _ rfl ?_ Try.underlying72 rfl (by kernel_rfl)) rfl ?_
      · exact store4 RB.out _ _ _ _
      exact ⟨_, _, _, _, _, rfl, ⟨by omega, by omega, by omega, by rw [LEN.out]; omega⟩, ((((HRF.out.setBelow (by show w.heap.size < _; omega) _).setBelow (by show w.heap.size < _; omega) _).setBelow (by show w.heap.size < _; omega) _).setBelow (by show w.heap.size < _; omega) _).le (by omega), (((TF.out.setCell hlt _ _ (Nat.le_refl _)).setCell hlt _ _ (Nat.le_refl _)).setCell hlt _ _ (Nat.le_refl _)).setCell hlt _ _ (Nat.le_refl _)⟩
    · have t1 : (k == 1) = false := by simpa using e1
      by_cases e2 : k = 2
      · subst e2
        obtain rfl : ps.length = N := LEN.out
        obtain ⟨⟨d0, d1, d2, d3⟩, f0, f1, f2, f3⟩ := cells4 BX5.out
        have hown : w5.ownsRow w1.heap.size 3 1 (.slice a5 ps.length c5) ps.length (icells ps) := HR5.out
        have hs15 : w1.heap.size ≤ w5.heap.size := by omega
        go_wp2_with (at_builtin; refine wpList_append_own _ rfl _ _ 27 rfl w1.heap.size 3 i0 (.int .i64 0) 1 8 Try.underlying27 hi0 hz0 hz1 hz2 rfl (by decide) _ _ _ rfl (hown.alloc _) ⟨w5.heap.size, 0, none⟩ 1 1 (icells [0]) rfl rfl (cell_num_put _ _ _) (icells_one _) (by unfold maxLen; omega) (by omega) (by simp; omega) ?_; intro v6 w6 hown6 hgrow6 h8; clear h8; obtain ⟨a6, c6, rfl⟩ := own_form hown6; have hg7 : (w5.alloc (.cells #[.int .i64 0] 3 (0, 0))).grownBy w6 (Value.slice a5 ps.length c5).ownBlock := hgrow6; have hg2 : ∀ k, (Value.slice a5 ps.length c5).ownBlock = some k → w1.heap.size ≤ k ∧ w.heap.size ≤ k ∧ k ≠ C ∧ k < w2.heap.size := (fun k hk => by have := HR2.out.lt k hk; omega); have hbx := (hg7.block w2.heap.size (by simp; omega) (fun e => by have := hg2 _ e.symm; omega)).trans ((Below.heap_alloc w5 (.cells #[.int .i64 0] 3 (0, 0)) w2.heap.size (by omega)).trans BX5.out); have hrb := (hg7.block w.heap.size (by simp; omega) (fun e => by have := hg2 _ e.symm; omega)).trans ((Below.heap_alloc w5 (.cells #[.int .i64 0] 3 (0, 0)) w.heap.size (by omega)).trans RB5.out); have hput := Row.put (HR5.out) hs15 _ hown6 hg7; have htt := T5.out.put hlt (HR5.out.le (by omega)) _ hg7; have hs6 := hg7.size; clear d0 d1 d2 d3 f0 f1 f2 f3 hown hgrow6 hown6 hg7 hg2; obtain ⟨⟨d0, d1, d2, d3⟩, f0, f1, f2, f3⟩ := cells4 hbx; obtain ⟨⟨p0, p1, p2, p3⟩, q0, q1, q2, q3⟩ := cells4 hrb; have H6 := Lib.hid hput.1; have HT6 := Lib.hid htt; have RB6 := Lib.hid ((heap_setCell_other w6 ⟨w2.heap.size, 3, none⟩ w.heap.size (.slice a6 (ps.length + 1) c6) (by show w.heap.size ≠ w2.heap.size; omega)).trans hrb); have HRF := Lib.hid (hput.1.setOther ⟨w2.heap.size, 3, none⟩ (.slice a6 (ps.length + 1) c6) (hput.1.apart hbx (by decide))); have TF := Lib.hid (htt.setCell hlt ⟨w2.heap.size, 3, none⟩ (.slice a6 (ps.length + 1) c6) (by show w.heap.size ≤ w2.heap.size; omega)); clear hput htt hbx hrb)
        refine bodyPost_ret (results_cell_row rfl _ _ w.heap.size 72 #[.int .i64 K, .int .i64 i, .int .i64 o, .slice a6 (ps.length + 1) c6] (0, 0) _ rfl ?_ Try.underlying72 rfl (by kernel_rfl)) rfl ?_
        · exact store4 RB6.out _ _ _ _
        exact ⟨_, _, _, _, _, rfl, ⟨by omega, by omega, by omega, by rw [List.length_append]; show ps.length + 1 ≤ 37; omega⟩, ((((HRF.out.setBelow (by show w.heap.size < _; omega) _).setBelow (by show w.heap.size < _; omega) _).setBelow (by show w.heap.size < _; omega) _).setBelow (by show w.heap.size < _; omega) _).le (by omega), (((TF.out.setCell hlt _ _ (Nat.le_refl _)).setCell hlt _ _ (Nat.le_refl _)).setCell hlt _ _ (Nat.le_refl _)).setCell hlt _ _ (Nat.le_refl _)⟩
      · have t2 : (k == 2) = false := by simpa using e2
        by_cases e3 : k = 3
        · subst e3
          by_cases hPn : 0 < N
          · obtain ⟨g, cp, hv, hg1, hg2⟩ := HR2.out.first (by rw [LEN.out]; exact hPn)
            obtain ⟨rfl, rfl⟩ : a5 = some ⟨g, 0, none⟩ ∧ c5 = cp := by cases hv; exact ⟨rfl, rfl⟩
            clear hv
            have hdr : Below w5.heap.size w5 w5.drew := (Below.refl _ _).drew
            have hcd : Cu B w5.drew C := T5.out.cu.below hdr
            have htd : Turned B w w5.drew C := T5.out.then hdr
            have hbd : w5.drew.heap[w2.heap.size]? = some (.cells #[.int .i64 K, .int .i64 i, .int .i64 o, .slice (some ⟨g, 0, none⟩) N c5] 72 (0, 0)) := BX5.out
            have hrd : w5.drew.heap[w.heap.size]? = some (.cells #[.int .i64 0, .int .i64 0, .int .i64 0, .slice none 0 0] 72 (0, 0)) := RB5.out
            have hrr : Row w1.heap.size w5.drew (.slice (some ⟨g, 0, none⟩) N c5) ps := HR5.out.below hdr
            have hsd : w5.heap.size ≤ w5.drew.heap.size := hdr.size
            have CD := Lib.hid hcd
            have TD := Lib.hid htd
            have BD := Lib.hid hbd
            have RD := Lib.hid hrd
            have RRD := Lib.hid hrr
            obtain ⟨⟨d0, d1, d2, d3⟩, -⟩ := cells4 BX5.out
            clear hdr hcd htd hbd hrd hrr
            have hne1 : ¬ g = w2.heap.size := by omega
            have hne2 : ¬ w2.heap.size = g := by omega
            have hne3 : ¬ g = w.heap.size := by omega
            have hne4 : ¬ w.heap.size = g := by omega
            have hP0 : (0 : Int) < (N : Int) := by omega
            have hPz : ¬ N = 0 := by omega
            have hPl : ¬ N ≤ 0 := by omega
            go_wp2_with fail
            go_region_law (go_simp; go_at_call 101; (refine (l2Raw_e B _ C CD.out).mono ?_); rintro e w6 ⟨z, rfl, -, ht6⟩; have hs6 := ht6.size; have hbx := (ht6.block (by omega) (by omega)).trans BD.out; have hrb := (ht6.block (by omega) (by omega)).trans RD.out; have hr6 := RRD.out.turned (by omega) ht6; have T6 := Lib.hid (TD.out.trans ht6); obtain ⟨⟨d0', d1', d2', d3'⟩, f0, f1, f2, f3⟩ := cells4 hbx; obtain ⟨⟨p0, p1, p2, p3⟩, q0, q1, q2, q3⟩ := cells4 hrb; have BX6 := Lib.hid hbx; have RB6 := Lib.hid hrb; have HR6 := Lib.hid hr6; have hown : w6.ownsRow w1.heap.size 3 1 (.slice (some ⟨g, 0, none⟩) N c5) N (icells ps) := (by have := hr6; unfold Row at this; rw [LEN.out] at this; exact this); have hfr := World.ownsRow.frozenAt hown 0; obtain ⟨u, hu⟩ : ∃ u, w6.cell? ⟨g, 0, none⟩ = some u := (by rw [World.ownsRow.cellAt hown 0 (by omega)]; exact ⟨_, List.getElem?_eq_getElem (by rw [icells_length, LEN.out]; omega)⟩); have ST := Lib.hid (World.ownsRow.stored hown 0 (.int .i64 z)).1; clear hbx hrb hr6 hown ht6)
            all_goals
              have RB : Hid ((w6.setCell ⟨g, 0, none⟩ (.int .i64 z)).heap[w.heap.size]? = some (.cells #[.int .i64 0, .int .i64 0, .int .i64 0, .slice none 0 0] 72 (0, 0))) := Lib.hid ((heap_setCell_other _ _ _ _ (by show w.heap.size ≠ g; omega)).trans RB6.out)
              have TF := Lib.hid (T6.out.setCell hlt ⟨g, 0, none⟩ (.int .i64 z) (by show w.heap.size ≤ g; omega))
              have HRF : Hid (Row w1.heap.size (w6.setCell ⟨g, 0, none⟩ (.int .i64 z)) (.slice (some ⟨g, 0, none⟩) N c5) (ps.set 0 z)) := by
                have h1 := ST.out
                rw [icells_set] at h1
                show Row _ _ _ _
                unfold Row
                rw [List.length_set, LEN.out]
                exact h1
              go_wp2_with fail
              refine bodyPost_ret (results_cell_row rfl _ _ w.heap.size 72 #[.int .i64 K, .int .i64 i, .int .i64 o, .slice (some ⟨g, 0, none⟩) N c5] (0, 0) _ rfl ?_ Try.underlying72 rfl (by kernel_rfl)) rfl ?_
              · exact store4 RB.out _ _ _ _
              exact ⟨_, _, _, _, _, rfl, ⟨by omega, by omega, by omega, by rw [List.length_set, LEN.out]; omega⟩, ((((HRF.out.setBelow (by show w.heap.size < _; omega) _).setBelow (by show w.heap.size < _; omega) _).setBelow (by show w.heap.size < _; omega) _).setBelow (by show w.heap.size < _; omega) _).le (by omega), (((TF.out.setCell hlt _ _ (Nat.le_refl _)).setCell hlt _ _ (Nat.le_refl _)).setCell hlt _ _ (Nat.le_refl _)).setCell hlt _ _ (Nat.le_refl _)⟩
          · obtain rfl : N = 0 := by omega
            obtain ⟨⟨d0, d1, d2, d3⟩, f0, f1, f2, f3⟩ := cells4 BX5.out
            obtain ⟨⟨p0, p1, p2, p3⟩, q0, q1, q2, q3⟩ := cells4 RB5.out
            have RB := Lib.hid RB5.out
            have HRF := Lib.hid HR5.out
            have TF := Lib.hid T5.out
            go_wp2_with fail
            refine bodyPost_ret (results_cell_row rfl _ _ w.heap.size 72 #[.int .i64 K, .int .i64 i, .int .i64 o, .slice a5 0 c5] (0, 0) _ rfl ?_ Try.underlying72 rfl (by kernel_rfl)) rfl ?_
            · exact store4 RB.out _ _ _ _
            exact ⟨_, _, _, _, _, rfl, ⟨by omega, by omega, by omega, by rw [LEN.out]; omega⟩, ((((HRF.out.setBelow (by show w.heap.size < _; omega) _).setBelow (by show w.heap.size < _; omega) _).setBelow (by show w.heap.size < _; omega) _).setBelow (by show w.heap.size < _; omega) _).le (by omega), (((TF.out.setCell hlt _ _ (Nat.le_refl _)).setCell hlt _ _ (Nat.le_refl _)).setCell hlt _ _ (Nat.le_refl _)).setCell hlt _ _ (Nat.le_refl _)⟩
        · have t3 : (k == 3) = false := by simpa using e3
          obtain ⟨⟨d0, d1, d2, d3⟩, f0, f1, f2, f3⟩ := cells4 BX5.out
          obtain ⟨⟨p0, p1, p2, p3⟩, q0, q1, q2, q3⟩ := cells4 RB5.out
          have RB := Lib.hid RB5.out
          have HRF := Lib.hid HR5.out
          have TF := Lib.hid T5.out
          go_wp2_with fail
          refine bodyPost_ret (results_cell_row rfl _ _ w.heap.size 72 #[.int .i64 K, .int .i64 i, .int .i64 o, .slice a5 N c5] (0, 0) _ rfl ?_ Try.underlying72 rfl (by kernel_rfl)) rfl ?_
          · exact store4 RB.out _ _ _ _
          exact ⟨_, _, _, _, _, rfl, ⟨by omega, by omega, by omega, by rw [LEN.out]; omega⟩, ((((HRF.out.setBelow (by show w.heap.size < _; omega) _).setBelow (by show w.heap.size < _; omega) _).setBelow (by show w.heap.size < _; omega) _).setBelow (by show w.heap.size < _; omega) _).le (by omega), (((TF.out.setCell hlt _ _ (Nat.le_refl _)).setCell hlt _ _ (Nat.le_refl _)).setCell hlt _ _ (Nat.le_refl _)).setCell hlt _ _ (Nat.le_refl _)⟩

theorem l3Vec_j (B : Nat) (w : World) (C : Nat) (n : Int) (h0 : 0 ≤ n) (h1 : n ≤ 8) (hc : Cu B w C) :
    Calls Try.prog 100 #[.pointer (some ⟨C, 0, none⟩), .int .i64 n] w (DrewV (fun xs => (xs.length : Int) ≤ 8) B w C) := by
  obtain ⟨m, rfl⟩ : ∃ m : Nat, n = m := ⟨n.toNat, by omega⟩
  exact (l3Vec_e B w C m (by omega) hc).mono fun e w' ⟨v, xs, he, hl, hr, ht⟩ => ⟨v, xs, he, by show (xs.length : Int) ≤ 8; omega, hr, ht⟩
theorem results_cell_tmps {fn : Func} {p u t : Tmp} {ty : TypeId} (h : fn.results = #[.cell p ty, .tmp u, .tmp t]) (tmps : Array Value) (P : Program) (w : World) :
    (results fn tmps).run P w =
      ((asAddr (tmps.getD p undef)).run P w).andThen fun a w₁ => ((loadVar ty a).run P w₁).andThen fun v w₂ => .ok (.tuple #[v, tmps.getD u undef, tmps.getD t undef]) w₂ := by
  simp only [results, h]
  simp [Sem.run_bind, Result.andThen]
theorem results_row_tmps {P : Program} {fn : Func} {p u r : Tmp} {ty : TypeId} (h : fn.results = #[.cell p ty, .tmp u, .tmp r]) (tmps : Array Value) (w : World) (g : Nat) (t : TypeId) (cs : Array Value) (fr : Nat × Nat) (d : TypeDesc)
    (hp : tmps.getD p undef = .pointer (some ⟨g, 0, none⟩)) (hg : w.heap[g]? = some (.cells cs t fr))
    (hu : P.underlying ty = some d) (hd : (match d with | .struct _ | .array _ _ => true | _ => false) = true) (hi : (P.info? ty).map (·.size) = some cs.size) :
    (results fn tmps).run P w = .ok (.tuple #[.agg cs, tmps.getD u undef, tmps.getD r undef]) w := by
  rw [results_cell_tmps h, hp]
  simp [asAddr, run_loadVar_row w g t ty cs fr d hg hu hd hi, Result.andThen]
/-- An operation and two rows were drawn. -/
def DrewOB (w : World) (e : Ending) (w' : World) : Prop := ∃ k i o v ps u xs t ds, e = .returned (.tuple #[.agg #[.int .i64 k, .int .i64 i, .int .i64 o, v], u, t]) ∧ (ps.length ≤ 37 ∧ xs.length ≤ 8 ∧ ds.length ≤ 8) ∧ Row w.heap.size w' v ps ∧ Row w.heap.size w' u xs ∧ Row w.heap.size w' t ds ∧ Below w.heap.size w w'
end Go.Proofs.Ytkflinobmagiiaa
