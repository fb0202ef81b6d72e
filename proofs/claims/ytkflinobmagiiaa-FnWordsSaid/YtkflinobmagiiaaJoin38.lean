import Derived.Test.YtkflinobmagiiaaJoin33
import Derived.Test.YtkflinobmagiiaaJoin37
import Derived.Test.YtkflinobmagiiaaJoin13
import Derived.RangeFuncNested
import Derived.RangeFuncBound
import Derived.RangeFuncCalls
import Derived.RangeFuncLeaves
import Derived.RangeFuncBox
import Derived.RangeFuncWrites
import Derived.Shelf.Abstract
import Derived.Sort.QuietIn
import Derived.WalkKit
import Derived.OwnWalkIn
import Derived.TacticsInMore
import Derived.LoopNIn
import Derived.LoopIn
/-! YtkflinobmagiiaaDrawCfg -/
section

namespace Go.Proofs.Ytkflinobmagiiaa
open Go.RowKit Go.Sort
set_option linter.unusedVariables false
set_option linter.unusedSimpArgs false

/-- A configuration and its batch were drawn: what lies where. -/
def DrewCf (B : Nat) (w : World) (C : Nat) (e : Ending) (w' : World) : Prop :=
  ∃ a0 n0 c0 v1 ds v3 v4 v5 ab nb cb m l r cp lm b k0 k1 k2 k3, e = .returned (.tuple #[.agg #[.slice a0 n0 c0, v1, .int .i64 ds, v3, v4, v5], .slice ab nb cb]) ∧
    ((1 ≤ n0 ∧ n0 ≤ 6 ∧ n0 ≤ c0 ∧ c0 ≤ 9223372036854775807 ∧ SmallM m) ∧ (1 ≤ nb ∧ nb ≤ 4 ∧ nb ≤ cb ∧ cb ≤ 9223372036854775807 ∧ SmallB b) ∧ l.length ≤ 3 ∧ r.length = l.length + 1 ∧ cp.length = l.length ∧ lm.length = l.length + 1) ∧
    (w.heap.size ≤ k0 ∧ k0 ≤ k1 ∧ k1 ≤ k2 ∧ k2 ≤ k3 ∧ k3 ≤ w'.heap.size) ∧ ListAt shOp (From w.heap.size k0) w' a0 n0 m ∧ RowT 3 k0 w' v1 (icells l) ∧ (∀ g, v1.ownBlock = some g → g < k1) ∧ ListAt shPair (From k1 k2) w' ab nb b ∧
    RowT 4 k2 w' v3 (qcells r) ∧ (∀ g, v3.ownBlock = some g → g < k3) ∧ RowT 3 k2 w' v4 (icells cp) ∧ (∀ g, v4.ownBlock = some g → g < k3) ∧ RowT 3 k3 w' v5 (icells lm) ∧ Turned B w w' C
set_option maxRecDepth 100000 in
set_option maxHeartbeats 6400000 in
theorem l12Config_e (B : Nat) (w : World) (C : Nat) (hc : Cu B w C) :
    Calls Try.prog 59 #[.pointer (some ⟨C, 0, none⟩)] w (DrewCf B w C) := by
  have hlt := hc.lt
  have h0 := (Turned.refl hc).alloc (.cells #[.slice none 0 0, .slice none 0 0, .int .i64 0, .slice none 0 0, .slice none 0 0, .slice none 0 0] 30 (0, 0))
  have hb0 := heap_alloc_new w (.cells #[.slice none 0 0, .slice none 0 0, .int .i64 0, .slice none 0 0, .slice none 0 0, .slice none 0 0] 30 (0, 0))
  have hs0 : (w.alloc (.cells #[.slice none 0 0, .slice none 0 0, .int .i64 0, .slice none 0 0, .slice none 0 0, .slice none 0 0] 30 (0, 0))).heap.size = w.heap.size + 1 := by simp
  have T0 := Lib.hid h0
  have R0 := Lib.hid hb0
  clear hc h0 hb0
  go_enter Try.func59, Try.ntmps59
  go_wp2_with fail
  generalize w.alloc (.cells #[.slice none 0 0, .slice none 0 0, .int .i64 0, .slice none 0 0, .slice none 0 0, .slice none 0 0] 30 (0, 0)) = wa at T0 R0 hs0 ⊢
  refine (l6Model_e B wa C T0.out.cu).mono ?_
  rintro e w1 ⟨av, n0, c0, m, rfl, ⟨⟨hn1, hn6⟩, hn, hcv1, hcv2, hsm⟩, hli, ht1⟩
  have hs1 := ht1.size
  obtain ⟨a', c', e', -, -, hla⟩ := hli.listFrom8
  simp only [Value.slice.injEq] at e'
  obtain ⟨rfl, -, rfl⟩ := e'
  rw [hn] at hla
  have T1 := Lib.hid (T0.out.trans ht1)
  have R1 := Lib.hid ((ht1.block (by omega) (by omega)).trans R0.out)
  have hal : Below w1.heap.size w1 (w1.alloc (.cells #[.slice av n0 c0] 26 (0, 0))) := (Below.refl _ _).alloc (Nat.le_refl _) _
  have hbm := heap_alloc_new w1 (.cells #[.slice av n0 c0] 26 (0, 0))
  have hs2 : (w1.alloc (.cells #[.slice av n0 c0] 26 (0, 0))).heap.size = w1.heap.size + 1 := by simp
  have AL := Lib.hid hal
  have KM := Lib.hid hbm
  have LM : Hid (ListAt shOp (fun b => wa.heap.size ≤ b ∧ b < w1.heap.size) w1 av n0 m) := Lib.hid hla
  have HSM := Lib.hid hsm
  have HN := Lib.hid hn
  clear hli hla ht1 hal hbm hsm hn
  go_upto_region 2 with fail
  generalize w1.alloc (.cells #[.slice av n0 c0] 26 (0, 0)) = w2 at AL KM hs2 ⊢
  have T2 := Lib.hid (T1.out.then AL.out)
  have R2 := Lib.hid ((AL.out.block w.heap.size (by omega)).trans R1.out)
  have hC2 : C < w1.heap.size := by omega
  go_cut [5] (fun t wx => ∃ (X : Nat) (v1 : Value) (l : List Int) (ds : Int), t = .pointer (some ⟨X, 0, none⟩) ∧ l.length ≤ 3 ∧ w2.heap.size ≤ X ∧ X < wx.heap.size ∧ wx.heap[X]? = some (.cells #[.slice av n0 c0, v1, .int .i64 ds, .slice none 0 0, .slice none 0 0, .slice none 0 0] 30 (0, 0)) ∧ RowT 3 w2.heap.size wx v1 (icells l) ∧ Turned B w2 wx C)
  case first =>
    have hdr : Turned B w2 w2.drew C := (Turned.refl T2.out.cu).then ((Below.refl _ _).drew)
    have TD := Lib.hid hdr
    have LATE := Lib.hid fun (wx : World) (hx : Turned B w2 wx C) => (show wx.cell? ⟨w1.heap.size, 0, none⟩ = some (.slice av n0 c0) from box1 ((hx.block (by omega) (by omega)).trans KM.out))
    have hS0 := LATE.out w2.drew hdr
    clear hdr
    refine wp_region_K (S := fun w' => w'.cell? ⟨w1.heap.size, 0, none⟩ = some (.slice av n0 c0)) (by kernel_rfl) ?_
    show AnyK _ _ _ _ _ _ _ _ w2.drew
    generalize w2.drew = wd at hS0 TD ⊢
    refine anyK_take (i := 0) (v := ?_) rfl (by kernel_rfl) (by kernel_rfl) (by kernel_rfl) (fun _ _ _ h => h) (Or.inl ⟨by rfl, ?_⟩) hS0 ?_
    rotate_left
    · (intro wS hS; obtain sA := hS; go_simp; try with_reducible rfl)
    simp only [Act.put, List.setIfInBounds_toArray, List.set_cons_zero, List.set_cons_succ]
    refine anyK_take (i := 1) (v := ?_) rfl (by kernel_rfl) (by kernel_rfl) (by kernel_rfl) (fun _ _ _ h => h) (Or.inl ⟨by rfl, ?_⟩) hS0 ?_
    rotate_left
    · (intro wS hS; obtain sA := hS; go_simp; try with_reducible rfl)
    simp only [Act.put, List.setIfInBounds_toArray, List.set_cons_zero, List.set_cons_succ]
    refine anyK_take (i := 2) (v := ?_) rfl (by kernel_rfl) (by kernel_rfl) (by kernel_rfl) (fun _ _ _ h => h) (Or.inl ⟨by rfl, ?_⟩) hS0 ?_
    rotate_left
    · (intro wS hS; obtain sA := hS; go_simp; try with_reducible rfl)
    simp only [Act.put, List.setIfInBounds_toArray, List.set_cons_zero, List.set_cons_succ]
    refine anyK_take (i := 4) (v := ?_) rfl (by kernel_rfl) (by kernel_rfl) (by kernel_rfl) (fun _ _ _ h => h) (Or.inl ⟨by rfl, ?_⟩) hS0 ?_
    rotate_left
    · (intro wS hS; obtain sA := hS; go_simp; try with_reducible rfl)
    simp only [Act.put, List.setIfInBounds_toArray, List.set_cons_zero, List.set_cons_succ]
    have TU := TD
    refine anyK_two (i := 3) (j := 8) (by kernel_rfl) rfl (by rfl) rfl (by rfl) (fun K hK => ?_) (fun K hK => ?_)
    · skip
      go_simp
      go_at_call 85
      refine (l8Cuts_e B wd C TU.out.cu av n0 c0 (by omega)).mono ?_
      rintro e wb ⟨v1, l, rfl, hl3, hrow, ht⟩
      have HV := Lib.hid ((RowT.of_row (hrow.le (Nat.le_trans TU.out.size (Nat.le_refl _)))) : RowT 3 w2.heap.size wb v1 (icells l))
      replace TU := Lib.hid (TU.out.trans ht)
      obtain ⟨av1, cv1, rfl, -, -⟩ := HV.out.form
      clear hrow ht
      refine hK _ _ (.inr (LATE.out _ TU.out)) ?_
      try simp only [Act.put, List.setIfInBounds_toArray, List.set_cons_zero, List.set_cons_succ]
      clear hK
      refine anyK_two (i := 5) (j := 8) (by kernel_rfl) rfl (by rfl) rfl (by rfl) (fun K hK => ?_) (fun K hK => ?_)
      · skip
        go_simp
        go_at_call 60
        refine (l1Below_e B wb C 2 (by omega) TU.out.cu).mono ?_
        rintro e wc ⟨y, rfl, ⟨y0, y1⟩, ht⟩
        replace HV := Lib.hid (HV.out.but (ButA.turned (X := fun b => b = C) ht rfl) (fun k hk => by have := (HV.out.lt k hk).1; show ¬ k = C; omega))
        replace TU := Lib.hid (TU.out.trans ht)
        clear ht
        refine hK _ _ (.inr (LATE.out _ TU.out)) ?_
        try simp only [Act.put, List.setIfInBounds_toArray, List.set_cons_zero, List.set_cons_succ]
        clear hK
        refine anyK_take (i := 6) (v := ?_) rfl (by kernel_rfl) (by kernel_rfl) (by kernel_rfl) (fun _ _ _ h => h) (Or.inl ⟨by rfl, ?_⟩) (LATE.out _ TU.out) ?_
        rotate_left
        · (intro wS hS; obtain sA := hS; go_simp; try with_reducible rfl)
        simp only [Act.put, List.setIfInBounds_toArray, List.set_cons_zero, List.set_cons_succ]
        refine anyK_take (i := 7) (v := ?_) rfl (by kernel_rfl) (by kernel_rfl) (by kernel_rfl) (fun _ _ _ h => h) (Or.inl ⟨by rfl, ?_⟩) (LATE.out _ TU.out) ?_
        rotate_left
        · (intro wS hS; obtain sA := hS; go_simp; try with_reducible rfl)
        simp only [Act.put, List.setIfInBounds_toArray, List.set_cons_zero, List.set_cons_succ]
        refine anyK_step (i := 8) (by kernel_rfl) rfl (by rfl) (fun K hK => ?_)
        go_simp
        have HX := Lib.hid (heap_alloc_new wc (.cells #[.slice none 0 0, .slice none 0 0, .int .i64 0, .slice none 0 0, .slice none 0 0, .slice none 0 0] 30 (0, 0)))
        have HXL := Lib.hid (show w2.heap.size ≤ wc.heap.size ∧ wc.heap.size < (wc.alloc (.cells #[.slice none 0 0, .slice none 0 0, .int .i64 0, .slice none 0 0, .slice none 0 0, .slice none 0 0] 30 (0, 0))).heap.size from ⟨TU.out.size, by simp⟩)
        replace HV := Lib.hid (HV.out.but (ButA.called (X := fun _ => False) ((Below.refl wc.heap.size wc).alloc (Nat.le_refl _) (.cells #[.slice none 0 0, .slice none 0 0, .int .i64 0, .slice none 0 0, .slice none 0 0, .slice none 0 0] 30 (0, 0)))) (fun _ _ h => h))
        replace TU := Lib.hid (TU.out.alloc (.cells #[.slice none 0 0, .slice none 0 0, .int .i64 0, .slice none 0 0, .slice none 0 0, .slice none 0 0] 30 (0, 0)))
        refine hK _ _ (.inr (LATE.out _ TU.out)) ?_
        try simp only [Act.put, List.setIfInBounds_toArray, List.set_cons_zero, List.set_cons_succ]
        clear hK
        generalize wc.alloc (.cells #[.slice none 0 0, .slice none 0 0, .int .i64 0, .slice none 0 0, .slice none 0 0, .slice none 0 0] 30 (0, 0)) = wx at HX HXL TU HV ⊢
        have hw1 : wrap64 (1 + y) = 1 + y := IntWalk.wrap64_in _ (by omega)
        have bx := HX.out
        have cc0 := cell_of_row _ wc.heap.size 0 _ _ _ bx
        have ff0 : wx.frozen? ⟨wc.heap.size, 0, none⟩ = false := frozen_of_row _ _ _ _ _ bx
        have cc1 := cell_of_row _ wc.heap.size 1 _ _ _ bx
        have ff1 : wx.frozen? ⟨wc.heap.size, 1, none⟩ = false := frozen_of_row _ _ _ _ _ bx
        have cc2 := cell_of_row _ wc.heap.size 2 _ _ _ bx
        have ff2 : wx.frozen? ⟨wc.heap.size, 2, none⟩ = false := frozen_of_row _ _ _ _ _ bx
        have cc3 := cell_of_row _ wc.heap.size 3 _ _ _ bx
        have ff3 : wx.frozen? ⟨wc.heap.size, 3, none⟩ = false := frozen_of_row _ _ _ _ _ bx
        have cc4 := cell_of_row _ wc.heap.size 4 _ _ _ bx
        have ff4 : wx.frozen? ⟨wc.heap.size, 4, none⟩ = false := frozen_of_row _ _ _ _ _ bx
        have cc5 := cell_of_row _ wc.heap.size 5 _ _ _ bx
        have ff5 : wx.frozen? ⟨wc.heap.size, 5, none⟩ = false := frozen_of_row _ _ _ _ _ bx
        simp only [List.getElem?_toArray, List.getElem?_cons_zero, List.getElem?_cons_succ] at cc0 cc1 cc2 cc3 cc4 cc5
        clear bx
        refine anyK_step (i := 9) (by kernel_rfl) rfl (by rfl) (fun K hK => ?_)
        go_simp
        refine hK _ _ (.inl (last_of (by kernel_rfl))) ?_
        clear hK
        refine anyK_done (by kernel_rfl) ?_ _
        go_wp2_with fail
        go_meet
        case rel =>
          obtain ⟨s1, s2, s3⟩ := six_box HX.out (.slice av n0 c0) (.slice av1 (icells l).length cv1) (.int .i64 (IntKind.i64.wrap (1 + y))) (.slice none 0 0) (.slice none 0 0) (.slice none 0 0)
          have s4 := six_turned TU.out (by omega) HXL.out.1 (.slice av n0 c0) (.slice av1 (icells l).length cv1) (.int .i64 (IntKind.i64.wrap (1 + y))) (.slice none 0 0) (.slice none 0 0) (.slice none 0 0)
          exact ⟨_, _, l, _, rfl, hl3, HXL.out.1, Nat.lt_of_lt_of_le HXL.out.2 (Nat.le_of_eq s2.symm), s1, HV.out.but (X := fun b => b = wc.heap.size) ⟨Nat.le_of_eq s2.symm, fun b h1 _ => s3 b h1⟩ (fun k hk e => HV.out.apart HX.out (by decide) (e ▸ hk)), s4⟩
      · skip
        go_simp
        have HX := Lib.hid (heap_alloc_new wb (.cells #[.slice none 0 0, .slice none 0 0, .int .i64 0, .slice none 0 0, .slice none 0 0, .slice none 0 0] 30 (0, 0)))
        have HXL := Lib.hid (show w2.heap.size ≤ wb.heap.size ∧ wb.heap.size < (wb.alloc (.cells #[.slice none 0 0, .slice none 0 0, .int .i64 0, .slice none 0 0, .slice none 0 0, .slice none 0 0] 30 (0, 0))).heap.size from ⟨TU.out.size, by simp⟩)
        replace HV := Lib.hid (HV.out.but (ButA.called (X := fun _ => False) ((Below.refl wb.heap.size wb).alloc (Nat.le_refl _) (.cells #[.slice none 0 0, .slice none 0 0, .int .i64 0, .slice none 0 0, .slice none 0 0, .slice none 0 0] 30 (0, 0)))) (fun _ _ h => h))
        replace TU := Lib.hid (TU.out.alloc (.cells #[.slice none 0 0, .slice none 0 0, .int .i64 0, .slice none 0 0, .slice none 0 0, .slice none 0 0] 30 (0, 0)))
        refine hK _ _ (.inr (LATE.out _ TU.out)) ?_
        try simp only [Act.put, List.setIfInBounds_toArray, List.set_cons_zero, List.set_cons_succ]
        clear hK
        generalize wb.alloc (.cells #[.slice none 0 0, .slice none 0 0, .int .i64 0, .slice none 0 0, .slice none 0 0, .slice none 0 0] 30 (0, 0)) = wx at HX HXL TU HV ⊢
        refine anyK_step (i := 5) (by kernel_rfl) rfl (by rfl) (fun K hK => ?_)
        go_simp
        go_at_call 60
        refine (l1Below_e B wx C 2 (by omega) TU.out.cu).mono ?_
        rintro e wc ⟨y, rfl, ⟨y0, y1⟩, ht⟩
        have HX := Lib.hid ((ht.block (by have := HXL.out.2; omega) (by have := HXL.out.1; omega)).trans HX.out)
        have HXL := Lib.hid (show w2.heap.size ≤ wb.heap.size ∧ wb.heap.size < wc.heap.size from ⟨HXL.out.1, Nat.lt_of_lt_of_le HXL.out.2 ht.size⟩)
        replace HV := Lib.hid (HV.out.but (ButA.turned (X := fun b => b = C) ht rfl) (fun k hk => by have := (HV.out.lt k hk).1; show ¬ k = C; omega))
        replace TU := Lib.hid (TU.out.trans ht)
        clear ht
        refine hK _ _ (.inr (LATE.out _ TU.out)) ?_
        try simp only [Act.put, List.setIfInBounds_toArray, List.set_cons_zero, List.set_cons_succ]
        clear hK
        refine anyK_take (i := 6) (v := ?_) rfl (by kernel_rfl) (by kernel_rfl) (by kernel_rfl) (fun _ _ _ h => h) (Or.inl ⟨by rfl, ?_⟩) (LATE.out _ TU.out) ?_
        rotate_left
        · (intro wS hS; obtain sA := hS; go_simp; try with_reducible rfl)
        simp only [Act.put, List.setIfInBounds_toArray, List.set_cons_zero, List.set_cons_succ]
        refine anyK_take (i := 7) (v := ?_) rfl (by kernel_rfl) (by kernel_rfl) (by kernel_rfl) (fun _ _ _ h => h) (Or.inl ⟨by rfl, ?_⟩) (LATE.out _ TU.out) ?_
        rotate_left
        · (intro wS hS; obtain sA := hS; go_simp; try with_reducible rfl)
        simp only [Act.put, List.setIfInBounds_toArray, List.set_cons_zero, List.set_cons_succ]
        have hw1 : wrap64 (1 + y) = 1 + y := IntWalk.wrap64_in _ (by omega)
        have bx := HX.out
        have cc0 := cell_of_row _ wb.heap.size 0 _ _ _ bx
        have ff0 : wc.frozen? ⟨wb.heap.size, 0, none⟩ = false := frozen_of_row _ _ _ _ _ bx
        have cc1 := cell_of_row _ wb.heap.size 1 _ _ _ bx
        have ff1 : wc.frozen? ⟨wb.heap.size, 1, none⟩ = false := frozen_of_row _ _ _ _ _ bx
        have cc2 := cell_of_row _ wb.heap.size 2 _ _ _ bx
        have ff2 : wc.frozen? ⟨wb.heap.size, 2, none⟩ = false := frozen_of_row _ _ _ _ _ bx
        have cc3 := cell_of_row _ wb.heap.size 3 _ _ _ bx
        have ff3 : wc.frozen? ⟨wb.heap.size, 3, none⟩ = false := frozen_of_row _ _ _ _ _ bx
        have cc4 := cell_of_row _ wb.heap.size 4 _ _ _ bx
        have ff4 : wc.frozen? ⟨wb.heap.size, 4, none⟩ = false := frozen_of_row _ _ _ _ _ bx
        have cc5 := cell_of_row _ wb.heap.size 5 _ _ _ bx
        have ff5 : wc.frozen? ⟨wb.heap.size, 5, none⟩ = false := frozen_of_row _ _ _ _ _ bx
        simp only [List.getElem?_toArray, List.getElem?_cons_zero, List.getElem?_cons_succ] at cc0 cc1 cc2 cc3 cc4 cc5
        clear bx
        refine anyK_step (i := 9) (by kernel_rfl) rfl (by rfl) (fun K hK => ?_)
        go_simp
        refine hK _ _ (.inl (last_of (by kernel_rfl))) ?_
        clear hK
        refine anyK_done (by kernel_rfl) ?_ _
        go_wp2_with fail
        go_meet
        case rel =>
          obtain ⟨s1, s2, s3⟩ := six_box HX.out (.slice av n0 c0) (.slice av1 (icells l).length cv1) (.int .i64 (IntKind.i64.wrap (1 + y))) (.slice none 0 0) (.slice none 0 0) (.slice none 0 0)
          have s4 := six_turned TU.out (by omega) HXL.out.1 (.slice av n0 c0) (.slice av1 (icells l).length cv1) (.int .i64 (IntKind.i64.wrap (1 + y))) (.slice none 0 0) (.slice none 0 0) (.slice none 0 0)
          exact ⟨_, _, l, _, rfl, hl3, HXL.out.1, Nat.lt_of_lt_of_le HXL.out.2 (Nat.le_of_eq s2.symm), s1, HV.out.but (X := fun b => b = wb.heap.size) ⟨Nat.le_of_eq s2.symm, fun b h1 _ => s3 b h1⟩ (fun k hk e => HV.out.apart HX.out (by decide) (e ▸ hk)), s4⟩
    · skip
      go_simp
      have HX := Lib.hid (heap_alloc_new wd (.cells #[.slice none 0 0, .slice none 0 0, .int .i64 0, .slice none 0 0, .slice none 0 0, .slice none 0 0] 30 (0, 0)))
      have HXL := Lib.hid (show w2.heap.size ≤ wd.heap.size ∧ wd.heap.size < (wd.alloc (.cells #[.slice none 0 0, .slice none 0 0, .int .i64 0, .slice none 0 0, .slice none 0 0, .slice none 0 0] 30 (0, 0))).heap.size from ⟨TU.out.size, by simp⟩)
      replace TU := Lib.hid (TU.out.alloc (.cells #[.slice none 0 0, .slice none 0 0, .int .i64 0, .slice none 0 0, .slice none 0 0, .slice none 0 0] 30 (0, 0)))
      refine hK _ _ (.inr (LATE.out _ TU.out)) ?_
      try simp only [Act.put, List.setIfInBounds_toArray, List.set_cons_zero, List.set_cons_succ]
      clear hK
      generalize wd.alloc (.cells #[.slice none 0 0, .slice none 0 0, .int .i64 0, .slice none 0 0, .slice none 0 0, .slice none 0 0] 30 (0, 0)) = wx at HX HXL TU ⊢
      refine anyK_step (i := 3) (by kernel_rfl) rfl (by rfl) (fun K hK => ?_)
      go_simp
      go_at_call 85
      refine (l8Cuts_e B wx C TU.out.cu av n0 c0 (by omega)).mono ?_
      rintro e wb ⟨v1, l, rfl, hl3, hrow, ht⟩
      have HX := Lib.hid ((ht.block (by have := HXL.out.2; omega) (by have := HXL.out.1; omega)).trans HX.out)
      have HXL := Lib.hid (show w2.heap.size ≤ wd.heap.size ∧ wd.heap.size < wb.heap.size from ⟨HXL.out.1, Nat.lt_of_lt_of_le HXL.out.2 ht.size⟩)
      have HV := Lib.hid ((RowT.of_row (hrow.le (Nat.le_trans TU.out.size (Nat.le_refl _)))) : RowT 3 w2.heap.size wb v1 (icells l))
      replace TU := Lib.hid (TU.out.trans ht)
      obtain ⟨av1, cv1, rfl, -, -⟩ := HV.out.form
      clear hrow ht
      refine hK _ _ (.inr (LATE.out _ TU.out)) ?_
      try simp only [Act.put, List.setIfInBounds_toArray, List.set_cons_zero, List.set_cons_succ]
      clear hK
      refine anyK_step (i := 5) (by kernel_rfl) rfl (by rfl) (fun K hK => ?_)
      go_simp
      go_at_call 60
      refine (l1Below_e B wb C 2 (by omega) TU.out.cu).mono ?_
      rintro e wc ⟨y, rfl, ⟨y0, y1⟩, ht⟩
      have HX := Lib.hid ((ht.block (by have := HXL.out.2; omega) (by have := HXL.out.1; omega)).trans HX.out)
      have HXL := Lib.hid (show w2.heap.size ≤ wd.heap.size ∧ wd.heap.size < wc.heap.size from ⟨HXL.out.1, Nat.lt_of_lt_of_le HXL.out.2 ht.size⟩)
      replace HV := Lib.hid (HV.out.but (ButA.turned (X := fun b => b = C) ht rfl) (fun k hk => by have := (HV.out.lt k hk).1; show ¬ k = C; omega))
      replace TU := Lib.hid (TU.out.trans ht)
      clear ht
      refine hK _ _ (.inr (LATE.out _ TU.out)) ?_
      try simp only [Act.put, List.setIfInBounds_toArray, List.set_cons_zero, List.set_cons_succ]
      clear hK
      refine anyK_take (i := 6) (v := ?_) rfl (by kernel_rfl) (by kernel_rfl) (by kernel_rfl) (fun _ _ _ h => h) (Or.inl ⟨by rfl, ?_⟩) (LATE.out _ TU.out) ?_
      rotate_left
      · (intro wS hS; obtain sA := hS; go_simp; try with_reducible rfl)
      simp only [Act.put, List.setIfInBounds_toArray, List.set_cons_zero, List.set_cons_succ]
      refine anyK_take (i := 7) (v := ?_) rfl (by kernel_rfl) (by kernel_rfl) (by kernel_rfl) (fun _ _ _ h => h) (Or.inl ⟨by rfl, ?_⟩) (LATE.out _ TU.out) ?_
      rotate_left
      · (intro wS hS; obtain sA := hS; go_simp; try with_reducible rfl)
      simp only [Act.put, List.setIfInBounds_toArray, List.set_cons_zero, List.set_cons_succ]
      have hw1 : wrap64 (1 + y) = 1 + y := IntWalk.wrap64_in _ (by omega)
      have bx := HX.out
      have cc0 := cell_of_row _ wd.heap.size 0 _ _ _ bx
      have ff0 : wc.frozen? ⟨wd.heap.size, 0, none⟩ = false := frozen_of_row _ _ _ _ _ bx
      have cc1 := cell_of_row _ wd.heap.size 1 _ _ _ bx
      have ff1 : wc.frozen? ⟨wd.heap.size, 1, none⟩ = false := frozen_of_row _ _ _ _ _ bx
      have cc2 := cell_of_row _ wd.heap.size 2 _ _ _ bx
      have ff2 : wc.frozen? ⟨wd.heap.size, 2, none⟩ = false := frozen_of_row _ _ _ _ _ bx
      have cc3 := cell_of_row _ wd.heap.size 3 _ _ _ bx
      have ff3 : wc.frozen? ⟨wd.heap.size, 3, none⟩ = false := frozen_of_row _ _ _ _ _ bx
      have cc4 := cell_of_row _ wd.heap.size 4 _ _ _ bx
      have ff4 : wc.frozen? ⟨wd.heap.size, 4, none⟩ = false := frozen_of_row _ _ _ _ _ bx
      have cc5 := cell_of_row _ wd.heap.size 5 _ _ _ bx
      have ff5 : wc.frozen? ⟨wd.heap.size, 5, none⟩ = false := frozen_of_row _ _ _ _ _ bx
      simp only [List.getElem?_toArray, List.getElem?_cons_zero, List.getElem?_cons_succ] at cc0 cc1 cc2 cc3 cc4 cc5
      clear bx
      refine anyK_step (i := 9) (by kernel_rfl) rfl (by rfl) (fun K hK => ?_)
      go_simp
      refine hK _ _ (.inl (last_of (by kernel_rfl))) ?_
      clear hK
      refine anyK_done (by kernel_rfl) ?_ _
      go_wp2_with fail
      go_meet
      case rel =>
        obtain ⟨s1, s2, s3⟩ := six_box HX.out (.slice av n0 c0) (.slice av1 (icells l).length cv1) (.int .i64 (IntKind.i64.wrap (1 + y))) (.slice none 0 0) (.slice none 0 0) (.slice none 0 0)
        have s4 := six_turned TU.out (by omega) HXL.out.1 (.slice av n0 c0) (.slice av1 (icells l).length cv1) (.int .i64 (IntKind.i64.wrap (1 + y))) (.slice none 0 0) (.slice none 0 0) (.slice none 0 0)
        exact ⟨_, _, l, _, rfl, hl3, HXL.out.1, Nat.lt_of_lt_of_le HXL.out.2 (Nat.le_of_eq s2.symm), s1, HV.out.but (X := fun b => b = wd.heap.size) ⟨Nat.le_of_eq s2.symm, fun b h1 _ => s3 b h1⟩ (fun k hk e => HV.out.apart HX.out (by decide) (e ▸ hk)), s4⟩
  case rest =>
    obtain ⟨X, v1, l, ds, rfl, hl3, hX2, hXw, hbx, hv, htn⟩ := hcut
    obtain ⟨w3, rfl⟩ : ∃ y, y = wc := ⟨_, rfl⟩
    have hs3 := htn.size
    have T3 := Lib.hid (T2.out.trans htn)
    have R3 := Lib.hid ((htn.block (by omega) (by omega)).trans R2.out)
    have hm3 : ListAt shOp (fun b => wa.heap.size ≤ b ∧ b < w1.heap.size) w3 av n0 m := (LM.out.keep fun b hb => AL.out.block b hb.2).keep fun b hb => htn.block (by have := hb.2; omega) (by have := hb.1; omega)
    have M3 := Lib.hid hm3
    have MI : Hid (ModIn w3.heap.size C w3 av n0 m) := Lib.hid (ListAt.sub hm3 fun b hb => ⟨by have := hb.2; omega, by have := hb.1; omega⟩)
    have zm := box1 ((htn.block (by omega) (by omega)).trans KM.out)
    have hbk := smallM_bulk8 HSM.out (by have := HN.out; omega)
    obtain ⟨av1, cv1, e1, -, -⟩ := hv.form
    rw [icells_len] at e1
    subst e1
    obtain ⟨n1, hn1e⟩ : ∃ n, l.length = n := ⟨_, rfl⟩
    rw [hn1e] at hl3 hbx hv
    have HL1 := Lib.hid hn1e
    have V1 := Lib.hid hv
    have HV14 : Hid (∀ k, (Value.slice av1 n1 cv1).ownBlock = some k → k < w3.heap.size) := Lib.hid fun k hk => (hv.lt k hk).2
    have VB := Lib.hid hbx
    clear hbx hv htn hm3 hn1e LM AL
    go_wp2_with fail
    refine (l6Batch_e B w3 C T3.out.cu av n0 c0 m MI.out hcv1 hcv2 hbk).mono ?_
    rintro e w4 ⟨ab, nb, cb, b, rfl, ⟨⟨nb1, nb4⟩, hbl, hcb1, hcb2, hsb⟩, hli, ht⟩
    have hs4 := ht.size
    obtain ⟨a', c', e', -, -, hla⟩ := hli.listFrom8
    simp only [Value.slice.injEq] at e'
    obtain ⟨rfl, -, rfl⟩ := e'
    rw [hbl] at hla
    replace V1 := Lib.hid (V1.out.but (ButA.turned (X := fun b => b = C) ht rfl) (fun k hk => by have := (V1.out.lt k hk).1; show ¬ k = C; omega))
    have V1T : Hid (∀ k, (Value.slice av1 n1 cv1).ownBlock = some k → w2.heap.size ≤ k ∧ k < w4.heap.size ∧ k ≠ X) := Lib.hid fun k hk => ⟨(V1.out.lt k hk).1, (V1.out.lt k hk).2, fun e => V1.out.apart ((ht.block hXw (by omega)).trans VB.out) (by decide) (e ▸ hk)⟩
    replace VB := Lib.hid ((ht.block hXw (by omega)).trans VB.out)
    have T4 := Lib.hid (T3.out.trans ht)
    have R4 := Lib.hid ((ht.block (by omega) (by omega)).trans R3.out)
    have M4 : Hid (ListAt shOp (fun b => wa.heap.size ≤ b ∧ b < w1.heap.size) w4 av n0 m) := Lib.hid (M3.out.keep fun b hb => ht.block (by have := hb.2; omega) (by have := hb.1; omega))
    have L4 : Hid (ListAt shPair (fun b => w3.heap.size ≤ b ∧ b < w4.heap.size) w4 ab nb b) := Lib.hid hla
    have HSB := Lib.hid hsb
    have HBL := Lib.hid hbl
    obtain ⟨jb, jh, jz0, jz1, jz2⟩ := info_parts infoAll_bool
    obtain ⟨i0, ih, iz0, iz1, iz2⟩ := info_parts Try.infoI64
    clear hli hla ht hsb hbl zm hbk T3 R3 M3 MI
    go_wp2_with fail
    go_loopw [7] (fun i wr => ∃ (k : Nat) (v3 v4 : Value) (r : List Bool) (cp : List Int), k ≤ n1 + 1 ∧ i = .int .i64 k ∧ r.length = k ∧ cp.length = k - 1 ∧ wr.heap[X]? = some (.cells #[.slice av n0 c0, .slice av1 n1 cv1, .int .i64 ds, v3, v4, .slice none 0 0] 30 (0, 0)) ∧ RowT 4 w4.heap.size wr v3 (qcells r) ∧ RowT 3 w4.heap.size wr v4 (icells cp) ∧ ButA (fun b => b = C ∨ b = X) w4 wr ∧ Turned B w wr C) (fun i _ => n1 + 1 - (intOf i).toNat)
    case atStart => exact ⟨0, .slice none 0 0, .slice none 0 0, [], [], Nat.zero_le _, rfl, rfl, rfl, VB.out, RowT.nil _ _ _, RowT.nil _ _ _, ButA.refl _ _, T4.out⟩
    case round =>
      obtain ⟨k, v3, v4, r, cp, hk, rfl, hrl, hcl, hbx, h3, h4, hbt, ht⟩ := hrel
      have hsz := hbt.1
      obtain ⟨a3, c3, e3, g31, g32⟩ := h3.form
      rw [qcells_len, hrl] at e3 g31
      subst e3
      obtain ⟨a4, c4, e4, g41, g42⟩ := h4.form
      obtain ⟨p, hp⟩ : ∃ p, k - 1 = p := ⟨_, rfl⟩
      rw [hp] at hcl
      rw [icells_len, hcl] at e4 g41
      subst e4
      have HP := Lib.hid hp
      have hpk : p ≤ k := by omega
      have VB1 := Lib.hid hbx
      have V3 := Lib.hid h3
      have V4 := Lib.hid h4
      have BT := Lib.hid hbt
      have TT := Lib.hid ht
      have HRL := Lib.hid hrl
      have HCL := Lib.hid hcl
      have z1 := box6 hbx
      obtain ⟨-, z1, -⟩ := z1
      clear hbx h3 h4 hbt ht hrl hcl hp
      by_cases hkt : k ≤ n1
      · have hkd : decide ((k : Int) ≤ (n1 : Int)) = true := decide_eq_true (by omega)
        go_wp2_with fail
        clear z1
        have hdr : Turned B wr wr.drew C := (Turned.refl TT.out.cu).then ((Below.refl _ _).drew)
        have TD := Lib.hid hdr
        have hXc : X < wr.heap.size := by have := BT.out.1; omega
        have LATE := Lib.hid fun (wx : World) (hx : Turned B wr wx C) => (show wx.cell? ⟨X, 3, none⟩ = some (.slice a3 k c3) from boxC ((hx.block hXc (by omega)).trans VB1.out) 3 _ rfl)
        have hS0 := LATE.out wr.drew hdr
        clear hdr
        go_upto_region 7 with fail
        refine wp_region_K (S := fun w' => w'.cell? ⟨X, 3, none⟩ = some (.slice a3 k c3)) (by kernel_rfl) ?_
        show AnyK _ _ _ _ _ _ _ _ wr.drew
        generalize wr.drew = wd at hS0 TD ⊢
        refine anyK_take (i := 0) (v := ?_) rfl (by kernel_rfl) (by kernel_rfl) (by kernel_rfl) (fun _ _ _ h => h) (Or.inl ⟨by rfl, ?_⟩) hS0 ?_
        rotate_left
        · (intro wS hS; obtain sA := hS; go_simp; try with_reducible rfl)
        simp only [Act.put, List.setIfInBounds_toArray, List.set_cons_zero, List.set_cons_succ]
        refine anyK_take (i := 1) (v := ?_) rfl (by kernel_rfl) (by kernel_rfl) (by kernel_rfl) (fun _ _ _ h => h) (Or.inl ⟨by rfl, ?_⟩) hS0 ?_
        rotate_left
        · (intro wS hS; obtain sA := hS; go_simp; try with_reducible rfl)
        simp only [Act.put, List.setIfInBounds_toArray, List.set_cons_zero, List.set_cons_succ]
        refine anyK_take (i := 2) (v := ?_) rfl (by kernel_rfl) (by kernel_rfl) (by kernel_rfl) (fun _ _ _ h => h) (Or.inl ⟨by rfl, ?_⟩) hS0 ?_
        rotate_left
        · (intro wS hS; obtain sA := hS; go_simp; try with_reducible rfl)
        simp only [Act.put, List.setIfInBounds_toArray, List.set_cons_zero, List.set_cons_succ]
        refine anyK_step (i := 3) (by kernel_rfl) rfl (by rfl) (fun K hK => ?_)
        go_simp
        go_at_call 87
        refine (l1Once_e B wd C 3 TD.out.cu).mono ?_
        rintro e wn ⟨x, rfl, ht⟩
        have TU := Lib.hid (TD.out.trans ht)
        have B1 := Lib.hid (ButA.turned (X := fun b => b = C) TU.out rfl)
        have V1x := Lib.hid (V3.out.but B1.out (fun k hk => by have := (V3.out.lt k hk).1; show ¬ k = C; omega))
        clear ht
        refine hK _ _ (.inr (LATE.out _ TU.out)) ?_
        try simp only [Act.put, List.setIfInBounds_toArray, List.set_cons_zero, List.set_cons_succ]
        clear hK
        refine anyK_step (i := 4) (by kernel_rfl) rfl (by rfl) (fun K hK => ?_)
        go_simp
        have TA := Lib.hid (TU.out.alloc (.cells #[.bool x] 4 (0, 0)))
        refine hK _ _ (.inr (LATE.out _ TA.out)) ?_
        try simp only [Act.put, List.setIfInBounds_toArray, List.set_cons_zero, List.set_cons_succ]
        clear hK
        have hus : (qcells r).length = k := by first | (rw [qcells_len]; exact HRL.out) | (rw [icells_len]; exact HCL.out)
        have HOW : Hid ((wn.alloc (.cells #[.bool x] 4 (0, 0))).ownsRow (w4.heap.size) 4 1 (.slice a3 k c3) k (qcells r)) := Lib.hid (by
          have h := World.ownsRow.alloc V1x.out (.cells #[.bool x] 4 (0, 0))
          rw [hus] at h
          exact h)
        have HND : Hid (∀ j u, ([.bool x] : List Value)[j]? = some u → (wn.alloc (.cells #[.bool x] 4 (0, 0))).cell? ((⟨wn.heap.size, 0, none⟩ : Addr).add j) = some u) := Lib.hid (World.news_of_block (heap_alloc_new wn (.cells #[.bool x] 4 (0, 0))))
        have hsn : wr.heap.size ≤ wn.heap.size := TU.out.size
        have HBS : Hid (w4.heap.size ≤ (wn.alloc (.cells #[.bool x] 4 (0, 0))).heap.size) := Lib.hid (by rw [size_one']; have := BT.out.1; omega)
        have HUS := Lib.hid hus
        clear hus
        refine anyK_step (i := 5) (by kernel_rfl) rfl (by rfl) (fun K hK => ?_)
        refine wp_append_keeps _ _ _ _ (by rfl) (w4.heap.size) 4 jb (.bool false) 1 1 Try.underlying28 jh jz0 jz1 jz2 rfl (by decide) (.slice a3 k c3) (k) (qcells r) (by rfl) HOW.out ⟨wn.heap.size, 0, none⟩ 1 1 [.bool x] (by rfl) (by rfl) HND.out (fun u hu => by simp only [List.mem_singleton] at hu; subst hu; rfl) (by omega) (by unfold maxLen; omega) (by omega) HBS.out _ (by rfl) ?_
        intro g2 cap2 w9 hown hgr hat hlt9 _
        have BAX := Lib.hid (show ButA (fun b => (Value.slice a3 k c3).ownBlock = some b) wn w9 from (ButA.called ((Below.refl wn.heap.size wn).alloc (Nat.le_refl _) (.cells #[.bool x] 4 (0, 0)))).trans (ButA.grown hgr (fun k hk => .inl hk)))
        have VN := Lib.hid (RowT.put (T := 4) hown (by rw [HUS.out]))
        have hs9 := BAX.out.1
        have hXn : wn.heap[X]? = _ := (TU.out.block hXc (by omega)).trans VB1.out
        have hX9 := (BAX.out.2 X (V1x.out.apart hXn (by decide)) (by omega)).trans hXn
        have TN := Lib.hid ((TT.out.trans TU.out).alloc (.cells #[.bool x] 4 (0, 0)) |>.grow hlt hgr fun k hk => by have := (V1x.out.lt k hk).1; omega)
        have BN := Lib.hid (show ButA (fun b => b = C ∨ b = X) w4 w9 from ⟨by have := BT.out.1; omega, fun b h1 h2 => (BAX.out.2 b (fun e => by have := (V1x.out.lt b e).1; omega) (by have := BT.out.1; omega)).trans ((B1.out.2 b (fun h => h1 (.inl h)) (by have := BT.out.1; omega)).trans (BT.out.2 b h1 h2))⟩)
        have cc := boxC hX9 3 _ rfl
        have ff : w9.frozen? ⟨X, 3, none⟩ = false := frozen_of_row _ _ _ _ _ hX9
        have V4w := Lib.hid (V4.out.but B1.out (fun k hk => by have := (V4.out.lt k hk).1; show ¬ k = C; omega))
        have V4y := Lib.hid (V4w.out.but BAX.out (fun k hk e => V1x.out.other V4w.out (by decide) k hk e))
        clear V4w
        have KX := Lib.hid hX9

        refine hK _ _ (.inr cc) ?_
        try simp only [Act.put, List.setIfInBounds_toArray, List.set_cons_zero, List.set_cons_succ]
        clear hK
        refine anyK_take (i := 6) (v := ?_) rfl (by kernel_rfl) (by kernel_rfl) (by kernel_rfl) (fun _ _ _ h => h) (Or.inl ⟨by rfl, ?_⟩) cc ?_
        rotate_left
        · (intro wS hS; obtain sA := hS; go_simp; try with_reducible rfl)
        simp only [Act.put, List.setIfInBounds_toArray, List.set_cons_zero, List.set_cons_succ]
        refine anyK_step (i := 7) (by kernel_rfl) rfl (by rfl) (fun K hK => ?_)
        go_simp
        refine hK _ _ (.inl (last_of (by kernel_rfl))) ?_
        clear hK
        refine anyK_done (by kernel_rfl) ?_ _
        have hk9 : (w9.setCell ⟨X, 3, none⟩ (.slice (some ⟨g2, 0, none⟩) (k + 1) cap2)).heap[X]? = some (.cells #[.slice av n0 c0, .slice av1 n1 cv1, .int .i64 ds, .slice (some ⟨g2, 0, none⟩) (k + 1) cap2, .slice a4 p c4, .slice none 0 0] 30 (0, 0)) := by
          have := heap_setCell_same w9 X 3 _ _ (.slice (some ⟨g2, 0, none⟩) (k + 1) cap2) KX.out
          simpa only [List.setIfInBounds_toArray, List.set_cons_zero, List.set_cons_succ] using this
        have BS := Lib.hid (ButA.stored (X := fun b => b = X) (g := X) rfl w9 3 (.slice (some ⟨g2, 0, none⟩) (k + 1) cap2))
        have VNz := Lib.hid (VN.out.but BS.out (fun k hk e => VN.out.apart KX.out (by decide) (e ▸ hk)))
        have V4z := Lib.hid (V4y.out.but BS.out (fun k hk e => V4y.out.apart KX.out (by decide) (e ▸ hk)))
        have BTz := Lib.hid (BN.out.trans (BS.out.weak fun b hb => .inr hb))
        have TTz := Lib.hid (TN.out.setCell hlt ⟨X, 3, none⟩ (.slice (some ⟨g2, 0, none⟩) (k + 1) cap2) (by show w.heap.size ≤ X; omega))
        have VBz := Lib.hid hk9
        clear hk9 BS KX cc ff hX9 hXn TN BN VN BAX hs9 hown hgr hat hlt9 HOW HND HBS HUS V1x B1 TU TA TD LATE hS0 hsn hXc V4y
        generalize w9.setCell ⟨X, 3, none⟩ (.slice (some ⟨g2, 0, none⟩) (k + 1) cap2) = w5 at VBz VNz V4z BTz TTz ⊢
        have VB1' := VBz
        have V3' := Lib.hid (show RowT 4 w4.heap.size w5 (.slice (some ⟨g2, 0, none⟩) (k + 1) cap2) (qcells (r ++ [x])) by rw [qcells_snoc]; exact VNz.out)
        clear VB1 V3 V4 BT TT VNz VBz
        obtain ⟨VB1, V4, V3, BT, TT⟩ : Hid (w5.heap[X]? = _) ∧ Hid (RowT 3 w4.heap.size w5 (.slice a4 p c4) (icells cp)) ∧ Hid (RowT 4 w4.heap.size w5 (.slice (some ⟨g2, 0, none⟩) (k + 1) cap2) (qcells (r ++ [x]))) ∧ Hid (ButA (fun b => b = C ∨ b = X) w4 w5) ∧ Hid (Turned B w w5 C) := ⟨VB1', V4z, V3', BTz, TTz⟩
        obtain ⟨g3, q3, hg3⟩ : ∃ g q, Value.slice (some ⟨g2, 0, none⟩) (k + 1) cap2 = .slice (some ⟨g, 0, none⟩) (k + 1) q := ⟨_, _, rfl⟩
        cases hg3
        clear VB1' V3' V4z BTz TTz
        by_cases hk0 : 0 < k
        · have hkg : decide ((k : Int) > 0) = true := decide_eq_true (by omega)
          have hdr : Turned B w5 w5.drew C := (Turned.refl TT.out.cu).then ((Below.refl _ _).drew)
          have TD := Lib.hid hdr
          have hXc : X < w5.heap.size := by have := BT.out.1; omega
          have LATE := Lib.hid fun (wx : World) (hx : Turned B w5 wx C) => (show wx.cell? ⟨X, 4, none⟩ = some (.slice a4 p c4) from boxC ((hx.block hXc (by omega)).trans VB1.out) 4 _ rfl)
          have hS0 := LATE.out w5.drew hdr
          clear hdr
          go_upto_region 9 with fail
          refine wp_region_K (S := fun w' => w'.cell? ⟨X, 4, none⟩ = some (.slice a4 p c4)) (by kernel_rfl) ?_
          show AnyK _ _ _ _ _ _ _ _ w5.drew
          generalize w5.drew = wd at hS0 TD ⊢
          refine anyK_take (i := 0) (v := ?_) rfl (by kernel_rfl) (by kernel_rfl) (by kernel_rfl) (fun _ _ _ h => h) (Or.inl ⟨by rfl, ?_⟩) hS0 ?_
          rotate_left
          · (intro wS hS; obtain sA := hS; go_simp; try with_reducible rfl)
          simp only [Act.put, List.setIfInBounds_toArray, List.set_cons_zero, List.set_cons_succ]
          refine anyK_take (i := 1) (v := ?_) rfl (by kernel_rfl) (by kernel_rfl) (by kernel_rfl) (fun _ _ _ h => h) (Or.inl ⟨by rfl, ?_⟩) hS0 ?_
          rotate_left
          · (intro wS hS; obtain sA := hS; go_simp; try with_reducible rfl)
          simp only [Act.put, List.setIfInBounds_toArray, List.set_cons_zero, List.set_cons_succ]
          refine anyK_take (i := 2) (v := ?_) rfl (by kernel_rfl) (by kernel_rfl) (by kernel_rfl) (fun _ _ _ h => h) (Or.inl ⟨by rfl, ?_⟩) hS0 ?_
          rotate_left
          · (intro wS hS; obtain sA := hS; go_simp; try with_reducible rfl)
          simp only [Act.put, List.setIfInBounds_toArray, List.set_cons_zero, List.set_cons_succ]
          refine anyK_step (i := 3) (by kernel_rfl) rfl (by rfl) (fun K hK => ?_)
          go_simp
          go_at_call 60
          refine (l1Below_e B wd C 3 (by omega) TD.out.cu).mono ?_
          rintro e wn ⟨y, rfl, ⟨y0, y1⟩, ht⟩
          have hwy : wrap64 (1 + y) = 1 + y := IntWalk.wrap64_in _ (by omega)
          have hwy2 : IntKind.i64.wrap (1 + y) = 1 + y := by rw [IntKind.wrap_i64]; omega
          have TU := Lib.hid (TD.out.trans ht)
          have B1 := Lib.hid (ButA.turned (X := fun b => b = C) TU.out rfl)
          have V1x := Lib.hid (V4.out.but B1.out (fun k hk => by have := (V4.out.lt k hk).1; show ¬ k = C; omega))
          clear ht
          refine hK _ _ (.inr (LATE.out _ TU.out)) ?_
          try simp only [Act.put, List.setIfInBounds_toArray, List.set_cons_zero, List.set_cons_succ]
          clear hK
          refine anyK_take (i := 4) (v := ?_) rfl (by kernel_rfl) (by kernel_rfl) (by kernel_rfl) (fun _ _ _ h => h) (Or.inl ⟨by rfl, ?_⟩) (LATE.out _ TU.out) ?_
          rotate_left
          · (intro wS hS; obtain sA := hS; go_simp; try with_reducible rfl)
          simp only [Act.put, List.setIfInBounds_toArray, List.set_cons_zero, List.set_cons_succ]
          refine anyK_step (i := 5) (by kernel_rfl) rfl (by rfl) (fun K hK => ?_)
          go_simp
          have TA := Lib.hid (TU.out.alloc (.cells #[.int .i64 (1 + y)] 3 (0, 0)))
          refine hK _ _ (.inr (LATE.out _ TA.out)) ?_
          try simp only [Act.put, List.setIfInBounds_toArray, List.set_cons_zero, List.set_cons_succ]
          clear hK
          have hus : (icells cp).length = p := by first | (rw [qcells_len]; exact HRL.out) | (rw [icells_len]; exact HCL.out)
          have HOW : Hid ((wn.alloc (.cells #[.int .i64 (1 + y)] 3 (0, 0))).ownsRow (w4.heap.size) 3 1 (.slice a4 p c4) p (icells cp)) := Lib.hid (by
            have h := World.ownsRow.alloc V1x.out (.cells #[.int .i64 (1 + y)] 3 (0, 0))
            rw [hus] at h
            exact h)
          have HND : Hid (∀ j u, ([.int .i64 (1 + y)] : List Value)[j]? = some u → (wn.alloc (.cells #[.int .i64 (1 + y)] 3 (0, 0))).cell? ((⟨wn.heap.size, 0, none⟩ : Addr).add j) = some u) := Lib.hid (World.news_of_block (heap_alloc_new wn (.cells #[.int .i64 (1 + y)] 3 (0, 0))))
          have hsn : w5.heap.size ≤ wn.heap.size := TU.out.size
          have HBS : Hid (w4.heap.size ≤ (wn.alloc (.cells #[.int .i64 (1 + y)] 3 (0, 0))).heap.size) := Lib.hid (by rw [size_one']; have := BT.out.1; omega)
          have HUS := Lib.hid hus
          clear hus
          refine anyK_step (i := 6) (by kernel_rfl) rfl (by rfl) (fun K hK => ?_)
          refine wp_append_keeps _ _ _ _ (by rfl) (w4.heap.size) 3 i0 (.int .i64 0) 1 8 Try.underlying27 ih iz0 iz1 iz2 rfl (by decide) (.slice a4 p c4) (p) (icells cp) (by rfl) HOW.out ⟨wn.heap.size, 0, none⟩ 1 1 [.int .i64 (1 + y)] (by rfl) (by rfl) HND.out (fun u hu => by simp only [List.mem_singleton] at hu; subst hu; rfl) (by omega) (by unfold maxLen; omega) (by omega) HBS.out _ (by rfl) ?_
          intro g4 cap4 w9 hown hgr hat hlt9 _
          have BAX := Lib.hid (show ButA (fun b => (Value.slice a4 p c4).ownBlock = some b) wn w9 from (ButA.called ((Below.refl wn.heap.size wn).alloc (Nat.le_refl _) (.cells #[.int .i64 (1 + y)] 3 (0, 0)))).trans (ButA.grown hgr (fun k hk => .inl hk)))
          have VN := Lib.hid (RowT.put (T := 3) hown (by rw [HUS.out]))
          have hs9 := BAX.out.1
          have hXn : wn.heap[X]? = _ := (TU.out.block hXc (by omega)).trans VB1.out
          have hX9 := (BAX.out.2 X (V1x.out.apart hXn (by decide)) (by omega)).trans hXn
          have TN := Lib.hid ((TT.out.trans TU.out).alloc (.cells #[.int .i64 (1 + y)] 3 (0, 0)) |>.grow hlt hgr fun k hk => by have := (V1x.out.lt k hk).1; omega)
          have BN := Lib.hid (show ButA (fun b => b = C ∨ b = X) w4 w9 from ⟨by have := BT.out.1; omega, fun b h1 h2 => (BAX.out.2 b (fun e => by have := (V1x.out.lt b e).1; omega) (by have := BT.out.1; omega)).trans ((B1.out.2 b (fun h => h1 (.inl h)) (by have := BT.out.1; omega)).trans (BT.out.2 b h1 h2))⟩)
          have cc := boxC hX9 4 _ rfl
          have ff : w9.frozen? ⟨X, 4, none⟩ = false := frozen_of_row _ _ _ _ _ hX9
          have V3w := Lib.hid (V3.out.but B1.out (fun k hk => by have := (V3.out.lt k hk).1; show ¬ k = C; omega))
          have V3y := Lib.hid (V3w.out.but BAX.out (fun k hk e => V1x.out.other V3w.out (by decide) k hk e))
          clear V3w
          have KX := Lib.hid hX9

          refine hK _ _ (.inr cc) ?_
          try simp only [Act.put, List.setIfInBounds_toArray, List.set_cons_zero, List.set_cons_succ]
          clear hK
          refine anyK_take (i := 7) (v := ?_) rfl (by kernel_rfl) (by kernel_rfl) (by kernel_rfl) (fun _ _ _ h => h) (Or.inl ⟨by rfl, ?_⟩) cc ?_
          rotate_left
          · (intro wS hS; obtain sA := hS; go_simp; try with_reducible rfl)
          simp only [Act.put, List.setIfInBounds_toArray, List.set_cons_zero, List.set_cons_succ]
          refine anyK_step (i := 8) (by kernel_rfl) rfl (by rfl) (fun K hK => ?_)
          go_simp
          refine hK _ _ (.inl (last_of (by kernel_rfl))) ?_
          clear hK
          refine anyK_done (by kernel_rfl) ?_ _
          have hk9 : (w9.setCell ⟨X, 4, none⟩ (.slice (some ⟨g4, 0, none⟩) (p + 1) cap4)).heap[X]? = some (.cells #[.slice av n0 c0, .slice av1 n1 cv1, .int .i64 ds, .slice (some ⟨g2, 0, none⟩) (k + 1) cap2, .slice (some ⟨g4, 0, none⟩) (p + 1) cap4, .slice none 0 0] 30 (0, 0)) := by
            have := heap_setCell_same w9 X 4 _ _ (.slice (some ⟨g4, 0, none⟩) (p + 1) cap4) KX.out
            simpa only [List.setIfInBounds_toArray, List.set_cons_zero, List.set_cons_succ] using this
          have BS := Lib.hid (ButA.stored (X := fun b => b = X) (g := X) rfl w9 4 (.slice (some ⟨g4, 0, none⟩) (p + 1) cap4))
          have VNz := Lib.hid (VN.out.but BS.out (fun k hk e => VN.out.apart KX.out (by decide) (e ▸ hk)))
          have V3z := Lib.hid (V3y.out.but BS.out (fun k hk e => V3y.out.apart KX.out (by decide) (e ▸ hk)))
          have BTz := Lib.hid (BN.out.trans (BS.out.weak fun b hb => .inr hb))
          have TTz := Lib.hid (TN.out.setCell hlt ⟨X, 4, none⟩ (.slice (some ⟨g4, 0, none⟩) (p + 1) cap4) (by show w.heap.size ≤ X; omega))
          have VBz := Lib.hid hk9
          clear hk9 BS KX cc ff hX9 hXn TN BN VN BAX hs9 hown hgr hat hlt9 HOW HND HBS HUS V1x B1 TU TA TD LATE hS0 hsn hXc V3y
          generalize w9.setCell ⟨X, 4, none⟩ (.slice (some ⟨g4, 0, none⟩) (p + 1) cap4) = w6 at VBz VNz V3z BTz TTz ⊢
          go_wp2_with fail
          go_roundw
          case rel =>
            refine ⟨k + 1, _, _, r ++ [x], cp ++ [1 + y], by omega, by go_num, by rw [List.length_append, HRL.out]; rfl, by rw [List.length_append, HCL.out, List.length_singleton]; have := HP.out; omega, VBz.out, V3z.out, ?_, BTz.out, TTz.out⟩
            rw [icells_snoc]
            exact VNz.out
          case measure => simp [intOf]; omega
        · have hkg : decide ((k : Int) > 0) = false := decide_eq_false (by omega)
          go_wp2_with fail
          go_roundw
          case rel =>
            exact ⟨k + 1, _, _, r ++ [x], cp, by omega, by go_num, by rw [List.length_append, HRL.out]; rfl, by rw [HCL.out]; have := HP.out; omega, VB1.out, V3.out, V4.out, BT.out, TT.out⟩
          case measure => simp [intOf]; omega

      · obtain ⟨N, rfl⟩ : ∃ y, y = k := ⟨_, rfl⟩
        have hNa : n1 + 1 ≤ N := by omega
        have hkd : decide ((N : Int) ≤ (n1 : Int)) = false := decide_eq_false (by omega)
        go_wp2_with fail
        clear z1
        obtain ⟨w5, rfl⟩ : ∃ y, y = wr := ⟨_, rfl⟩
        obtain rfl : p = n1 := by have := HP.out; omega
        have hw5 := BT.out.1
        have M5 : Hid (ListAt shOp (fun b => wa.heap.size ≤ b ∧ b < w1.heap.size) w5 av n0 m) := Lib.hid (M4.out.keep fun b hb => BT.out.2 b (by rintro (h | h) <;> (have := hb.1; have := hb.2; omega)) (by have := hb.2; omega))
        have V15 := Lib.hid (V1.out.but BT.out (fun k hk => by have := V1T.out k hk; have := (V1T.out k hk).1; rintro (h | h) <;> omega))
        have R5 := Lib.hid ((BT.out.2 w.heap.size (by rintro (h | h) <;> omega) (by omega)).trans R4.out)
        have L5 : Hid (ListAt shPair (fun b => w3.heap.size ≤ b ∧ b < w4.heap.size) w5 ab nb b) := Lib.hid (L4.out.keep fun b hb => BT.out.2 b (by rintro (h | h) <;> (have := hb.1; have := hb.2; omega)) hb.2)
        have hX5 : X < w5.heap.size := by omega
        go_loopw [8] (fun i wr => ∃ (k : Nat) (v5 : Value) (lm : List Int), k ≤ p + 1 ∧ i = .int .i64 k ∧ lm.length = k ∧ wr.heap[X]? = some (.cells #[.slice av n0 c0, .slice av1 p cv1, .int .i64 ds, .slice a3 N c3, .slice a4 p c4, v5] 30 (0, 0)) ∧ RowT 3 w5.heap.size wr v5 (icells lm) ∧ ButA (fun b => b = C ∨ b = X) w5 wr ∧ Turned B w wr C) (fun i _ => p + 1 - (intOf i).toNat)
        case atStart => exact ⟨0, .slice none 0 0, [], Nat.zero_le _, rfl, rfl, VB1.out, RowT.nil _ _ _, ButA.refl _ _, TT.out⟩
        case round =>
          obtain ⟨k, v5, lm, hk', rfl, hll, hbx, h5, hbt, ht⟩ := hrel
          have hsz5 := hbt.1
          obtain ⟨a5, c5, e5, g51, g52⟩ := h5.form
          rw [icells_len, hll] at e5 g51
          subst e5
          obtain ⟨-, z1, -⟩ := box6 hbx
          by_cases hkt : k ≤ p
          · have hkd : decide ((k : Int) ≤ (p : Int)) = true := decide_eq_true (by omega)
            go_wp2_with fail
            clear z1
            have VB1 := Lib.hid hbx
            have V5 := Lib.hid h5
            have BT0 := BT
            have V3r := Lib.hid (V3.out.but hbt (fun k hk => by have := (V3.out.lt k hk).1; rintro (h | h) <;> omega))
            have V4r := Lib.hid (V4.out.but hbt (fun k hk => by have := (V4.out.lt k hk).1; rintro (h | h) <;> omega))
            have V1r := Lib.hid (V15.out.but hbt (fun k hk => by have := V1T.out k hk; rintro (h | h) <;> omega))
            have M6 : Hid (ListAt shOp (fun b => wa.heap.size ≤ b ∧ b < w1.heap.size) wr av n0 m) := Lib.hid (M5.out.keep fun b hb => hbt.2 b (by rintro (h | h) <;> (have := hb.1; have := hb.2; omega)) (by have := hb.2; omega))
            have CONF := Lib.hid fun (wx : World) (hx : Turned B wr wx C) => (conf_of (I := Under wx.heap.size) (ds := ds) ((M6.out.keep fun b hb => hx.block (by have := hb.2; omega) (by have := hb.1; omega)).sub fun b hb => by show b < _; have := hx.size; have := hb.2; omega) hcv1 hcv2
              (V1r.out.but (ButA.turned (X := fun b => b = C) hx rfl) (fun k hk => by have := V1T.out k hk; show ¬ k = C; omega)) (fun k hk => by show k < _; have := hx.size; have := V1T.out k hk; omega)
              (V3r.out.but (ButA.turned (X := fun b => b = C) hx rfl) (fun k hk => by have := V3r.out.lt k hk; show ¬ k = C; omega)) (fun k hk => by show k < _; have := hx.size; have := V3r.out.lt k hk; omega)
              (V4r.out.but (ButA.turned (X := fun b => b = C) hx rfl) (fun k hk => by have := V4r.out.lt k hk; show ¬ k = C; omega)) (fun k hk => by show k < _; have := hx.size; have := V4r.out.lt k hk; omega)
              (V5.out.but (ButA.turned (X := fun b => b = C) hx rfl) (fun k hk => by have := V5.out.lt k hk; show ¬ k = C; omega)) (fun k hk => by show k < _; have := hx.size; have := V5.out.lt k hk; omega))
            have hblk := conf_small (ds := ds) HSM.out (by have := HN.out; omega) (show l.length ≤ 9 by have := HL1.out; omega) (show r.length ≤ 9 by have := HRL.out; omega) (show cp.length ≤ 9 by have := HCL.out; omega) (show lm.length ≤ 9 by omega)
            have PK := Lib.hid fun (wx : World) (hx : Turned B wr wx C) => specPeakOf_d wx _ _ (CONF.out wx hx) hblk (k : Int) (nb : Int)
            dsimp only at PK
            obtain ⟨f9, t9, ef9, et9, hok9⟩ := range_ok m l (k : Int)
            have hpv : 0 ≤ peakN m l ds r (k : Int) (nb : Int) ∧ peakN m l ds r (k : Int) (nb : Int) ≤ 330 := peak_in (f := (fromC m l (k : Int)).toNat) (t := (toC m l (k : Int)).toNat) (by rw [ef9, et9]; exact hok9) _ ds (nb : Int)
            obtain ⟨PV, hPV⟩ : ∃ V, peakN m l ds r (k : Int) (nb : Int) = V := ⟨_, rfl⟩
            simp only [hPV] at PK
            rw [hPV] at hpv
            have HLL := Lib.hid hll
            have HCL0 := HCL
            have BTk := Lib.hid hbt
            have TTk := Lib.hid ht
            clear hbx h5 hll ef9 et9 hok9 hPV hblk CONF hbt ht
            clear BT TT HCL
            obtain ⟨BT, TT, HCL⟩ : Hid (ButA (fun b => b = C ∨ b = X) w5 wr) ∧ Hid (Turned B w wr C) ∧ Hid (lm.length = k) := ⟨BTk, TTk, HLL⟩
            clear BTk TTk
            have hdr : Turned B wr wr.drew C := (Turned.refl TT.out.cu).then ((Below.refl _ _).drew)
            have TD := Lib.hid hdr
            have hXc : X < wr.heap.size := by have := BT.out.1; omega
            have LATE := Lib.hid fun (wx : World) (hx : Turned B wr wx C) => (box6 ((hx.block hXc (by omega)).trans VB1.out))
            have hS0 := LATE.out wr.drew hdr
            clear hdr
            go_upto_region 13 with fail
            refine wp_region_K (S := fun w' => w'.cell? ⟨X, 0, none⟩ = some (.slice av n0 c0) ∧ w'.cell? ⟨X, 1, none⟩ = some (.slice av1 p cv1) ∧ w'.cell? ⟨X, 2, none⟩ = some (.int .i64 ds) ∧ w'.cell? ⟨X, 3, none⟩ = some (.slice a3 N c3) ∧ w'.cell? ⟨X, 4, none⟩ = some (.slice a4 p c4) ∧ w'.cell? ⟨X, 5, none⟩ = some (.slice a5 k c5)) (by kernel_rfl) ?_
            show AnyK _ _ _ _ _ _ _ _ wr.drew
            generalize wr.drew = wd at hS0 TD ⊢
            refine anyK_take (i := 0) (v := ?_) rfl (by kernel_rfl) (by kernel_rfl) (by kernel_rfl) (fun _ _ _ h => h) (Or.inl ⟨by rfl, ?_⟩) hS0 ?_
            rotate_left
            · (intro wS hS; obtain ⟨sA, sB, sC, sD, sE, sF⟩ := hS; go_simp; try with_reducible rfl)
            simp only [Act.put, List.setIfInBounds_toArray, List.set_cons_zero, List.set_cons_succ]
            refine anyK_take (i := 1) (v := ?_) rfl (by kernel_rfl) (by kernel_rfl) (by kernel_rfl) (fun _ _ _ h => h) (Or.inl ⟨by rfl, ?_⟩) hS0 ?_
            rotate_left
            · (intro wS hS; obtain ⟨sA, sB, sC, sD, sE, sF⟩ := hS; go_simp; try with_reducible rfl)
            simp only [Act.put, List.setIfInBounds_toArray, List.set_cons_zero, List.set_cons_succ]
            refine anyK_take (i := 2) (v := ?_) rfl (by kernel_rfl) (by kernel_rfl) (by kernel_rfl) (fun _ _ _ h => h) (Or.inl ⟨by rfl, ?_⟩) hS0 ?_
            rotate_left
            · (intro wS hS; obtain ⟨sA, sB, sC, sD, sE, sF⟩ := hS; go_simp; try with_reducible rfl)
            simp only [Act.put, List.setIfInBounds_toArray, List.set_cons_zero, List.set_cons_succ]
            refine anyK_take (i := 3) (v := ?_) rfl (by kernel_rfl) (by kernel_rfl) (by kernel_rfl) (fun _ _ _ h => h) (Or.inl ⟨by rfl, ?_⟩) hS0 ?_
            rotate_left
            · (intro wS hS; obtain ⟨sA, sB, sC, sD, sE, sF⟩ := hS; go_simp; try with_reducible rfl)
            simp only [Act.put, List.setIfInBounds_toArray, List.set_cons_zero, List.set_cons_succ]
            refine anyK_take (i := 4) (v := ?_) rfl (by kernel_rfl) (by kernel_rfl) (by kernel_rfl) (fun _ _ _ h => h) (Or.inl ⟨by rfl, ?_⟩) hS0 ?_
            rotate_left
            · (intro wS hS; obtain ⟨sA, sB, sC, sD, sE, sF⟩ := hS; go_simp; try with_reducible rfl)
            simp only [Act.put, List.setIfInBounds_toArray, List.set_cons_zero, List.set_cons_succ]
            refine anyK_take (i := 5) (v := ?_) rfl (by kernel_rfl) (by kernel_rfl) (by kernel_rfl) (fun _ _ _ h => h) (Or.inl ⟨by rfl, ?_⟩) hS0 ?_
            rotate_left
            · (intro wS hS; obtain ⟨sA, sB, sC, sD, sE, sF⟩ := hS; go_simp; try with_reducible rfl)
            simp only [Act.put, List.setIfInBounds_toArray, List.set_cons_zero, List.set_cons_succ]
            refine anyK_take (i := 7) (v := ?_) rfl (by kernel_rfl) (by kernel_rfl) (by kernel_rfl) (fun _ _ _ h => h) (Or.inl ⟨by rfl, ?_⟩) hS0 ?_
            rotate_left
            · (intro wS hS; obtain ⟨sA, sB, sC, sD, sE, sF⟩ := hS; go_simp; try with_reducible rfl)
            simp only [Act.put, List.setIfInBounds_toArray, List.set_cons_zero, List.set_cons_succ]
            have HSD := Lib.hid (show wr.heap.size ≤ wd.heap.size from TD.out.size)
            refine anyK_two (i := 6) (j := 8) (by kernel_rfl) rfl (by rfl) rfl (by rfl) (fun K hK => ?_) (fun K hK => ?_)
            · skip
              go_simp
              go_at_call 16
              refine (PK.out wd TD.out).mono ?_
              rintro e wp ⟨rfl, hb⟩
              have hsn' := hb.size
              have TDn := Lib.hid (TD.out.then hb)
              have HSDn := Lib.hid (Nat.le_trans HSD.out hb.size)
              clear hb TD
              have TD := TDn
              clear TDn
              clear HSD hsn'
              have HSD := HSDn
              refine hK _ _ (.inr (LATE.out _ TD.out)) ?_
              try simp only [Act.put, List.setIfInBounds_toArray, List.set_cons_zero, List.set_cons_succ]
              clear hK
              refine anyK_step (i := 8) (by kernel_rfl) rfl (by rfl) (fun K hK => ?_)
              go_simp
              have HL0 := heap_alloc_new wp (.cells #[.int .i64 0, .int .i64 0, .int .i64 7] 3 (0, 0))
              have hls : (wp.alloc (.cells #[.int .i64 0, .int .i64 0, .int .i64 7] 3 (0, 0))).heap.size = wp.heap.size + 1 := by simp
              have TDn := Lib.hid (TD.out.alloc (.cells #[.int .i64 0, .int .i64 0, .int .i64 7] 3 (0, 0)))
              refine hK _ _ (.inr (LATE.out _ TDn.out)) ?_
              try simp only [Act.put, List.setIfInBounds_toArray, List.set_cons_zero, List.set_cons_succ]
              clear hK TD
              have HL := Lib.hid HL0
              have HLC := Lib.hid (show C < wp.heap.size ∧ wp.heap.size < (wp.alloc (.cells #[.int .i64 0, .int .i64 0, .int .i64 7] 3 (0, 0))).heap.size from ⟨by have := TDn.out.size; have := TT.out.size; have := HSD.out; omega, by omega⟩)
              obtain ⟨L, hL⟩ : ∃ L, wp.heap.size = L := ⟨_, rfl⟩
              rw [hL] at HL HLC
              simp only [hL]
              generalize wp.alloc (.cells #[.int .i64 0, .int .i64 0, .int .i64 7] 3 (0, 0)) = wq at HL HLC TDn ⊢
              clear HL0 hls hL
              have TD := TDn
              clear TDn
              refine anyK_step (i := 9) (by kernel_rfl) rfl (by rfl) (fun K hK => ?_)
              go_simp
              go_at_call 62
              refine (l1PickInt_e B wq C L 3 [0, 0, 7] (fun x => x = 0 ∨ x = 7) rfl (by omega) (by omega) (fun x hx => by simp only [List.mem_cons, List.not_mem_nil, or_false] at hx; omega) TD.out.cu (by have := HLC.out; omega) (fun j hj => by
                rcases (show j = 0 ∨ j = 1 ∨ j = 2 by omega) with rfl | rfl | rfl
                · exact boxC HL.out 0 _ rfl
                · exact boxC HL.out 1 _ rfl
                · exact boxC HL.out 2 _ rfl)).mono ?_
              rintro e wn ⟨y, rfl, hy, ht⟩
              have hwy : wrap64 (PV + y) = PV + y := IntWalk.wrap64_in _ (by omega)
              have hwy2 : IntKind.i64.wrap (PV + y) = PV + y := by rw [IntKind.wrap_i64]; omega
              have TU := Lib.hid (TD.out.trans ht)
              have B1 := Lib.hid (ButA.turned (X := fun b => b = C) TU.out rfl)
              have V1x := Lib.hid (V5.out.but B1.out (fun k hk => by have := (V5.out.lt k hk).1; show ¬ k = C; omega))
              clear ht
              refine hK _ _ (.inr (LATE.out _ TU.out)) ?_
              try simp only [Act.put, List.setIfInBounds_toArray, List.set_cons_zero, List.set_cons_succ]
              clear hK
              refine anyK_take (i := 10) (v := ?_) rfl (by kernel_rfl) (by kernel_rfl) (by kernel_rfl) (fun _ _ _ h => h) (Or.inl ⟨by rfl, ?_⟩) (LATE.out _ TU.out) ?_
              rotate_left
              · (intro wS hS; obtain ⟨sA, sB, sC, sD, sE, sF⟩ := hS; go_simp; try with_reducible rfl)
              simp only [Act.put, List.setIfInBounds_toArray, List.set_cons_zero, List.set_cons_succ]
              refine anyK_step (i := 11) (by kernel_rfl) rfl (by rfl) (fun K hK => ?_)
              go_simp
              have TA := Lib.hid (TU.out.alloc (.cells #[.int .i64 (PV + y)] 3 (0, 0)))
              refine hK _ _ (.inr (LATE.out _ TA.out)) ?_
              try simp only [Act.put, List.setIfInBounds_toArray, List.set_cons_zero, List.set_cons_succ]
              clear hK
              have hus : (icells lm).length = k := by first | (rw [qcells_len]; exact HRL.out) | (rw [icells_len]; exact HCL.out)
              have HOW : Hid ((wn.alloc (.cells #[.int .i64 (PV + y)] 3 (0, 0))).ownsRow (w5.heap.size) 3 1 (.slice a5 k c5) k (icells lm)) := Lib.hid (by
                have h := World.ownsRow.alloc V1x.out (.cells #[.int .i64 (PV + y)] 3 (0, 0))
                rw [hus] at h
                exact h)
              have HND : Hid (∀ j u, ([.int .i64 (PV + y)] : List Value)[j]? = some u → (wn.alloc (.cells #[.int .i64 (PV + y)] 3 (0, 0))).cell? ((⟨wn.heap.size, 0, none⟩ : Addr).add j) = some u) := Lib.hid (World.news_of_block (heap_alloc_new wn (.cells #[.int .i64 (PV + y)] 3 (0, 0))))
              have hsn : wr.heap.size ≤ wn.heap.size := TU.out.size
              have HBS : Hid (w5.heap.size ≤ (wn.alloc (.cells #[.int .i64 (PV + y)] 3 (0, 0))).heap.size) := Lib.hid (by rw [size_one']; have := BT.out.1; omega)
              have HUS := Lib.hid hus
              clear hus
              refine anyK_step (i := 12) (by kernel_rfl) rfl (by rfl) (fun K hK => ?_)
              refine wp_append_keeps _ _ _ _ (by rfl) (w5.heap.size) 3 i0 (.int .i64 0) 1 8 Try.underlying27 ih iz0 iz1 iz2 rfl (by decide) (.slice a5 k c5) (k) (icells lm) (by rfl) HOW.out ⟨wn.heap.size, 0, none⟩ 1 1 [.int .i64 (PV + y)] (by rfl) (by rfl) HND.out (fun u hu => by simp only [List.mem_singleton] at hu; subst hu; rfl) (by omega) (by unfold maxLen; omega) (by omega) HBS.out _ (by rfl) ?_
              intro g2 cap2 w9 hown hgr hat hlt9 _
              have BAX := Lib.hid (show ButA (fun b => (Value.slice a5 k c5).ownBlock = some b) wn w9 from (ButA.called ((Below.refl wn.heap.size wn).alloc (Nat.le_refl _) (.cells #[.int .i64 (PV + y)] 3 (0, 0)))).trans (ButA.grown hgr (fun k hk => .inl hk)))
              have VN := Lib.hid (RowT.put (T := 3) hown (by rw [HUS.out]))
              have hs9 := BAX.out.1
              have hXn : wn.heap[X]? = _ := (TU.out.block hXc (by omega)).trans VB1.out
              have hX9 := (BAX.out.2 X (V1x.out.apart hXn (by decide)) (by omega)).trans hXn
              have TN := Lib.hid ((TT.out.trans TU.out).alloc (.cells #[.int .i64 (PV + y)] 3 (0, 0)) |>.grow hlt hgr fun k hk => by have := (V1x.out.lt k hk).1; omega)
              have BN := Lib.hid (show ButA (fun b => b = C ∨ b = X) w5 w9 from ⟨by have := BT.out.1; omega, fun b h1 h2 => (BAX.out.2 b (fun e => by have := (V1x.out.lt b e).1; omega) (by have := BT.out.1; omega)).trans ((B1.out.2 b (fun h => h1 (.inl h)) (by have := BT.out.1; omega)).trans (BT.out.2 b h1 h2))⟩)
              have cc := boxC hX9 5 _ rfl
              have ff : w9.frozen? ⟨X, 5, none⟩ = false := frozen_of_row _ _ _ _ _ hX9
              have KX := Lib.hid hX9
              have hS9 := box6 hX9
              refine hK _ _ (.inr hS9) ?_
              try simp only [Act.put, List.setIfInBounds_toArray, List.set_cons_zero, List.set_cons_succ]
              clear hK
              refine anyK_take (i := 13) (v := ?_) rfl (by kernel_rfl) (by kernel_rfl) (by kernel_rfl) (fun _ _ _ h => h) (Or.inl ⟨by rfl, ?_⟩) hS9 ?_
              rotate_left
              · (intro wS hS; obtain ⟨sA, sB, sC, sD, sE, sF⟩ := hS; go_simp; try with_reducible rfl)
              simp only [Act.put, List.setIfInBounds_toArray, List.set_cons_zero, List.set_cons_succ]
              refine anyK_step (i := 14) (by kernel_rfl) rfl (by rfl) (fun K hK => ?_)
              go_simp
              refine hK _ _ (.inl (last_of (by kernel_rfl))) ?_
              clear hK
              refine anyK_done (by kernel_rfl) ?_ _
              have hk9 : (w9.setCell ⟨X, 5, none⟩ (.slice (some ⟨g2, 0, none⟩) (k + 1) cap2)).heap[X]? = some (.cells #[.slice av n0 c0, .slice av1 p cv1, .int .i64 ds, .slice a3 N c3, .slice a4 p c4, .slice (some ⟨g2, 0, none⟩) (k + 1) cap2] 30 (0, 0)) := by
                have := heap_setCell_same w9 X 5 _ _ (.slice (some ⟨g2, 0, none⟩) (k + 1) cap2) KX.out
                simpa only [List.setIfInBounds_toArray, List.set_cons_zero, List.set_cons_succ] using this
              have BS := Lib.hid (ButA.stored (X := fun b => b = X) (g := X) rfl w9 5 (.slice (some ⟨g2, 0, none⟩) (k + 1) cap2))
              have VNz := Lib.hid (VN.out.but BS.out (fun k hk e => VN.out.apart KX.out (by decide) (e ▸ hk)))
              have BTz := Lib.hid (BN.out.trans (BS.out.weak fun b hb => .inr hb))
              have TTz := Lib.hid (TN.out.setCell hlt ⟨X, 5, none⟩ (.slice (some ⟨g2, 0, none⟩) (k + 1) cap2) (by show w.heap.size ≤ X; omega))
              have VBz := Lib.hid hk9
              clear hk9 BS KX cc ff hX9 hXn TN BN VN BAX hs9 hown hgr hat hlt9 HOW HND HBS HUS V1x B1 TU TA TD LATE hS0 hsn hXc 
              generalize w9.setCell ⟨X, 5, none⟩ (.slice (some ⟨g2, 0, none⟩) (k + 1) cap2) = w9z at VBz VNz  BTz TTz ⊢
              go_wp2_with fail
              go_roundw
              case rel =>
                refine ⟨k + 1, _, lm ++ [PV + y], by omega, by go_num, by rw [List.length_append, HCL.out]; rfl, VBz.out, ?_, BTz.out, TTz.out⟩
                rw [icells_snoc]
                exact VNz.out
              case measure => simp [intOf]; omega
            · skip
              go_simp
              have HL0 := heap_alloc_new wd (.cells #[.int .i64 0, .int .i64 0, .int .i64 7] 3 (0, 0))
              have hls : (wd.alloc (.cells #[.int .i64 0, .int .i64 0, .int .i64 7] 3 (0, 0))).heap.size = wd.heap.size + 1 := by simp
              have TDn := Lib.hid (TD.out.alloc (.cells #[.int .i64 0, .int .i64 0, .int .i64 7] 3 (0, 0)))
              refine hK _ _ (.inr (LATE.out _ TDn.out)) ?_
              try simp only [Act.put, List.setIfInBounds_toArray, List.set_cons_zero, List.set_cons_succ]
              clear hK TD
              have HL := Lib.hid HL0
              have HLC := Lib.hid (show C < wd.heap.size ∧ wd.heap.size < (wd.alloc (.cells #[.int .i64 0, .int .i64 0, .int .i64 7] 3 (0, 0))).heap.size from ⟨by have := TDn.out.size; have := TT.out.size; have := HSD.out; omega, by omega⟩)
              obtain ⟨L, hL⟩ : ∃ L, wd.heap.size = L := ⟨_, rfl⟩
              rw [hL] at HL HLC
              simp only [hL]
              generalize wd.alloc (.cells #[.int .i64 0, .int .i64 0, .int .i64 7] 3 (0, 0)) = wp at HL HLC TDn ⊢
              clear HL0 hls hL
              have TD := TDn
              clear TDn
              refine anyK_step (i := 6) (by kernel_rfl) rfl (by rfl) (fun K hK => ?_)
              go_simp
              go_at_call 16
              refine (PK.out wp TD.out).mono ?_
              rintro e wq ⟨rfl, hb⟩
              have HLn := Lib.hid ((hb.block L HLC.out.2).trans HL.out)
              have HLCn := Lib.hid (show C < L ∧ L < wq.heap.size from ⟨HLC.out.1, Nat.lt_of_lt_of_le HLC.out.2 hb.size⟩)
              clear HL HLC
              obtain ⟨HL, HLC⟩ : Hid (_ = _) ∧ Hid (_ ∧ _) := ⟨HLn, HLCn⟩
              have TDn := Lib.hid (TD.out.then hb)

              clear hb TD
              have TD := TDn
              clear TDn


              refine hK _ _ (.inr (LATE.out _ TD.out)) ?_
              try simp only [Act.put, List.setIfInBounds_toArray, List.set_cons_zero, List.set_cons_succ]
              clear hK
              refine anyK_step (i := 9) (by kernel_rfl) rfl (by rfl) (fun K hK => ?_)
              go_simp
              go_at_call 62
              refine (l1PickInt_e B wq C L 3 [0, 0, 7] (fun x => x = 0 ∨ x = 7) rfl (by omega) (by omega) (fun x hx => by simp only [List.mem_cons, List.not_mem_nil, or_false] at hx; omega) TD.out.cu (by have := HLC.out; omega) (fun j hj => by
                rcases (show j = 0 ∨ j = 1 ∨ j = 2 by omega) with rfl | rfl | rfl
                · exact boxC HL.out 0 _ rfl
                · exact boxC HL.out 1 _ rfl
                · exact boxC HL.out 2 _ rfl)).mono ?_
              rintro e wn ⟨y, rfl, hy, ht⟩
              have hwy : wrap64 (PV + y) = PV + y := IntWalk.wrap64_in _ (by omega)
              have hwy2 : IntKind.i64.wrap (PV + y) = PV + y := by rw [IntKind.wrap_i64]; omega
              have TU := Lib.hid (TD.out.trans ht)
              have B1 := Lib.hid (ButA.turned (X := fun b => b = C) TU.out rfl)
              have V1x := Lib.hid (V5.out.but B1.out (fun k hk => by have := (V5.out.lt k hk).1; show ¬ k = C; omega))
              clear ht
              refine hK _ _ (.inr (LATE.out _ TU.out)) ?_
              try simp only [Act.put, List.setIfInBounds_toArray, List.set_cons_zero, List.set_cons_succ]
              clear hK
              refine anyK_take (i := 10) (v := ?_) rfl (by kernel_rfl) (by kernel_rfl) (by kernel_rfl) (fun _ _ _ h => h) (Or.inl ⟨by rfl, ?_⟩) (LATE.out _ TU.out) ?_
              rotate_left
              · (intro wS hS; obtain ⟨sA, sB, sC, sD, sE, sF⟩ := hS; go_simp; try with_reducible rfl)
              simp only [Act.put, List.setIfInBounds_toArray, List.set_cons_zero, List.set_cons_succ]
              refine anyK_step (i := 11) (by kernel_rfl) rfl (by rfl) (fun K hK => ?_)
              go_simp
              have TA := Lib.hid (TU.out.alloc (.cells #[.int .i64 (PV + y)] 3 (0, 0)))
              refine hK _ _ (.inr (LATE.out _ TA.out)) ?_
              try simp only [Act.put, List.setIfInBounds_toArray, List.set_cons_zero, List.set_cons_succ]
              clear hK
              have hus : (icells lm).length = k := by first | (rw [qcells_len]; exact HRL.out) | (rw [icells_len]; exact HCL.out)
              have HOW : Hid ((wn.alloc (.cells #[.int .i64 (PV + y)] 3 (0, 0))).ownsRow (w5.heap.size) 3 1 (.slice a5 k c5) k (icells lm)) := Lib.hid (by
                have h := World.ownsRow.alloc V1x.out (.cells #[.int .i64 (PV + y)] 3 (0, 0))
                rw [hus] at h
                exact h)
              have HND : Hid (∀ j u, ([.int .i64 (PV + y)] : List Value)[j]? = some u → (wn.alloc (.cells #[.int .i64 (PV + y)] 3 (0, 0))).cell? ((⟨wn.heap.size, 0, none⟩ : Addr).add j) = some u) := Lib.hid (World.news_of_block (heap_alloc_new wn (.cells #[.int .i64 (PV + y)] 3 (0, 0))))
              have hsn : wr.heap.size ≤ wn.heap.size := TU.out.size
              have HBS : Hid (w5.heap.size ≤ (wn.alloc (.cells #[.int .i64 (PV + y)] 3 (0, 0))).heap.size) := Lib.hid (by rw [size_one']; have := BT.out.1; omega)
              have HUS := Lib.hid hus
              clear hus
              refine anyK_step (i := 12) (by kernel_rfl) rfl (by rfl) (fun K hK => ?_)
              refine wp_append_keeps _ _ _ _ (by rfl) (w5.heap.size) 3 i0 (.int .i64 0) 1 8 Try.underlying27 ih iz0 iz1 iz2 rfl (by decide) (.slice a5 k c5) (k) (icells lm) (by rfl) HOW.out ⟨wn.heap.size, 0, none⟩ 1 1 [.int .i64 (PV + y)] (by rfl) (by rfl) HND.out (fun u hu => by simp only [List.mem_singleton] at hu; subst hu; rfl) (by omega) (by unfold maxLen; omega) (by omega) HBS.out _ (by rfl) ?_
              intro g2 cap2 w9 hown hgr hat hlt9 _
              have BAX := Lib.hid (show ButA (fun b => (Value.slice a5 k c5).ownBlock = some b) wn w9 from (ButA.called ((Below.refl wn.heap.size wn).alloc (Nat.le_refl _) (.cells #[.int .i64 (PV + y)] 3 (0, 0)))).trans (ButA.grown hgr (fun k hk => .inl hk)))
              have VN := Lib.hid (RowT.put (T := 3) hown (by rw [HUS.out]))
              have hs9 := BAX.out.1
              have hXn : wn.heap[X]? = _ := (TU.out.block hXc (by omega)).trans VB1.out
              have hX9 := (BAX.out.2 X (V1x.out.apart hXn (by decide)) (by omega)).trans hXn
              have TN := Lib.hid ((TT.out.trans TU.out).alloc (.cells #[.int .i64 (PV + y)] 3 (0, 0)) |>.grow hlt hgr fun k hk => by have := (V1x.out.lt k hk).1; omega)
              have BN := Lib.hid (show ButA (fun b => b = C ∨ b = X) w5 w9 from ⟨by have := BT.out.1; omega, fun b h1 h2 => (BAX.out.2 b (fun e => by have := (V1x.out.lt b e).1; omega) (by have := BT.out.1; omega)).trans ((B1.out.2 b (fun h => h1 (.inl h)) (by have := BT.out.1; omega)).trans (BT.out.2 b h1 h2))⟩)
              have cc := boxC hX9 5 _ rfl
              have ff : w9.frozen? ⟨X, 5, none⟩ = false := frozen_of_row _ _ _ _ _ hX9
              have KX := Lib.hid hX9
              have hS9 := box6 hX9
              refine hK _ _ (.inr hS9) ?_
              try simp only [Act.put, List.setIfInBounds_toArray, List.set_cons_zero, List.set_cons_succ]
              clear hK
              refine anyK_take (i := 13) (v := ?_) rfl (by kernel_rfl) (by kernel_rfl) (by kernel_rfl) (fun _ _ _ h => h) (Or.inl ⟨by rfl, ?_⟩) hS9 ?_
              rotate_left
              · (intro wS hS; obtain ⟨sA, sB, sC, sD, sE, sF⟩ := hS; go_simp; try with_reducible rfl)
              simp only [Act.put, List.setIfInBounds_toArray, List.set_cons_zero, List.set_cons_succ]
              refine anyK_step (i := 14) (by kernel_rfl) rfl (by rfl) (fun K hK => ?_)
              go_simp
              refine hK _ _ (.inl (last_of (by kernel_rfl))) ?_
              clear hK
              refine anyK_done (by kernel_rfl) ?_ _
              have hk9 : (w9.setCell ⟨X, 5, none⟩ (.slice (some ⟨g2, 0, none⟩) (k + 1) cap2)).heap[X]? = some (.cells #[.slice av n0 c0, .slice av1 p cv1, .int .i64 ds, .slice a3 N c3, .slice a4 p c4, .slice (some ⟨g2, 0, none⟩) (k + 1) cap2] 30 (0, 0)) := by
                have := heap_setCell_same w9 X 5 _ _ (.slice (some ⟨g2, 0, none⟩) (k + 1) cap2) KX.out
                simpa only [List.setIfInBounds_toArray, List.set_cons_zero, List.set_cons_succ] using this
              have BS := Lib.hid (ButA.stored (X := fun b => b = X) (g := X) rfl w9 5 (.slice (some ⟨g2, 0, none⟩) (k + 1) cap2))
              have VNz := Lib.hid (VN.out.but BS.out (fun k hk e => VN.out.apart KX.out (by decide) (e ▸ hk)))
              have BTz := Lib.hid (BN.out.trans (BS.out.weak fun b hb => .inr hb))
              have TTz := Lib.hid (TN.out.setCell hlt ⟨X, 5, none⟩ (.slice (some ⟨g2, 0, none⟩) (k + 1) cap2) (by show w.heap.size ≤ X; omega))
              have VBz := Lib.hid hk9
              clear hk9 BS KX cc ff hX9 hXn TN BN VN BAX hs9 hown hgr hat hlt9 HOW HND HBS HUS V1x B1 TU TA TD LATE hS0 hsn hXc 
              generalize w9.setCell ⟨X, 5, none⟩ (.slice (some ⟨g2, 0, none⟩) (k + 1) cap2) = w9z at VBz VNz  BTz TTz ⊢
              go_wp2_with fail
              go_roundw
              case rel =>
                refine ⟨k + 1, _, lm ++ [PV + y], by omega, by go_num, by rw [List.length_append, HCL.out]; rfl, VBz.out, ?_, BTz.out, TTz.out⟩
                rw [icells_snoc]
                exact VNz.out
              case measure => simp [intOf]; omega

          · have hka : p + 1 ≤ k := by omega
            have hkd : decide ((k : Int) ≤ (p : Int)) = false := decide_eq_false (by omega)
            clear z1
            obtain ⟨z0, z1, z2, z3, z4, z5⟩ := box6 hbx
            have hR := (hbt.2 w.heap.size (by rintro (h | h) <;> omega) (by omega)).trans R5.out
            obtain ⟨y0, y1, y2, y3, y4, y5⟩ := box6 hR
            have f0 : wr.frozen? ⟨w.heap.size, 0, none⟩ = false := frozen_of_row _ _ _ _ _ hR
            have f1 : wr.frozen? ⟨w.heap.size, 1, none⟩ = false := frozen_of_row _ _ _ _ _ hR
            have f2 : wr.frozen? ⟨w.heap.size, 2, none⟩ = false := frozen_of_row _ _ _ _ _ hR
            have f3 : wr.frozen? ⟨w.heap.size, 3, none⟩ = false := frozen_of_row _ _ _ _ _ hR
            have f4 : wr.frozen? ⟨w.heap.size, 4, none⟩ = false := frozen_of_row _ _ _ _ _ hR
            have f5 : wr.frozen? ⟨w.heap.size, 5, none⟩ = false := frozen_of_row _ _ _ _ _ hR
            obtain ⟨s1, s2, s3⟩ := six_box hR (.slice av n0 c0) (.slice av1 p cv1) (.int .i64 ds) (.slice a3 N c3) (.slice a4 p c4) (.slice a5 k c5)
            have s4 := six_turned (X := w.heap.size) ht (by omega) (Nat.le_refl _) (.slice av n0 c0) (.slice av1 p cv1) (.int .i64 ds) (.slice a3 N c3) (.slice a4 p c4) (.slice a5 k c5)
            have S1 := Lib.hid s1
            have S2 := Lib.hid s2
            have S3 := Lib.hid s3
            have S4 := Lib.hid s4
            have H5 := Lib.hid h5
            have HBT := Lib.hid hbt
            have HLL := Lib.hid hll
            clear hR hbx s1 s2 s3 s4 h5 hbt ht hll
            go_wp2_with fail
            refine bodyPost_ret (results_row_tmp rfl _ _ w.heap.size 30 #[.slice av n0 c0, .slice av1 p cv1, .int .i64 ds, .slice a3 N c3, .slice a4 p c4, .slice a5 k c5] (0, 0) _ rfl ?_ Try.underlying30 rfl (by kernel_rfl)) rfl ?_
            · exact S1.out
            have hF : ButA (fun b => b = w.heap.size) wr _ := ⟨Nat.le_of_eq S2.out.symm, fun b h1 _ => S3.out b h1⟩
            have hs2' := S2.out
            refine ⟨av, n0, c0, .slice av1 p cv1, ds, .slice a3 N c3, .slice a4 p c4, .slice a5 k c5, ab, nb, cb, m, l, r, cp, lm, b, w2.heap.size, w3.heap.size, w4.heap.size, w5.heap.size, rfl, ⟨⟨hn1, hn6, hcv1, hcv2, HSM.out⟩, ⟨nb1, nb4, hcb1, hcb2, HSB.out⟩, by rw [HL1.out]; exact hl3, by have := HRL.out; have := HL1.out; omega, by have := HCL.out; have := HL1.out; omega, by have := HLL.out; have := HL1.out; omega⟩, ⟨by omega, by omega, by omega, by omega, by omega⟩, ?_, ?_, HV14.out, ?_, ?_, fun g hg => (V3.out.lt g hg).2, ?_, fun g hg => (V4.out.lt g hg).2, ?_, S4.out⟩
            · exact (((M5.out.keep fun b hb => HBT.out.2 b (by rintro (h | h) <;> (have := hb.1; have := hb.2; omega)) (by have := hb.2; omega)).keep fun b hb => hF.2 b (by have := hb.1; omega) (by have := hb.2; omega))).sub fun b hb => ⟨by have := hb.1; omega, by have := hb.2; omega⟩
            · exact (V15.out.but HBT.out (fun k hk => by have := V1T.out k hk; rintro (h | h) <;> omega)).but hF (fun k hk => by have := (V1T.out k hk).1; show ¬ k = w.heap.size; omega)
            · exact ((L5.out.keep fun b hb => HBT.out.2 b (by rintro (h | h) <;> (have := hb.1; have := hb.2; omega)) (by have := hb.2; omega)).keep fun b hb => hF.2 b (by have := hb.1; omega) (by have := hb.2; omega))
            · exact (V3.out.but HBT.out (fun k hk => by have := (V3.out.lt k hk).1; rintro (h | h) <;> omega)).but hF (fun k hk => by have := (V3.out.lt k hk).1; show ¬ k = w.heap.size; omega)
            · exact (V4.out.but HBT.out (fun k hk => by have := (V4.out.lt k hk).1; rintro (h | h) <;> omega)).but hF (fun k hk => by have := (V4.out.lt k hk).1; show ¬ k = w.heap.size; omega)
            · exact H5.out.but hF (fun k hk => by have := (H5.out.lt k hk).1; show ¬ k = w.heap.size; omega)
end Go.Proofs.Ytkflinobmagiiaa

end

/-! YtkflinobmagiiaaDrawAny -/
section

namespace Go.Proofs.Ytkflinobmagiiaa
open Go.RowKit Go.Sort
set_option linter.unusedVariables false
set_option linter.unusedSimpArgs false

theorem conf_at {I : Nat → Prop} {w : World} {a0 a1 a3 a4 a5 : Option Addr} {n0 c0 n1 c1 n3 c3 n4 c4 n5 c5 : Nat} {m : List dOp} {l : List Int} {ds : Int} {r : List Bool} {cp lm : List Int}
    (h0 : n0 ≤ c0 ∧ c0 ≤ 9223372036854775807 ∧ ListAt shOp I w a0 n0 m) (h1 : n1 ≤ c1 ∧ c1 ≤ 9223372036854775807 ∧ ListAt Shape.int I w a1 n1 l) (h3 : n3 ≤ c3 ∧ c3 ≤ 9223372036854775807 ∧ ListAt Shape.bool I w a3 n3 r)
    (h4 : n4 ≤ c4 ∧ c4 ≤ 9223372036854775807 ∧ ListAt Shape.int I w a4 n4 cp) (h5 : n5 ≤ c5 ∧ c5 ≤ 9223372036854775807 ∧ ListAt Shape.int I w a5 n5 lm) :
    shConfig.reads I w [.slice a0 n0 c0, .slice a1 n1 c1, .int .i64 ds, .slice a3 n3 c3, .slice a4 n4 c4, .slice a5 n5 c5] (m, l, ds, r, cp, lm) :=
  shConfig_reads.2 ⟨_, _, _, _, _, _, _, _, _, _, _, _, _, _, _, rfl, h0, h1, h3, h4, h5⟩
/-- A list but its first numbers. -/
theorem ListAt.partC {I : Nat → Prop} {w : World} {a : Option Addr} {n : Nat} {xs : List Int} (h : ListAt Shape.int I w a n xs) {f t : Nat} (hft : f ≤ t) (htn : t ≤ n) :
    ListAt Shape.int I w (a.map (fun x => ({ block := x.block, off := x.off + f } : Addr))) (t - f) ((xs.drop f).take (t - f)) := by
  refine ⟨by rw [List.length_take, List.length_drop, h.1]; omega, fun j x hx => ?_⟩
  have hj : j < t - f := by
    have := (List.getElem?_eq_some_iff.1 hx).1
    rw [List.length_take] at this
    omega
  rw [List.getElem?_take, if_pos hj, List.getElem?_drop] at hx
  obtain ⟨b, o, es, rfl, hb, hr, hs⟩ := h.2 (f + j) x hx
  refine ⟨b, o + f, es, rfl, hb, ?_, hs⟩
  have e : o + f + j * Shape.int.size = o + (f + j) * Shape.int.size := by rw [show Shape.int.size = 1 from rfl]; omega
  rw [e]
  exact hr
/-- A configuration and a batch were drawn, right ones or not. -/
def DrewAny (B : Nat) (w : World) (C : Nat) (e : Ending) (w' : World) : Prop :=
  ∃ es x a n c b, e = .returned (.tuple #[.agg (es : List Value).toArray, .slice a n c]) ∧ (shConfig.bulk x ≤ 1048576 ∧ b.length = n ∧ n ≤ 6 ∧ n ≤ c ∧ c ≤ 9223372036854775807 ∧ SmallB b) ∧
    shConfig.reads (From w.heap.size w'.heap.size) w' es x ∧ ListAt shPair (From w.heap.size w'.heap.size) w' a n b ∧ Turned B w w' C
set_option maxRecDepth 100000 in
set_option maxHeartbeats 6400000 in
theorem l12Any_e (B : Nat) (w : World) (C : Nat) (hc : Cu B w C) :
    Calls Try.prog 31 #[.pointer (some ⟨C, 0, none⟩)] w (DrewAny B w C) := by
  have hlt := hc.lt
  have h0 := (Turned.refl hc).alloc (.cells #[.slice none 0 0, .slice none 0 0, .int .i64 0, .slice none 0 0, .slice none 0 0, .slice none 0 0] 30 (0, 0))
  have hb0 := heap_alloc_new w (.cells #[.slice none 0 0, .slice none 0 0, .int .i64 0, .slice none 0 0, .slice none 0 0, .slice none 0 0] 30 (0, 0))
  have hs0 : (w.alloc (.cells #[.slice none 0 0, .slice none 0 0, .int .i64 0, .slice none 0 0, .slice none 0 0, .slice none 0 0] 30 (0, 0))).heap.size = w.heap.size + 1 := by simp
  have T0 := Lib.hid h0
  have R0 := Lib.hid hb0
  clear hc h0 hb0
  go_enter Try.func31, Try.ntmps31
  go_wp2_with fail
  generalize w.alloc (.cells #[.slice none 0 0, .slice none 0 0, .int .i64 0, .slice none 0 0, .slice none 0 0, .slice none 0 0] 30 (0, 0)) = wa at T0 R0 hs0 ⊢
  refine (l12Config_e B wa C T0.out.cu).mono ?_
  rintro e w1 ⟨a0, n0, c0, v1, ds, v3, v4, v5, ab, nb, cb, m, l, r, cp, lm, b, k0, k1, k2, k3, rfl, ⟨⟨g1, g2, g3, g4, hsm⟩, ⟨q1, q2, q3, q4, hsb⟩, hl3, hrl, hcl, hll⟩, ⟨i0, i1, i2, i3, i4⟩, hm, h1, o1, hb, h3, o3, h4, o4, h5, ht1⟩
  obtain ⟨n1, hn1⟩ : ∃ n, l.length = n := ⟨_, rfl⟩
  obtain ⟨n3, hn3⟩ : ∃ n, n1 + 1 = n := ⟨_, rfl⟩
  rw [hn1] at hl3 hrl hcl hll
  rw [hn3] at hrl hll
  obtain ⟨a1, c1, e1, p1, p1', -⟩ := h1.nums
  obtain ⟨a3, c3, e3, p3, p3', -⟩ := h3.marks
  obtain ⟨a4, c4, e4, p4, p4', -⟩ := h4.nums
  obtain ⟨a5, c5, e5, p5, p5', -⟩ := h5.nums
  rw [hn1] at e1 p1
  rw [hrl] at e3 p3
  rw [hcl] at e4 p4
  rw [hll] at e5 p5
  subst e1 e3 e4 e5
  have hs1 := ht1.size
  have HN1 := Lib.hid hn1
  have HN3 := Lib.hid hn3
  have hn3a : n3 ≤ n1 + 1 := by omega
  have hn3b : n1 + 1 ≤ n3 := by omega
  have HRL := Lib.hid hrl
  have HCL := Lib.hid hcl
  have HLL := Lib.hid hll
  have HSM := Lib.hid hsm
  have HSB := Lib.hid hsb
  have HML := Lib.hid hm.1
  have HBL := Lib.hid hb.1
  have HNB := Lib.hid (show nb ≤ 6 by omega)
  have HCB := Lib.hid (And.intro q3 q4)
  have T1 := Lib.hid (T0.out.trans ht1)
  have R1 := Lib.hid ((ht1.block (by omega) (by omega)).trans R0.out)
  have hal : Below w1.heap.size w1 (w1.alloc (.cells #[.slice a0 n0 c0, .slice a1 n1 c1, .int .i64 ds, .slice a3 n3 c3, .slice a4 n1 c4, .slice a5 n3 c5] 30 (0, 0))) := (Below.refl _ _).alloc (Nat.le_refl _) _
  have hbx := heap_alloc_new w1 (.cells #[.slice a0 n0 c0, .slice a1 n1 c1, .int .i64 ds, .slice a3 n3 c3, .slice a4 n1 c4, .slice a5 n3 c5] 30 (0, 0))
  have hs2 : (w1.alloc (.cells #[.slice a0 n0 c0, .slice a1 n1 c1, .int .i64 ds, .slice a3 n3 c3, .slice a4 n1 c4, .slice a5 n3 c5] 30 (0, 0))).heap.size = w1.heap.size + 1 := by simp
  obtain ⟨X4, hX4⟩ : ∃ X, w1.heap.size = X := ⟨_, rfl⟩
  have hXa : wa.heap.size ≤ X4 := by omega
  have J0 : Hid (∀ b, From wa.heap.size k0 b → wa.heap.size ≤ b ∧ b < X4) := Lib.hid fun b hb => ⟨hb.1, by have := hb.2; omega⟩
  have J1 : Hid (∀ b, (Value.slice a1 n1 c1).ownBlock = some b → wa.heap.size ≤ b ∧ b < X4) := Lib.hid fun b hb => by have := h1.lt b hb; omega
  have J3 : Hid (∀ b, (Value.slice a3 n3 c3).ownBlock = some b → wa.heap.size ≤ b ∧ b < X4) := Lib.hid fun b hb => by have := h3.lt b hb; omega
  have J4 : Hid (∀ b, (Value.slice a4 n1 c4).ownBlock = some b → wa.heap.size ≤ b ∧ b < X4) := Lib.hid fun b hb => by have := h4.lt b hb; omega
  have J5 : Hid (∀ b, (Value.slice a5 n3 c5).ownBlock = some b → wa.heap.size ≤ b ∧ b < X4) := Lib.hid fun b hb => by have := h5.lt b hb; omega
  have JB : Hid (∀ b, From k1 k2 b → wa.heap.size ≤ b ∧ b < X4) := Lib.hid fun b hb => ⟨by have := hb.1; omega, by have := hb.2; omega⟩
  have OO1 : Hid (∀ b, (Value.slice a1 n1 c1).ownBlock = some b → k0 ≤ b ∧ b < k1) := Lib.hid fun b hb => ⟨(h1.lt b hb).1, o1 b hb⟩
  have OO3 : Hid (∀ b, (Value.slice a3 n3 c3).ownBlock = some b → k2 ≤ b ∧ b < k3) := Lib.hid fun b hb => ⟨(h3.lt b hb).1, o3 b hb⟩
  have OO4 : Hid (∀ b, (Value.slice a4 n1 c4).ownBlock = some b → k2 ≤ b ∧ b < k3) := Lib.hid fun b hb => ⟨(h4.lt b hb).1, o4 b hb⟩
  have OO5 : Hid (∀ b, (Value.slice a5 n3 c5).ownBlock = some b → k3 ≤ b) := Lib.hid fun b hb => (h5.lt b hb).1
  have O34 : Hid (∀ b, (Value.slice a3 n3 c3).ownBlock = some b → (Value.slice a4 n1 c4).ownBlock ≠ some b) := Lib.hid (h4.other h3 (by decide))
  have B01 : Hid (ButA (fun b => b = C) w1 w1) := Lib.hid (ButA.refl _ _)
  have G0 := Lib.hid hm
  have G1 := Lib.hid h1
  have G3 := Lib.hid h3
  have G4 := Lib.hid h4
  have G5 := Lib.hid h5
  have GB := Lib.hid hb
  have AL := Lib.hid hal
  have BX2 := Lib.hid hbx
  have PQ := Lib.hid (show (n0 ≤ c0 ∧ c0 ≤ 9223372036854775807) ∧ (n1 ≤ c1 ∧ c1 ≤ 9223372036854775807) ∧ (n3 ≤ c3 ∧ c3 ≤ 9223372036854775807) ∧ (n1 ≤ c4 ∧ c4 ≤ 9223372036854775807) ∧ (n3 ≤ c5 ∧ c5 ≤ 9223372036854775807) from ⟨⟨g3, g4⟩, ⟨p1, p1'⟩, ⟨p3, p3'⟩, ⟨p4, p4'⟩, ⟨p5, p5'⟩⟩)
  have II := Lib.hid (show wa.heap.size ≤ k0 ∧ k0 ≤ k1 ∧ k1 ≤ k2 ∧ k2 ≤ k3 ∧ k3 ≤ X4 from ⟨i0, i1, i2, i3, by omega⟩)
  clear hm h1 h3 h4 h5 hb ht1 hal hbx o1 o3 o4 hsm hsb hrl hcl hll hn1 hn3 B01 i0 i1 i2 i3 i4 g3 g4 p1 p1' p3 p3' p4 p4' p5 p5' q1 q2 q3 q4
  go_upto_region 2 with fail
  generalize w1.alloc (.cells #[.slice a0 n0 c0, .slice a1 n1 c1, .int .i64 ds, .slice a3 n3 c3, .slice a4 n1 c4, .slice a5 n3 c5] 30 (0, 0)) = w2 at AL BX2 hs2 ⊢
  rw [hX4] at BX2 hs2
  have T2 := Lib.hid (T1.out.then AL.out)
  have R2 := Lib.hid ((AL.out.block w.heap.size (by omega)).trans R1.out)
  go_wp2_with fail
  refine (l1Below_e B w2 C 16 (by omega) T2.out.cu).mono ?_
  rintro e w3 ⟨y, rfl, ⟨y0, y1⟩, ht3⟩
  have hs3 := ht3.size
  have E13 : Hid (ButA (fun b => b = C) w1 w3) := Lib.hid ((ButA.called AL.out).trans (ButA.turned ht3 rfl))
  have T3 := Lib.hid (T2.out.trans ht3)
  have HR3 := Lib.hid ((ht3.block (by omega) (by omega)).trans R2.out)
  have BX3 := Lib.hid ((ht3.block (by omega) (by omega)).trans BX2.out)
  have V1 := Lib.hid (G1.out.but E13.out (fun k hk => by have := J1.out k hk; show ¬ k = C; omega))
  have F1 : Hid (n1 ≤ c1 ∧ c1 ≤ 9223372036854775807 ∧ ListAt Shape.int (fun b => (Value.slice a1 n1 c1).ownBlock = some b) w3 a1 n1 l) := Lib.hid ⟨(PQ.out.2.1).1, (PQ.out.2.1).2, by
    obtain ⟨a', c', e', -, -, hl⟩ := V1.out.nums
    cases e'
    exact hl⟩
  have V4 := Lib.hid (G4.out.but E13.out (fun k hk => by have := J4.out k hk; show ¬ k = C; omega))
  have F4 : Hid (n1 ≤ c4 ∧ c4 ≤ 9223372036854775807 ∧ ListAt Shape.int (fun b => (Value.slice a4 n1 c4).ownBlock = some b) w3 a4 n1 cp) := Lib.hid ⟨(PQ.out.2.2.2.1).1, (PQ.out.2.2.2.1).2, by
    obtain ⟨a', c', e', -, -, hl⟩ := V4.out.nums
    cases e'
    exact hl⟩
  have V5 := Lib.hid (G5.out.but E13.out (fun k hk => by have := J5.out k hk; show ¬ k = C; omega))
  have F5 : Hid (n3 ≤ c5 ∧ c5 ≤ 9223372036854775807 ∧ ListAt Shape.int (fun b => (Value.slice a5 n3 c5).ownBlock = some b) w3 a5 n3 lm) := Lib.hid ⟨(PQ.out.2.2.2.2).1, (PQ.out.2.2.2.2).2, by
    obtain ⟨a', c', e', -, -, hl⟩ := V5.out.nums
    cases e'
    exact hl⟩
  have V3 := Lib.hid (G3.out.but E13.out (fun k hk => by have := J3.out k hk; show ¬ k = C; omega))
  have F3 : Hid (n3 ≤ c3 ∧ c3 ≤ 9223372036854775807 ∧ ListAt Shape.bool (fun b => (Value.slice a3 n3 c3).ownBlock = some b) w3 a3 n3 r) := Lib.hid ⟨(PQ.out.2.2.1).1, (PQ.out.2.2.1).2, by
    obtain ⟨a', c', e', -, -, hl⟩ := V3.out.marks
    cases e'
    exact hl⟩
  have F0 : Hid (n0 ≤ c0 ∧ c0 ≤ 9223372036854775807 ∧ ListAt shOp (From wa.heap.size k0) w3 a0 n0 m) := Lib.hid ⟨PQ.out.1.1, PQ.out.1.2, G0.out.keep fun b hb => E13.out.2 b (by have := J0.out b hb; show ¬ b = C; omega) (by have := J0.out b hb; omega)⟩
  have FB : Hid (ListAt shPair (From k1 k2) w3 ab nb b) := Lib.hid (GB.out.keep fun b hb => E13.out.2 b (by have := JB.out b hb; show ¬ b = C; omega) (by have := JB.out b hb; omega))
  have hbulk : ∀ (m' : List dOp) (l' : List Int) (ds' : Int) (r' : List Bool) (cp' lm' : List Int), SmallM m' → m'.length ≤ 9 → l'.length ≤ 9 → r'.length ≤ 9 → cp'.length ≤ 9 → lm'.length ≤ 9 → shConfig.bulk (m', l', ds', r', cp', lm') ≤ 1048576 := fun m' l' ds' r' cp' lm' h0 h1 h2 h3 h4 h5 => conf_small h0 h1 h2 h3 h4 h5
  have HBK := Lib.hid hbulk
  have LN := Lib.hid (show m.length ≤ 9 ∧ l.length ≤ 4 ∧ r.length ≤ 9 ∧ cp.length ≤ 9 ∧ lm.length ≤ 9 from ⟨by have := HML.out; omega, by have := HN1.out; omega, by have := HRL.out; omega, by have := HCL.out; omega, by have := HLL.out; omega⟩)
  clear G0 G1 G3 G4 G5 GB ht3 T2 R2 BX2 AL E13 hbulk T1 R1 T0 R0
  have hX3 : X4 < w3.heap.size := by omega
  have hy : y = 0 ∨ y = 1 ∨ y = 2 ∨ y = 3 ∨ y = 4 ∨ y = 5 ∨ y = 6 ∨ y = 7 ∨ 8 ≤ y := by omega
  clear hs1 hs2
  rcases hy with rfl | rfl | rfl | rfl | rfl | rfl | rfl | rfl | hy
  · skip
    go_wp2_with fail
    refine (l6Any_e B w3 C T3.out.cu).mono ?_
    rintro e w4 ⟨av, nv, cv, m', rfl, ⟨hn9, hnl, hc1, hc2, hsm'⟩, hli, ht4⟩
    have HSM' := Lib.hid hsm'
    have HNL := Lib.hid hnl
    have hs4 := ht4.size
    obtain ⟨a', c', e', -, -, hla⟩ := hli.listFrom8
    simp only [Value.slice.injEq] at e'
    obtain ⟨rfl, -, rfl⟩ := e'
    rw [hnl] at hla
    have HLA : Hid (ListAt shOp (fun b => w3.heap.size ≤ b ∧ b < w4.heap.size) w4 av nv m') := Lib.hid hla
    have KW := Lib.hid ((ht4.block hX3 (by omega)).trans BX3.out)
    have E4 := Lib.hid (ButA.turned (X := (fun b => b = C ∨ b = X4)) ht4 (.inl rfl))
    have T4 := Lib.hid (T3.out.trans ht4)
    clear hli hla ht4
    clear hsm' hnl
    have cc := boxC KW.out 0 _ rfl
    have ff : w4.frozen? ⟨X4, 0, none⟩ = false := frozen_of_row _ _ _ _ _ KW.out
    have hk9 : (w4.setCell ⟨X4, 0, none⟩ (.slice av nv cv)).heap[X4]? = some (.cells #[.slice av nv cv, .slice a1 n1 c1, .int .i64 ds, .slice a3 n3 c3, .slice a4 n1 c4, .slice a5 n3 c5] 30 (0, 0)) := by
      have := heap_setCell_same w4 X4 0 _ _ (.slice av nv cv) KW.out
      simpa only [List.setIfInBounds_toArray, List.set_cons_zero, List.set_cons_succ] using this
    have KX := Lib.hid hk9
    have E := Lib.hid (E4.out.trans (ButA.stored (X := (fun b => b = C ∨ b = X4)) (g := X4) (.inr rfl) w4 0 (.slice av nv cv)))
    have TT := Lib.hid (T4.out.setCell hlt ⟨X4, 0, none⟩ (.slice av nv cv) (by show w.heap.size ≤ X4; omega))
    have FX : Hid (ListAt shOp (fun b => w3.heap.size ≤ b ∧ b < w4.heap.size) (w4.setCell ⟨X4, 0, none⟩ (.slice av nv cv)) av nv m') := Lib.hid (HLA.out.keep fun b hb => heap_setCell_other _ _ _ _ (by show b ≠ X4; have := hb.1; omega))
    have hsw : w4.heap.size ≤ (w4.setCell ⟨X4, 0, none⟩ (.slice av nv cv)).heap.size := by simp
    clear hk9
    go_upto_region 20 with fail
    clear cc ff
    generalize w4.setCell ⟨X4, 0, none⟩ (.slice av nv cv) = w5 at KX E TT FX hsw ⊢
    have hR5 := (E.out.2 w.heap.size (by rintro (h | h) <;> first | omega | (have hj := JO.out _ h; omega)) (by omega)).trans HR3.out
    obtain ⟨z0, z1, z2, z3, z4, z5⟩ := box6 KX.out
    obtain ⟨y0, y1, y2, y3, y4, y5⟩ := box6 hR5
    have f0 : w5.frozen? ⟨w.heap.size, 0, none⟩ = false := frozen_of_row _ _ _ _ _ hR5
    have f1 : w5.frozen? ⟨w.heap.size, 1, none⟩ = false := frozen_of_row _ _ _ _ _ hR5
    have f2 : w5.frozen? ⟨w.heap.size, 2, none⟩ = false := frozen_of_row _ _ _ _ _ hR5
    have f3 : w5.frozen? ⟨w.heap.size, 3, none⟩ = false := frozen_of_row _ _ _ _ _ hR5
    have f4 : w5.frozen? ⟨w.heap.size, 4, none⟩ = false := frozen_of_row _ _ _ _ _ hR5
    have f5 : w5.frozen? ⟨w.heap.size, 5, none⟩ = false := frozen_of_row _ _ _ _ _ hR5
    obtain ⟨s1, s2, s3⟩ := six_box hR5 (.slice av nv cv) (.slice a1 n1 c1) (.int .i64 ds) (.slice a3 n3 c3) (.slice a4 n1 c4) (.slice a5 n3 c5)
    have S1 := Lib.hid s1
    have S2 := Lib.hid s2
    have S3 := Lib.hid s3
    have S4 := Lib.hid (six_turned (X := w.heap.size) TT.out (by omega) (Nat.le_refl _) (.slice av nv cv) (.slice a1 n1 c1) (.int .i64 ds) (.slice a3 n3 c3) (.slice a4 n1 c4) (.slice a5 n3 c5))
    clear hR5 s1 s2 s3
    go_wp2_with fail
    refine bodyPost_ret (results_row_tmp rfl _ _ w.heap.size 30 #[.slice av nv cv, .slice a1 n1 c1, .int .i64 ds, .slice a3 n3 c3, .slice a4 n1 c4, .slice a5 n3 c5] (0, 0) _ rfl ?_ Try.underlying30 rfl (by kernel_rfl)) rfl ?_
    · exact S1.out
    have hF : ButA (fun b => b = w.heap.size) w5 _ := ⟨Nat.le_of_eq S2.out.symm, fun b h1 _ => S3.out b h1⟩
    have hs5 := E.out.1
    have hs6 := S2.out
    have hcf : shConfig.reads (fun b => w.heap.size < b ∧ b < w5.heap.size) w5 [.slice av nv cv, .slice a1 n1 c1, .int .i64 ds, .slice a3 n3 c3, .slice a4 n1 c4, .slice a5 n3 c5] (m', l, ds, r, cp, lm) := conf_at (⟨hc1, hc2, FX.out.sub fun b hb => ⟨by have := hb.1; omega, by have := hb.2; omega⟩⟩) ⟨F1.out.1, F1.out.2.1, (F1.out.2.2.keep fun b hb => E.out.2 b (by have hj := J1.out b hb; rintro (h | h) <;> first | omega | exact AP1.out b hb h) (by have := J1.out b hb; omega)).sub fun b hb => by have := J1.out b hb; exact ⟨by omega, by omega⟩⟩ ⟨F3.out.1, F3.out.2.1, (F3.out.2.2.keep fun b hb => E.out.2 b (by have hj := J3.out b hb; rintro (h | h) <;> first | omega | exact AP3.out b hb h) (by have := J3.out b hb; omega)).sub fun b hb => by have := J3.out b hb; exact ⟨by omega, by omega⟩⟩ ⟨F4.out.1, F4.out.2.1, (F4.out.2.2.keep fun b hb => E.out.2 b (by have hj := J4.out b hb; rintro (h | h) <;> first | omega | exact AP4.out b hb h) (by have := J4.out b hb; omega)).sub fun b hb => by have := J4.out b hb; exact ⟨by omega, by omega⟩⟩ ⟨F5.out.1, F5.out.2.1, (F5.out.2.2.keep fun b hb => E.out.2 b (by have hj := J5.out b hb; rintro (h | h) <;> first | omega | exact AP5.out b hb h) (by have := J5.out b hb; omega)).sub fun b hb => by have := J5.out b hb; exact ⟨by omega, by omega⟩⟩
    have hbt : ListAt shPair (fun b => w.heap.size < b ∧ b < w5.heap.size) w5 ab nb b := (FB.out.keep fun b hb => E.out.2 b (by have hj := JB.out b hb; rintro (h | h) <;> first | omega | exact APB.out b hb h) (by have := JB.out b hb; omega)).sub fun b hb => by have := JB.out b hb; exact ⟨by omega, by omega⟩
    exact ⟨[.slice av nv cv, .slice a1 n1 c1, .int .i64 ds, .slice a3 n3 c3, .slice a4 n1 c4, .slice a5 n3 c5], _, ab, nb, cb, b, rfl, ⟨HBK.out m' l ds r cp lm HSM'.out (by have := HNL.out; omega) (by have := LN.out; omega) LN.out.2.2.1 LN.out.2.2.2.1 LN.out.2.2.2.2, HBL.out, by have := HNB.out; omega, HCB.out.1, HCB.out.2, HSB.out⟩,
      shConfig.sub (shConfig.keep hcf fun b hb => hF.2 b (by have := hb.1; omega) hb.2) fun b hb => ⟨by have := hb.1; omega, by have := hb.2; omega⟩,
      (hbt.keep fun b hb => hF.2 b (by have := hb.1; omega) hb.2).sub fun b hb => ⟨by have := hb.1; omega, by have := hb.2; omega⟩, S4.out⟩
  · skip
    have VB1 := BX3
    have TT := T3
    have BT : Hid (ButA (fun b => b = C ∨ b = X4) w w3) := Lib.hid (ButA.turned T3.out (.inl rfl))
    have hk0 : w.heap.size ≤ k0 := by have := II.out; omega
    have hk1 : k0 ≤ w3.heap.size := by have := II.out; omega
    obtain ⟨i0, ih, iz0, iz1, iz2⟩ := info_parts Try.infoI64
    clear HCL HRL
    have hdr : Turned B w3 w3.drew C := (Turned.refl TT.out.cu).then ((Below.refl _ _).drew)
    have TD := Lib.hid hdr
    have hXc : X4 < w3.heap.size := by have := BT.out.1; omega
    have LATE := Lib.hid fun (wx : World) (hx : Turned B w3 wx C) => (show wx.cell? ⟨X4, 1, none⟩ = some (.slice a1 n1 c1) from boxC ((hx.block hXc (by omega)).trans VB1.out) 1 _ rfl)
    have hS0 := LATE.out w3.drew hdr
    clear hdr
    go_upto_region 6 with fail
    refine wp_region_K (S := fun w' => w'.cell? ⟨X4, 1, none⟩ = some (.slice a1 n1 c1)) (by kernel_rfl) ?_
    show AnyK _ _ _ _ _ _ _ _ w3.drew
    generalize w3.drew = wd at hS0 TD ⊢
    refine anyK_take (i := 0) (v := ?_) rfl (by kernel_rfl) (by kernel_rfl) (by kernel_rfl) (fun _ _ _ h => h) (Or.inl ⟨by rfl, ?_⟩) hS0 ?_
    rotate_left
    · (intro wS hS; obtain sA := hS; go_simp; try with_reducible rfl)
    simp only [Act.put, List.setIfInBounds_toArray, List.set_cons_zero, List.set_cons_succ]
    refine anyK_take (i := 1) (v := ?_) rfl (by kernel_rfl) (by kernel_rfl) (by kernel_rfl) (fun _ _ _ h => h) (Or.inl ⟨by rfl, ?_⟩) hS0 ?_
    rotate_left
    · (intro wS hS; obtain sA := hS; go_simp; try with_reducible rfl)
    simp only [Act.put, List.setIfInBounds_toArray, List.set_cons_zero, List.set_cons_succ]
    refine anyK_take (i := 2) (v := ?_) rfl (by kernel_rfl) (by kernel_rfl) (by kernel_rfl) (fun _ _ _ h => h) (Or.inl ⟨by rfl, ?_⟩) hS0 ?_
    rotate_left
    · (intro wS hS; obtain sA := hS; go_simp; try with_reducible rfl)
    simp only [Act.put, List.setIfInBounds_toArray, List.set_cons_zero, List.set_cons_succ]
    refine anyK_step (i := 3) (by kernel_rfl) rfl (by rfl) (fun K hK => ?_)
    go_simp
    go_at_call 60
    refine (l1Below_e B wd C 8 (by omega) TD.out.cu).mono ?_
    rintro e wn ⟨z, rfl, ⟨hz0, hz1⟩, ht⟩
    have TU := Lib.hid (TD.out.trans ht)
    have B1 := Lib.hid (ButA.turned (X := fun b => b = C) TU.out rfl)
    have V1x := Lib.hid (V1.out.but B1.out (fun k hk => by have := (V1.out.lt k hk).1; show ¬ k = C; omega))
    clear ht
    refine hK _ _ (.inr (LATE.out _ TU.out)) ?_
    try simp only [Act.put, List.setIfInBounds_toArray, List.set_cons_zero, List.set_cons_succ]
    clear hK
    refine anyK_step (i := 4) (by kernel_rfl) rfl (by rfl) (fun K hK => ?_)
    go_simp
    have TA := Lib.hid (TU.out.alloc (.cells #[.int .i64 z] 3 (0, 0)))
    refine hK _ _ (.inr (LATE.out _ TA.out)) ?_
    try simp only [Act.put, List.setIfInBounds_toArray, List.set_cons_zero, List.set_cons_succ]
    clear hK
    have hus : (icells l).length = n1 := by first | (rw [qcells_len]; exact HRL.out) | (rw [icells_len]; exact HCL.out) | (rw [icells_len]; exact HN1.out)
    have HOW : Hid ((wn.alloc (.cells #[.int .i64 z] 3 (0, 0))).ownsRow (k0) 3 1 (.slice a1 n1 c1) n1 (icells l)) := Lib.hid (by
      have h := World.ownsRow.alloc V1x.out (.cells #[.int .i64 z] 3 (0, 0))
      rw [hus] at h
      exact h)
    have HND : Hid (∀ j u, ([.int .i64 z] : List Value)[j]? = some u → (wn.alloc (.cells #[.int .i64 z] 3 (0, 0))).cell? ((⟨wn.heap.size, 0, none⟩ : Addr).add j) = some u) := Lib.hid (World.news_of_block (heap_alloc_new wn (.cells #[.int .i64 z] 3 (0, 0))))
    have hsn : w3.heap.size ≤ wn.heap.size := TU.out.size
    have HBS : Hid (k0 ≤ (wn.alloc (.cells #[.int .i64 z] 3 (0, 0))).heap.size) := Lib.hid (by rw [size_one']; have := BT.out.1; omega)
    have HUS := Lib.hid hus
    clear hus
    refine anyK_step (i := 5) (by kernel_rfl) rfl (by rfl) (fun K hK => ?_)
    refine wp_append_keeps _ _ _ _ (by rfl) (k0) 3 i0 (.int .i64 0) 1 8 Try.underlying27 ih iz0 iz1 iz2 rfl (by decide) (.slice a1 n1 c1) (n1) (icells l) (by rfl) HOW.out ⟨wn.heap.size, 0, none⟩ 1 1 [.int .i64 z] (by rfl) (by rfl) HND.out (fun u hu => by simp only [List.mem_singleton] at hu; subst hu; rfl) (by omega) (by unfold maxLen; omega) (by omega) HBS.out _ (by rfl) ?_
    intro g2 cap2 w9 hown hgr hat hlt9 _
    have BAX := Lib.hid (show ButA (fun b => (Value.slice a1 n1 c1).ownBlock = some b) wn w9 from (ButA.called ((Below.refl wn.heap.size wn).alloc (Nat.le_refl _) (.cells #[.int .i64 z] 3 (0, 0)))).trans (ButA.grown hgr (fun k hk => .inl hk)))
    have VN := Lib.hid (RowT.put (T := 3) hown (by rw [HUS.out]))
    have hs9 := BAX.out.1
    have hXn : wn.heap[X4]? = _ := (TU.out.block hXc (by omega)).trans VB1.out
    have hX9 := (BAX.out.2 X4 (V1x.out.apart hXn (by decide)) (by omega)).trans hXn
    have TN := Lib.hid ((TT.out.trans TU.out).alloc (.cells #[.int .i64 z] 3 (0, 0)) |>.grow hlt hgr fun k hk => by have := (V1x.out.lt k hk).1; omega)
    have BN := Lib.hid (show ButA (fun b => b = C ∨ b = X4) w w9 from ⟨by have := BT.out.1; omega, fun b h1 h2 => (BAX.out.2 b (fun e => by have := (V1x.out.lt b e).1; omega) (by have := BT.out.1; omega)).trans ((B1.out.2 b (fun h => h1 (.inl h)) (by have := BT.out.1; omega)).trans (BT.out.2 b h1 h2))⟩)
    have cc := boxC hX9 1 _ rfl
    have ff : w9.frozen? ⟨X4, 1, none⟩ = false := frozen_of_row _ _ _ _ _ hX9
    have KX := Lib.hid hX9

    refine hK _ _ (.inr cc) ?_
    try simp only [Act.put, List.setIfInBounds_toArray, List.set_cons_zero, List.set_cons_succ]
    clear hK
    refine anyK_take (i := 6) (v := ?_) rfl (by kernel_rfl) (by kernel_rfl) (by kernel_rfl) (fun _ _ _ h => h) (Or.inl ⟨by rfl, ?_⟩) cc ?_
    rotate_left
    · (intro wS hS; obtain sA := hS; go_simp; try with_reducible rfl)
    simp only [Act.put, List.setIfInBounds_toArray, List.set_cons_zero, List.set_cons_succ]
    refine anyK_step (i := 7) (by kernel_rfl) rfl (by rfl) (fun K hK => ?_)
    go_simp
    refine hK _ _ (.inl (last_of (by kernel_rfl))) ?_
    clear hK
    refine anyK_done (by kernel_rfl) ?_ _
    have hk9 : (w9.setCell ⟨X4, 1, none⟩ (.slice (some ⟨g2, 0, none⟩) (n1 + 1) cap2)).heap[X4]? = some (.cells #[.slice a0 n0 c0, .slice (some ⟨g2, 0, none⟩) (n1 + 1) cap2, .int .i64 ds, .slice a3 n3 c3, .slice a4 n1 c4, .slice a5 n3 c5] 30 (0, 0)) := by
      have := heap_setCell_same w9 X4 1 _ _ (.slice (some ⟨g2, 0, none⟩) (n1 + 1) cap2) KX.out
      simpa only [List.setIfInBounds_toArray, List.set_cons_zero, List.set_cons_succ] using this
    have BS := Lib.hid (ButA.stored (X := fun b => b = X4) (g := X4) rfl w9 1 (.slice (some ⟨g2, 0, none⟩) (n1 + 1) cap2))
    have VNz := Lib.hid (VN.out.but BS.out (fun k hk e => VN.out.apart KX.out (by decide) (e ▸ hk)))
    have BTz := Lib.hid (BN.out.trans (BS.out.weak fun b hb => .inr hb))
    have TTz := Lib.hid (TN.out.setCell hlt ⟨X4, 1, none⟩ (.slice (some ⟨g2, 0, none⟩) (n1 + 1) cap2) (by show w.heap.size ≤ X4; omega))
    have VBz := Lib.hid hk9
    have E := Lib.hid (((B1.out.weak (X' := (fun b => b = C ∨ b = X4 ∨ (Value.slice a1 n1 c1).ownBlock = some b)) (fun b h => .inl h)).trans (BAX.out.weak (fun b h => .inr (.inr h)))).trans (BS.out.weak (fun b h => .inr (.inl h))))
    clear hk9 BS KX cc ff hX9 hXn TN BN VN BAX hs9 hown hgr hat hlt9 HOW HND HBS HUS V1x B1 TU TA TD LATE hS0 hsn hXc 
    generalize w9.setCell ⟨X4, 1, none⟩ (.slice (some ⟨g2, 0, none⟩) (n1 + 1) cap2) = w5 at VBz VNz  BTz TTz E ⊢
    have FX : Hid (n1 + 1 ≤ cap2 ∧ cap2 ≤ 9223372036854775807 ∧ ListAt Shape.int (fun b => w.heap.size < b ∧ b < w5.heap.size) w5 (some ⟨g2, 0, none⟩) (n1 + 1) (l ++ [z])) := Lib.hid (by
      have hv := VNz.out
      rw [← icells_snoc] at hv
      obtain ⟨a', c', e', hc1, hc2, hl⟩ := hv.nums
      have hle : (l ++ [z]).length = n1 + 1 := by rw [List.length_append, HN1.out]; rfl
      rw [hle] at e' hc1 hl
      cases e'
      exact ⟨hc1, hc2, hl.sub fun b hb => by have := hv.lt b hb; have := II.out; exact ⟨by omega, by omega⟩⟩)
    have KX := VBz
    clear TT
    have TT := TTz
    have JO := J1
    have AP0 : Hid (∀ b, From wa.heap.size k0 b → ¬ (Value.slice a1 n1 c1).ownBlock = some b) := Lib.hid fun b hb e => by have := OO1.out b e; have := hb.2; omega
    have AP3 : Hid (∀ b, (Value.slice a3 n3 c3).ownBlock = some b → ¬ (Value.slice a1 n1 c1).ownBlock = some b) := Lib.hid fun b hb e => by have := OO1.out b e; have := OO3.out b hb; have := II.out; omega
    have AP4 : Hid (∀ b, (Value.slice a4 n1 c4).ownBlock = some b → ¬ (Value.slice a1 n1 c1).ownBlock = some b) := Lib.hid fun b hb e => by have := OO1.out b e; have := OO4.out b hb; have := II.out; omega
    have AP5 : Hid (∀ b, (Value.slice a5 n3 c5).ownBlock = some b → ¬ (Value.slice a1 n1 c1).ownBlock = some b) := Lib.hid fun b hb e => by have := OO1.out b e; have := OO5.out b hb; have := II.out; omega
    have APB : Hid (∀ b, From k1 k2 b → ¬ (Value.slice a1 n1 c1).ownBlock = some b) := Lib.hid fun b hb e => by have := OO1.out b e; have := hb.1; omega
    go_upto_region 20 with fail
    have hR5 := (E.out.2 w.heap.size (by rintro (h | h | h) <;> first | omega | (have hj := JO.out _ h; omega)) (by omega)).trans HR3.out
    obtain ⟨z0, z1, z2, z3, z4, z5⟩ := box6 KX.out
    obtain ⟨y0, y1, y2, y3, y4, y5⟩ := box6 hR5
    have f0 : w5.frozen? ⟨w.heap.size, 0, none⟩ = false := frozen_of_row _ _ _ _ _ hR5
    have f1 : w5.frozen? ⟨w.heap.size, 1, none⟩ = false := frozen_of_row _ _ _ _ _ hR5
    have f2 : w5.frozen? ⟨w.heap.size, 2, none⟩ = false := frozen_of_row _ _ _ _ _ hR5
    have f3 : w5.frozen? ⟨w.heap.size, 3, none⟩ = false := frozen_of_row _ _ _ _ _ hR5
    have f4 : w5.frozen? ⟨w.heap.size, 4, none⟩ = false := frozen_of_row _ _ _ _ _ hR5
    have f5 : w5.frozen? ⟨w.heap.size, 5, none⟩ = false := frozen_of_row _ _ _ _ _ hR5
    obtain ⟨s1, s2, s3⟩ := six_box hR5 (.slice a0 n0 c0) (.slice (some ⟨g2, 0, none⟩) (n1 + 1) cap2) (.int .i64 ds) (.slice a3 n3 c3) (.slice a4 n1 c4) (.slice a5 n3 c5)
    have S1 := Lib.hid s1
    have S2 := Lib.hid s2
    have S3 := Lib.hid s3
    have S4 := Lib.hid (six_turned (X := w.heap.size) TT.out (by omega) (Nat.le_refl _) (.slice a0 n0 c0) (.slice (some ⟨g2, 0, none⟩) (n1 + 1) cap2) (.int .i64 ds) (.slice a3 n3 c3) (.slice a4 n1 c4) (.slice a5 n3 c5))
    clear hR5 s1 s2 s3
    go_wp2_with fail
    refine bodyPost_ret (results_row_tmp rfl _ _ w.heap.size 30 #[.slice a0 n0 c0, .slice (some ⟨g2, 0, none⟩) (n1 + 1) cap2, .int .i64 ds, .slice a3 n3 c3, .slice a4 n1 c4, .slice a5 n3 c5] (0, 0) _ rfl ?_ Try.underlying30 rfl (by kernel_rfl)) rfl ?_
    · exact S1.out
    have hF : ButA (fun b => b = w.heap.size) w5 _ := ⟨Nat.le_of_eq S2.out.symm, fun b h1 _ => S3.out b h1⟩
    have hs5 := E.out.1
    have hs6 := S2.out
    have hcf : shConfig.reads (fun b => w.heap.size < b ∧ b < w5.heap.size) w5 [.slice a0 n0 c0, .slice (some ⟨g2, 0, none⟩) (n1 + 1) cap2, .int .i64 ds, .slice a3 n3 c3, .slice a4 n1 c4, .slice a5 n3 c5] (m, l ++ [z], ds, r, cp, lm) := conf_at ⟨F0.out.1, F0.out.2.1, (F0.out.2.2.keep fun b hb => E.out.2 b (by have hj := J0.out b hb; rintro (h | h | h) <;> first | omega | exact AP0.out b hb h) (by have := J0.out b hb; omega)).sub fun b hb => by have := J0.out b hb; exact ⟨by omega, by omega⟩⟩ (FX.out) ⟨F3.out.1, F3.out.2.1, (F3.out.2.2.keep fun b hb => E.out.2 b (by have hj := J3.out b hb; rintro (h | h | h) <;> first | omega | exact AP3.out b hb h) (by have := J3.out b hb; omega)).sub fun b hb => by have := J3.out b hb; exact ⟨by omega, by omega⟩⟩ ⟨F4.out.1, F4.out.2.1, (F4.out.2.2.keep fun b hb => E.out.2 b (by have hj := J4.out b hb; rintro (h | h | h) <;> first | omega | exact AP4.out b hb h) (by have := J4.out b hb; omega)).sub fun b hb => by have := J4.out b hb; exact ⟨by omega, by omega⟩⟩ ⟨F5.out.1, F5.out.2.1, (F5.out.2.2.keep fun b hb => E.out.2 b (by have hj := J5.out b hb; rintro (h | h | h) <;> first | omega | exact AP5.out b hb h) (by have := J5.out b hb; omega)).sub fun b hb => by have := J5.out b hb; exact ⟨by omega, by omega⟩⟩
    have hbt : ListAt shPair (fun b => w.heap.size < b ∧ b < w5.heap.size) w5 ab nb b := (FB.out.keep fun b hb => E.out.2 b (by have hj := JB.out b hb; rintro (h | h | h) <;> first | omega | exact APB.out b hb h) (by have := JB.out b hb; omega)).sub fun b hb => by have := JB.out b hb; exact ⟨by omega, by omega⟩
    exact ⟨[.slice a0 n0 c0, .slice (some ⟨g2, 0, none⟩) (n1 + 1) cap2, .int .i64 ds, .slice a3 n3 c3, .slice a4 n1 c4, .slice a5 n3 c5], _, ab, nb, cb, b, rfl, ⟨HBK.out m (l ++ [z]) ds r cp lm HSM.out LN.out.1 (by rw [List.length_append]; have := LN.out; simp; omega) LN.out.2.2.1 LN.out.2.2.2.1 LN.out.2.2.2.2, HBL.out, by have := HNB.out; omega, HCB.out.1, HCB.out.2, HSB.out⟩,
      shConfig.sub (shConfig.keep hcf fun b hb => hF.2 b (by have := hb.1; omega) hb.2) fun b hb => ⟨by have := hb.1; omega, by have := hb.2; omega⟩,
      (hbt.keep fun b hb => hF.2 b (by have := hb.1; omega) hb.2).sub fun b hb => ⟨by have := hb.1; omega, by have := hb.2; omega⟩, S4.out⟩
  · skip
    have hal : Below w3.heap.size w3 (w3.alloc (.cells #[.int .i64 0, .int .i64 3] 3 (0, 0))) := (Below.refl _ _).alloc (Nat.le_refl _) _
    have hLb := heap_alloc_new w3 (.cells #[.int .i64 0, .int .i64 3] 3 (0, 0))
    have hLs : (w3.alloc (.cells #[.int .i64 0, .int .i64 3] 3 (0, 0))).heap.size = w3.heap.size + 1 := by simp
    have HAL := Lib.hid hal
    have HLB := Lib.hid hLb
    clear hal hLb
    go_wp2_with fail
    generalize w3.alloc (.cells #[.int .i64 0, .int .i64 3] 3 (0, 0)) = w4 at HAL HLB hLs ⊢
    have T4 := Lib.hid (T3.out.then HAL.out)
    refine (l1PickInt_e B w4 C w3.heap.size 2 [0, 3] (fun x => x = 0 ∨ x = 3) rfl (by omega) (by omega) (fun x hx => by simp only [List.mem_cons, List.not_mem_nil, or_false] at hx; omega) T4.out.cu (by omega) (fun j hj => by
      rcases (show j = 0 ∨ j = 1 by omega) with rfl | rfl
      · exact boxC HLB.out 0 _ rfl
      · exact boxC HLB.out 1 _ rfl)).mono ?_
    rintro e w5 ⟨z, rfl, hz, ht⟩
    have hs5 := ht.size
    have KW := Lib.hid ((ht.block (by omega) (by omega)).trans ((HAL.out.block X4 hX3).trans BX3.out))
    have E5 := Lib.hid ((ButA.called (X := (fun b => b = C ∨ b = X4)) HAL.out).trans (ButA.turned (X := (fun b => b = C ∨ b = X4)) ht (.inl rfl)))
    have T5 := Lib.hid (T4.out.trans ht)
    clear ht
    have cc := boxC KW.out 2 _ rfl
    have ff : w5.frozen? ⟨X4, 2, none⟩ = false := frozen_of_row _ _ _ _ _ KW.out
    have hk9 : (w5.setCell ⟨X4, 2, none⟩ (.int .i64 z)).heap[X4]? = some (.cells #[.slice a0 n0 c0, .slice a1 n1 c1, .int .i64 z, .slice a3 n3 c3, .slice a4 n1 c4, .slice a5 n3 c5] 30 (0, 0)) := by
      have := heap_setCell_same w5 X4 2 _ _ (.int .i64 z) KW.out
      simpa only [List.setIfInBounds_toArray, List.set_cons_zero, List.set_cons_succ] using this
    have KX := Lib.hid hk9
    have E := Lib.hid (E5.out.trans (ButA.stored (X := (fun b => b = C ∨ b = X4)) (g := X4) (.inr rfl) w5 2 (.int .i64 z)))
    have TT := Lib.hid (T5.out.setCell hlt ⟨X4, 2, none⟩ (.int .i64 z) (by show w.heap.size ≤ X4; omega))
    clear hk9
    go_upto_region 20 with fail
    clear cc ff
    generalize w5.setCell ⟨X4, 2, none⟩ (.int .i64 z) = w6 at KX E TT ⊢
    have hR5 := (E.out.2 w.heap.size (by rintro (h | h) <;> first | omega | (have hj := JO.out _ h; omega)) (by omega)).trans HR3.out
    obtain ⟨z0, z1, z2, z3, z4, z5⟩ := box6 KX.out
    obtain ⟨y0, y1, y2, y3, y4, y5⟩ := box6 hR5
    have f0 : w6.frozen? ⟨w.heap.size, 0, none⟩ = false := frozen_of_row _ _ _ _ _ hR5
    have f1 : w6.frozen? ⟨w.heap.size, 1, none⟩ = false := frozen_of_row _ _ _ _ _ hR5
    have f2 : w6.frozen? ⟨w.heap.size, 2, none⟩ = false := frozen_of_row _ _ _ _ _ hR5
    have f3 : w6.frozen? ⟨w.heap.size, 3, none⟩ = false := frozen_of_row _ _ _ _ _ hR5
    have f4 : w6.frozen? ⟨w.heap.size, 4, none⟩ = false := frozen_of_row _ _ _ _ _ hR5
    have f5 : w6.frozen? ⟨w.heap.size, 5, none⟩ = false := frozen_of_row _ _ _ _ _ hR5
    obtain ⟨s1, s2, s3⟩ := six_box hR5 (.slice a0 n0 c0) (.slice a1 n1 c1) (.int .i64 z) (.slice a3 n3 c3) (.slice a4 n1 c4) (.slice a5 n3 c5)
    have S1 := Lib.hid s1
    have S2 := Lib.hid s2
    have S3 := Lib.hid s3
    have S4 := Lib.hid (six_turned (X := w.heap.size) TT.out (by omega) (Nat.le_refl _) (.slice a0 n0 c0) (.slice a1 n1 c1) (.int .i64 z) (.slice a3 n3 c3) (.slice a4 n1 c4) (.slice a5 n3 c5))
    clear hR5 s1 s2 s3
    go_wp2_with fail
    refine bodyPost_ret (results_row_tmp rfl _ _ w.heap.size 30 #[.slice a0 n0 c0, .slice a1 n1 c1, .int .i64 z, .slice a3 n3 c3, .slice a4 n1 c4, .slice a5 n3 c5] (0, 0) _ rfl ?_ Try.underlying30 rfl (by kernel_rfl)) rfl ?_
    · exact S1.out
    have hF : ButA (fun b => b = w.heap.size) w6 _ := ⟨Nat.le_of_eq S2.out.symm, fun b h1 _ => S3.out b h1⟩
    have hs5 := E.out.1
    have hs6 := S2.out
    have hcf : shConfig.reads (fun b => w.heap.size < b ∧ b < w6.heap.size) w6 [.slice a0 n0 c0, .slice a1 n1 c1, .int .i64 z, .slice a3 n3 c3, .slice a4 n1 c4, .slice a5 n3 c5] (m, l, z, r, cp, lm) := conf_at ⟨F0.out.1, F0.out.2.1, (F0.out.2.2.keep fun b hb => E.out.2 b (by have hj := J0.out b hb; rintro (h | h) <;> first | omega | exact AP0.out b hb h) (by have := J0.out b hb; omega)).sub fun b hb => by have := J0.out b hb; exact ⟨by omega, by omega⟩⟩ ⟨F1.out.1, F1.out.2.1, (F1.out.2.2.keep fun b hb => E.out.2 b (by have hj := J1.out b hb; rintro (h | h) <;> first | omega | exact AP1.out b hb h) (by have := J1.out b hb; omega)).sub fun b hb => by have := J1.out b hb; exact ⟨by omega, by omega⟩⟩ ⟨F3.out.1, F3.out.2.1, (F3.out.2.2.keep fun b hb => E.out.2 b (by have hj := J3.out b hb; rintro (h | h) <;> first | omega | exact AP3.out b hb h) (by have := J3.out b hb; omega)).sub fun b hb => by have := J3.out b hb; exact ⟨by omega, by omega⟩⟩ ⟨F4.out.1, F4.out.2.1, (F4.out.2.2.keep fun b hb => E.out.2 b (by have hj := J4.out b hb; rintro (h | h) <;> first | omega | exact AP4.out b hb h) (by have := J4.out b hb; omega)).sub fun b hb => by have := J4.out b hb; exact ⟨by omega, by omega⟩⟩ ⟨F5.out.1, F5.out.2.1, (F5.out.2.2.keep fun b hb => E.out.2 b (by have hj := J5.out b hb; rintro (h | h) <;> first | omega | exact AP5.out b hb h) (by have := J5.out b hb; omega)).sub fun b hb => by have := J5.out b hb; exact ⟨by omega, by omega⟩⟩
    have hbt : ListAt shPair (fun b => w.heap.size < b ∧ b < w6.heap.size) w6 ab nb b := (FB.out.keep fun b hb => E.out.2 b (by have hj := JB.out b hb; rintro (h | h) <;> first | omega | exact APB.out b hb h) (by have := JB.out b hb; omega)).sub fun b hb => by have := JB.out b hb; exact ⟨by omega, by omega⟩
    exact ⟨[.slice a0 n0 c0, .slice a1 n1 c1, .int .i64 z, .slice a3 n3 c3, .slice a4 n1 c4, .slice a5 n3 c5], _, ab, nb, cb, b, rfl, ⟨HBK.out m l z r cp lm HSM.out LN.out.1 (by have := LN.out; omega) LN.out.2.2.1 LN.out.2.2.2.1 LN.out.2.2.2.2, HBL.out, by have := HNB.out; omega, HCB.out.1, HCB.out.2, HSB.out⟩,
      shConfig.sub (shConfig.keep hcf fun b hb => hF.2 b (by have := hb.1; omega) hb.2) fun b hb => ⟨by have := hb.1; omega, by have := hb.2; omega⟩,
      (hbt.keep fun b hb => hF.2 b (by have := hb.1; omega) hb.2).sub fun b hb => ⟨by have := hb.1; omega, by have := hb.2; omega⟩, S4.out⟩
  · skip
    have KW := BX3
    have E3 := Lib.hid (ButA.refl (fun b => b = C ∨ b = X4) w3)
    obtain ⟨z0, z1, z2, z3, z4, z5⟩ := box6 BX3.out
    have hw1 : wrap64 ((n3 : Int) - 1) = (n1 : Int) := by rw [IntWalk.wrap64_in _ (by omega)]; omega
    have hw2 : IntKind.i64.wrap ((n3 : Int) - 1) = (n1 : Int) := by rw [IntKind.wrap_i64]; omega
    have hc3 : n3 ≤ c3 := PQ.out.2.2.1.1
    have F3r : Hid (n1 ≤ c3 ∧ c3 ≤ 9223372036854775807 ∧ ListAt Shape.bool (fun b => (Value.slice a3 n3 c3).ownBlock = some b) w3 a3 n1 (r.take n1)) := Lib.hid ⟨by omega, F3.out.2.1, by rw [List.length_take, F3.out.2.2.1]; omega, fun j x hx => F3.out.2.2.2 j x (by rw [List.getElem?_take] at hx; split at hx; exact hx; cases hx)⟩
    have cc := boxC KW.out 3 _ rfl
    have ff : w3.frozen? ⟨X4, 3, none⟩ = false := frozen_of_row _ _ _ _ _ KW.out
    have hk9 : (w3.setCell ⟨X4, 3, none⟩ (.slice a3 n1 c3)).heap[X4]? = some (.cells #[.slice a0 n0 c0, .slice a1 n1 c1, .int .i64 ds, .slice a3 n1 c3, .slice a4 n1 c4, .slice a5 n3 c5] 30 (0, 0)) := by
      have := heap_setCell_same w3 X4 3 _ _ (.slice a3 n1 c3) KW.out
      simpa only [List.setIfInBounds_toArray, List.set_cons_zero, List.set_cons_succ] using this
    have KX := Lib.hid hk9
    have E := Lib.hid (E3.out.trans (ButA.stored (X := (fun b => b = C ∨ b = X4)) (g := X4) (.inr rfl) w3 3 (.slice a3 n1 c3)))
    have TT := Lib.hid (T3.out.setCell hlt ⟨X4, 3, none⟩ (.slice a3 n1 c3) (by show w.heap.size ≤ X4; omega))
    clear hk9
    go_upto_region 20 with fail
    clear cc ff
    generalize w3.setCell ⟨X4, 3, none⟩ (.slice a3 n1 c3) = w4 at KX E TT ⊢
    have hR5 := (E.out.2 w.heap.size (by rintro (h | h) <;> first | omega | (have hj := JO.out _ h; omega)) (by omega)).trans HR3.out
    obtain ⟨z0, z1, z2, z3, z4, z5⟩ := box6 KX.out
    obtain ⟨y0, y1, y2, y3, y4, y5⟩ := box6 hR5
    have f0 : w4.frozen? ⟨w.heap.size, 0, none⟩ = false := frozen_of_row _ _ _ _ _ hR5
    have f1 : w4.frozen? ⟨w.heap.size, 1, none⟩ = false := frozen_of_row _ _ _ _ _ hR5
    have f2 : w4.frozen? ⟨w.heap.size, 2, none⟩ = false := frozen_of_row _ _ _ _ _ hR5
    have f3 : w4.frozen? ⟨w.heap.size, 3, none⟩ = false := frozen_of_row _ _ _ _ _ hR5
    have f4 : w4.frozen? ⟨w.heap.size, 4, none⟩ = false := frozen_of_row _ _ _ _ _ hR5
    have f5 : w4.frozen? ⟨w.heap.size, 5, none⟩ = false := frozen_of_row _ _ _ _ _ hR5
    obtain ⟨s1, s2, s3⟩ := six_box hR5 (.slice a0 n0 c0) (.slice a1 n1 c1) (.int .i64 ds) (.slice a3 n1 c3) (.slice a4 n1 c4) (.slice a5 n3 c5)
    have S1 := Lib.hid s1
    have S2 := Lib.hid s2
    have S3 := Lib.hid s3
    have S4 := Lib.hid (six_turned (X := w.heap.size) TT.out (by omega) (Nat.le_refl _) (.slice a0 n0 c0) (.slice a1 n1 c1) (.int .i64 ds) (.slice a3 n1 c3) (.slice a4 n1 c4) (.slice a5 n3 c5))
    clear hR5 s1 s2 s3
    go_wp2_with fail
    refine bodyPost_ret (results_row_tmp rfl _ _ w.heap.size 30 #[.slice a0 n0 c0, .slice a1 n1 c1, .int .i64 ds, .slice a3 n1 c3, .slice a4 n1 c4, .slice a5 n3 c5] (0, 0) _ rfl ?_ Try.underlying30 rfl (by kernel_rfl)) rfl ?_
    · exact S1.out
    have hF : ButA (fun b => b = w.heap.size) w4 _ := ⟨Nat.le_of_eq S2.out.symm, fun b h1 _ => S3.out b h1⟩
    have hs5 := E.out.1
    have hs6 := S2.out
    have hcf : shConfig.reads (fun b => w.heap.size < b ∧ b < w4.heap.size) w4 [.slice a0 n0 c0, .slice a1 n1 c1, .int .i64 ds, .slice a3 n1 c3, .slice a4 n1 c4, .slice a5 n3 c5] (m, l, ds, r.take n1, cp, lm) := conf_at ⟨F0.out.1, F0.out.2.1, (F0.out.2.2.keep fun b hb => E.out.2 b (by have hj := J0.out b hb; rintro (h | h) <;> first | omega | exact AP0.out b hb h) (by have := J0.out b hb; omega)).sub fun b hb => by have := J0.out b hb; exact ⟨by omega, by omega⟩⟩ ⟨F1.out.1, F1.out.2.1, (F1.out.2.2.keep fun b hb => E.out.2 b (by have hj := J1.out b hb; rintro (h | h) <;> first | omega | exact AP1.out b hb h) (by have := J1.out b hb; omega)).sub fun b hb => by have := J1.out b hb; exact ⟨by omega, by omega⟩⟩ (⟨F3r.out.1, F3r.out.2.1, (F3r.out.2.2.keep fun b hb => E.out.2 b (by have hj := J3.out b hb; rintro (h | h) <;> omega) (by have := J3.out b hb; omega)).sub fun b hb => by have := J3.out b hb; exact ⟨by omega, by omega⟩⟩) ⟨F4.out.1, F4.out.2.1, (F4.out.2.2.keep fun b hb => E.out.2 b (by have hj := J4.out b hb; rintro (h | h) <;> first | omega | exact AP4.out b hb h) (by have := J4.out b hb; omega)).sub fun b hb => by have := J4.out b hb; exact ⟨by omega, by omega⟩⟩ ⟨F5.out.1, F5.out.2.1, (F5.out.2.2.keep fun b hb => E.out.2 b (by have hj := J5.out b hb; rintro (h | h) <;> first | omega | exact AP5.out b hb h) (by have := J5.out b hb; omega)).sub fun b hb => by have := J5.out b hb; exact ⟨by omega, by omega⟩⟩
    have hbt : ListAt shPair (fun b => w.heap.size < b ∧ b < w4.heap.size) w4 ab nb b := (FB.out.keep fun b hb => E.out.2 b (by have hj := JB.out b hb; rintro (h | h) <;> first | omega | exact APB.out b hb h) (by have := JB.out b hb; omega)).sub fun b hb => by have := JB.out b hb; exact ⟨by omega, by omega⟩
    exact ⟨[.slice a0 n0 c0, .slice a1 n1 c1, .int .i64 ds, .slice a3 n1 c3, .slice a4 n1 c4, .slice a5 n3 c5], _, ab, nb, cb, b, rfl, ⟨HBK.out m l ds (r.take n1) cp lm HSM.out LN.out.1 (by have := LN.out; omega) (by rw [List.length_take]; omega) LN.out.2.2.2.1 LN.out.2.2.2.2, HBL.out, by have := HNB.out; omega, HCB.out.1, HCB.out.2, HSB.out⟩,
      shConfig.sub (shConfig.keep hcf fun b hb => hF.2 b (by have := hb.1; omega) hb.2) fun b hb => ⟨by have := hb.1; omega, by have := hb.2; omega⟩,
      (hbt.keep fun b hb => hF.2 b (by have := hb.1; omega) hb.2).sub fun b hb => ⟨by have := hb.1; omega, by have := hb.2; omega⟩, S4.out⟩
  · skip
    obtain ⟨z0, z1, z2, z3, z4, z5⟩ := box6 BX3.out
    by_cases hn0 : 0 < n1
    · have hg0 : decide ((n1 : Int) > 0) = true := decide_eq_true (by omega)
      go_wp2_with fail
      clear z0 z1 z2 z3 z4 z5
      obtain ⟨g, rfl⟩ : ∃ g, a4 = some ⟨g, 0, none⟩ := by
        rcases V4.out.2 with ⟨e, -⟩ | ⟨g, cap, cur, e, -⟩
        · have := (Value.slice.inj e).2.1
          omega
        · exact ⟨g, (Value.slice.inj e).1⟩
      have hlc : cp.length = n1 := HCL.out
      have hS : Turned B w3 w3.drew C := (Turned.refl T3.out.cu).then ((Below.refl _ _).drew)
      have TD := Lib.hid hS
      have HV := Lib.hid (show w3.ownsRow k2 3 1 (.slice (some ⟨g, 0, none⟩) n1 c4) n1 (icells cp) by have h := V4.out; unfold RowT at h; rw [icells_len, HCL.out] at h; exact h)
      have hcell0 := HV.out.cellAt 0 (by omega)
      obtain ⟨X0, xr, hxs⟩ : ∃ x y, cp = x :: y := by
        cases hq : cp with
        | nil => have := congrArg List.length hq; simp only [List.length_nil] at this; omega
        | cons x y => exact ⟨x, y, rfl⟩
      have hc00 : w3.cell? ⟨g, 0, none⟩ = some (.int .i64 X0) := by rw [hcell0, hxs]; rfl
      have hgl := HV.out.lt g rfl
      have hgX : g < X4 := by have := J4.out g rfl; omega
      have hgw : wa.heap.size ≤ g := (J4.out g rfl).1
      have LATE := Lib.hid fun (wx : World) (hx : Turned B w3 wx C) => (show wx.cell? ⟨X4, 4, none⟩ = some (.slice (some ⟨g, 0, none⟩) n1 c4) ∧ wx.cell? ⟨g, 0, none⟩ = some (.int .i64 X0) from ⟨boxC ((hx.block hX3 (by omega)).trans BX3.out) 4 _ rfl, (World.cell?_of_block (a := ⟨g, 0, none⟩) (hx.block (k := g) (by omega) (by omega))).trans hc00⟩)
      have hS0 := LATE.out w3.drew hS
      clear hS hcell0
      go_upto_region 13 with fail
      refine wp_region_K (S := fun w' => w'.cell? ⟨X4, 4, none⟩ = some (.slice (some ⟨g, 0, none⟩) n1 c4) ∧ w'.cell? ⟨g, 0, none⟩ = some (.int .i64 X0)) (by kernel_rfl) ?_
      show AnyK _ _ _ _ _ _ _ _ w3.drew
      generalize w3.drew = wd at hS0 TD ⊢
      refine anyK_take (i := 0) (v := ?_) rfl (by kernel_rfl) (by kernel_rfl) (by kernel_rfl) (fun _ _ _ h => h) (Or.inl ⟨by rfl, ?_⟩) hS0 ?_
      rotate_left
      · (intro wS hS; obtain ⟨sA, sB⟩ := hS; go_simp; try with_reducible rfl)
      simp only [Act.put, List.setIfInBounds_toArray, List.set_cons_zero, List.set_cons_succ]
      refine anyK_take (i := 1) (v := ?_) rfl (by kernel_rfl) (by kernel_rfl) (by kernel_rfl) (fun _ _ _ h => h) (Or.inl ⟨by rfl, ?_⟩) hS0 ?_
      rotate_left
      · (intro wS hS; obtain ⟨sA, sB⟩ := hS; go_simp; try with_reducible rfl)
      simp only [Act.put, List.setIfInBounds_toArray, List.set_cons_zero, List.set_cons_succ]
      refine anyK_take (i := 2) (v := ?_) rfl (by kernel_rfl) (by kernel_rfl) (by kernel_rfl) (fun _ _ _ h => h) (Or.inl ⟨by rfl, ?_⟩) hS0 ?_
      rotate_left
      · (intro wS hS; obtain ⟨sA, sB⟩ := hS; go_simp; try with_reducible rfl)
      simp only [Act.put, List.setIfInBounds_toArray, List.set_cons_zero, List.set_cons_succ]
      refine anyK_step (i := 3) (by kernel_rfl) rfl (by rfl) (fun K hK => ?_)
      go_simp
      have TA := Lib.hid (TD.out.alloc (.cells #[.int .i64 (0), .int .i64 (5), .int .i64 (6)] 3 (0, 0)))
      have HL := Lib.hid (heap_alloc_new wd (.cells #[.int .i64 (0), .int .i64 (5), .int .i64 (6)] 3 (0, 0)))
      have hsL : (wd.alloc (.cells #[.int .i64 (0), .int .i64 (5), .int .i64 (6)] 3 (0, 0))).heap.size = wd.heap.size + 1 := by simp
      have hdl := TD.out.size
      refine hK _ _ (.inr (LATE.out _ TA.out)) ?_
      try simp only [Act.put, List.setIfInBounds_toArray, List.set_cons_zero, List.set_cons_succ]
      clear hK
      generalize wd.alloc (.cells #[.int .i64 (0), .int .i64 (5), .int .i64 (6)] 3 (0, 0)) = wp at TA HL hsL ⊢
      refine anyK_step (i := 4) (by kernel_rfl) rfl (by rfl) (fun K hK => ?_)
      go_simp
      go_at_call 62
      refine (l1PickInt_e B wp C wd.heap.size 3 [0, 5, 6] (fun _ => True) rfl (by omega) (by omega) (fun _ _ => trivial) TA.out.cu (by omega) (fun j hj => by
        rcases (show j = 0 ∨ j = 1 ∨ j = 2 by omega) with rfl | rfl | rfl
        · exact boxC HL.out 0 _ rfl
        · exact boxC HL.out 1 _ rfl
        · exact boxC HL.out 2 _ rfl)).mono ?_
      rintro e wn ⟨z, rfl, -, ht⟩
      have TN := Lib.hid (TA.out.trans ht)
      clear ht
      refine hK _ _ (.inr (LATE.out _ TN.out)) ?_
      try simp only [Act.put, List.setIfInBounds_toArray, List.set_cons_zero, List.set_cons_succ]
      clear hK
      have B1 := Lib.hid (ButA.turned (X := fun b => b = C) TN.out rfl)
      have V1x := Lib.hid (show wn.ownsRow (k2) 3 1 (.slice (some ⟨g, 0, none⟩) n1 c4) n1 (icells cp) by
        have h := V4.out.but B1.out (fun k hk => by have := J4.out k hk; show ¬ k = C; omega)
        unfold RowT at h
        rw [icells_len, HCL.out] at h
        exact h)
      have cc := (LATE.out _ TN.out).2
      have ff : wn.frozen? ⟨g, 0, none⟩ = false := V1x.out.frozenAt 0
      obtain ⟨hst, -⟩ := World.ownsRow.stored V1x.out 0 (.int .i64 z)
      refine anyK_take (i := 5) (v := ?_) rfl (by kernel_rfl) (by kernel_rfl) (by kernel_rfl) (fun _ _ _ h => h) (Or.inl ⟨by rfl, ?_⟩) (LATE.out _ TN.out) ?_
      rotate_left
      · (intro wS hS; obtain ⟨sA, sB⟩ := hS; go_simp; try with_reducible rfl)
      simp only [Act.put, List.setIfInBounds_toArray, List.set_cons_zero, List.set_cons_succ]
      refine anyK_step (i := 6) (by kernel_rfl) rfl (by rfl) (fun K hK => ?_)
      go_simp
      refine hK _ _ (.inl (last_of (by kernel_rfl))) ?_
      clear hK
      refine anyK_done (by kernel_rfl) ?_ _
      have E := Lib.hid ((B1.out.weak (X' := (fun b => b = C ∨ b = X4 ∨ (Value.slice (some ⟨g, 0, none⟩) n1 c4).ownBlock = some b)) (fun b h => .inl h)).trans (ButA.stored (g := g) (.inr (.inr rfl)) wn 0 (.int .i64 z)))
      have TT := Lib.hid ((T3.out.trans TN.out).setCell hlt ⟨g, 0, none⟩ (.int .i64 z) (by have := J4.out g rfl; show w.heap.size ≤ g; omega))
      have KX := Lib.hid ((heap_setCell_other wn ⟨g, 0, none⟩ X4 (.int .i64 z) (by show X4 ≠ g; omega)).trans ((TN.out.block hX3 (by omega)).trans BX3.out))
      have HST := Lib.hid hst
      have hswn := TN.out.size
      have hsz' : (wn.setCell ⟨g, 0, none⟩ (.int .i64 z)).heap.size = wn.heap.size := by simp
      clear cc ff hst V1x B1 LATE hS0 hc00
      generalize wn.setCell ⟨g, 0, none⟩ (.int .i64 z) = w5 at E TT KX HST hsz' ⊢
      have hset : (icells cp).set 0 (.int .i64 z) = icells (z :: xr) := by rw [hxs]; rfl
      have hlx : (z :: xr).length = n1 := by
        have h1 : (X0 :: xr).length = n1 := by rw [← hxs]; exact HCL.out
        simpa using h1
      have FX : Hid (n1 ≤ c4 ∧ c4 ≤ 9223372036854775807 ∧ ListAt Shape.int (fun b => w.heap.size < b ∧ b < w5.heap.size) w5 (some ⟨g, 0, none⟩) n1 (z :: xr)) := Lib.hid (by
        have hv := HST.out
        rw [hset] at hv
        have hv' : RowT 3 (k2) w5 (.slice (some ⟨g, 0, none⟩) n1 c4) (icells (z :: xr)) := by
          unfold RowT
          rw [icells_len, hlx]
          exact hv
        obtain ⟨a', c', e', hc1, hc2, hl⟩ := hv'.nums
        rw [hlx] at e' hc1 hl
        cases e'
        exact ⟨hc1, hc2, hl.sub fun b hb => by have := hv'.lt b hb; have := II.out; exact ⟨by omega, by omega⟩⟩)
      have JO := J4
      have AP0 : Hid (∀ b, From wa.heap.size k0 b → ¬ (Value.slice (some ⟨g, 0, none⟩) n1 c4).ownBlock = some b) := Lib.hid fun b hb e => by have := OO4.out b e; have := hb.2; have := II.out; omega
      have AP1 : Hid (∀ b, (Value.slice a1 n1 c1).ownBlock = some b → ¬ (Value.slice (some ⟨g, 0, none⟩) n1 c4).ownBlock = some b) := Lib.hid fun b hb e => by have := OO4.out b e; have := OO1.out b hb; have := II.out; omega
      have AP3 : Hid (∀ b, (Value.slice a3 n3 c3).ownBlock = some b → ¬ (Value.slice (some ⟨g, 0, none⟩) n1 c4).ownBlock = some b) := O34
      have AP5 : Hid (∀ b, (Value.slice a5 n3 c5).ownBlock = some b → ¬ (Value.slice (some ⟨g, 0, none⟩) n1 c4).ownBlock = some b) := Lib.hid fun b hb e => by have := OO4.out b e; have := OO5.out b hb; have := II.out; omega
      have APB : Hid (∀ b, From k1 k2 b → ¬ (Value.slice (some ⟨g, 0, none⟩) n1 c4).ownBlock = some b) := Lib.hid fun b hb e => by have := OO4.out b e; have := hb.2; have := II.out; omega
      go_upto_region 20 with fail
      have hR5 := (E.out.2 w.heap.size (by rintro (h | h | h) <;> first | omega | (have hj := JO.out _ h; omega)) (by omega)).trans HR3.out
      obtain ⟨z0, z1, z2, z3, z4, z5⟩ := box6 KX.out
      obtain ⟨y0, y1, y2, y3, y4, y5⟩ := box6 hR5
      have f0 : w5.frozen? ⟨w.heap.size, 0, none⟩ = false := frozen_of_row _ _ _ _ _ hR5
      have f1 : w5.frozen? ⟨w.heap.size, 1, none⟩ = false := frozen_of_row _ _ _ _ _ hR5
      have f2 : w5.frozen? ⟨w.heap.size, 2, none⟩ = false := frozen_of_row _ _ _ _ _ hR5
      have f3 : w5.frozen? ⟨w.heap.size, 3, none⟩ = false := frozen_of_row _ _ _ _ _ hR5
      have f4 : w5.frozen? ⟨w.heap.size, 4, none⟩ = false := frozen_of_row _ _ _ _ _ hR5
      have f5 : w5.frozen? ⟨w.heap.size, 5, none⟩ = false := frozen_of_row _ _ _ _ _ hR5
      obtain ⟨s1, s2, s3⟩ := six_box hR5 (.slice a0 n0 c0) (.slice a1 n1 c1) (.int .i64 ds) (.slice a3 n3 c3) (.slice (some ⟨g, 0, none⟩) n1 c4) (.slice a5 n3 c5)
      have S1 := Lib.hid s1
      have S2 := Lib.hid s2
      have S3 := Lib.hid s3
      have S4 := Lib.hid (six_turned (X := w.heap.size) TT.out (by omega) (Nat.le_refl _) (.slice a0 n0 c0) (.slice a1 n1 c1) (.int .i64 ds) (.slice a3 n3 c3) (.slice (some ⟨g, 0, none⟩) n1 c4) (.slice a5 n3 c5))
      clear hR5 s1 s2 s3
      go_wp2_with fail
      refine bodyPost_ret (results_row_tmp rfl _ _ w.heap.size 30 #[.slice a0 n0 c0, .slice a1 n1 c1, .int .i64 ds, .slice a3 n3 c3, .slice (some ⟨g, 0, none⟩) n1 c4, .slice a5 n3 c5] (0, 0) _ rfl ?_ Try.underlying30 rfl (by kernel_rfl)) rfl ?_
      · exact S1.out
      have hF : ButA (fun b => b = w.heap.size) w5 _ := ⟨Nat.le_of_eq S2.out.symm, fun b h1 _ => S3.out b h1⟩
      have hs5 := E.out.1
      have hs6 := S2.out
      have hcf : shConfig.reads (fun b => w.heap.size < b ∧ b < w5.heap.size) w5 [.slice a0 n0 c0, .slice a1 n1 c1, .int .i64 ds, .slice a3 n3 c3, .slice (some ⟨g, 0, none⟩) n1 c4, .slice a5 n3 c5] (m, l, ds, r, z :: xr, lm) := conf_at ⟨F0.out.1, F0.out.2.1, (F0.out.2.2.keep fun b hb => E.out.2 b (by have hj := J0.out b hb; rintro (h | h | h) <;> first | omega | exact AP0.out b hb h) (by have := J0.out b hb; omega)).sub fun b hb => by have := J0.out b hb; exact ⟨by omega, by omega⟩⟩ ⟨F1.out.1, F1.out.2.1, (F1.out.2.2.keep fun b hb => E.out.2 b (by have hj := J1.out b hb; rintro (h | h | h) <;> first | omega | exact AP1.out b hb h) (by have := J1.out b hb; omega)).sub fun b hb => by have := J1.out b hb; exact ⟨by omega, by omega⟩⟩ ⟨F3.out.1, F3.out.2.1, (F3.out.2.2.keep fun b hb => E.out.2 b (by have hj := J3.out b hb; rintro (h | h | h) <;> first | omega | exact AP3.out b hb h) (by have := J3.out b hb; omega)).sub fun b hb => by have := J3.out b hb; exact ⟨by omega, by omega⟩⟩ (FX.out) ⟨F5.out.1, F5.out.2.1, (F5.out.2.2.keep fun b hb => E.out.2 b (by have hj := J5.out b hb; rintro (h | h | h) <;> first | omega | exact AP5.out b hb h) (by have := J5.out b hb; omega)).sub fun b hb => by have := J5.out b hb; exact ⟨by omega, by omega⟩⟩
      have hbt : ListAt shPair (fun b => w.heap.size < b ∧ b < w5.heap.size) w5 ab nb b := (FB.out.keep fun b hb => E.out.2 b (by have hj := JB.out b hb; rintro (h | h | h) <;> first | omega | exact APB.out b hb h) (by have := JB.out b hb; omega)).sub fun b hb => by have := JB.out b hb; exact ⟨by omega, by omega⟩
      exact ⟨[.slice a0 n0 c0, .slice a1 n1 c1, .int .i64 ds, .slice a3 n3 c3, .slice (some ⟨g, 0, none⟩) n1 c4, .slice a5 n3 c5], _, ab, nb, cb, b, rfl, ⟨HBK.out m l ds r (z :: xr) lm HSM.out LN.out.1 (by have := LN.out; omega) LN.out.2.2.1 (by rw [hlx]; omega) LN.out.2.2.2.2, HBL.out, by have := HNB.out; omega, HCB.out.1, HCB.out.2, HSB.out⟩,
        shConfig.sub (shConfig.keep hcf fun b hb => hF.2 b (by have := hb.1; omega) hb.2) fun b hb => ⟨by have := hb.1; omega, by have := hb.2; omega⟩,
        (hbt.keep fun b hb => hF.2 b (by have := hb.1; omega) hb.2).sub fun b hb => ⟨by have := hb.1; omega, by have := hb.2; omega⟩, S4.out⟩
    · have hg0 : decide ((n1 : Int) > 0) = false := decide_eq_false (by omega)
      have KX := BX3
      have E := Lib.hid (ButA.refl (fun b => b = C ∨ b = X4) w3)
      have TT := T3
      go_upto_region 20 with fail
      clear z0 z1 z2 z3 z4 z5
      have hR5 := (E.out.2 w.heap.size (by rintro (h | h) <;> first | omega | (have hj := JO.out _ h; omega)) (by omega)).trans HR3.out
      obtain ⟨z0, z1, z2, z3, z4, z5⟩ := box6 KX.out
      obtain ⟨y0, y1, y2, y3, y4, y5⟩ := box6 hR5
      have f0 : w3.frozen? ⟨w.heap.size, 0, none⟩ = false := frozen_of_row _ _ _ _ _ hR5
      have f1 : w3.frozen? ⟨w.heap.size, 1, none⟩ = false := frozen_of_row _ _ _ _ _ hR5
      have f2 : w3.frozen? ⟨w.heap.size, 2, none⟩ = false := frozen_of_row _ _ _ _ _ hR5
      have f3 : w3.frozen? ⟨w.heap.size, 3, none⟩ = false := frozen_of_row _ _ _ _ _ hR5
      have f4 : w3.frozen? ⟨w.heap.size, 4, none⟩ = false := frozen_of_row _ _ _ _ _ hR5
      have f5 : w3.frozen? ⟨w.heap.size, 5, none⟩ = false := frozen_of_row _ _ _ _ _ hR5
      obtain ⟨s1, s2, s3⟩ := six_box hR5 (.slice a0 n0 c0) (.slice a1 n1 c1) (.int .i64 ds) (.slice a3 n3 c3) (.slice a4 n1 c4) (.slice a5 n3 c5)
      have S1 := Lib.hid s1
      have S2 := Lib.hid s2
      have S3 := Lib.hid s3
      have S4 := Lib.hid (six_turned (X := w.heap.size) TT.out (by omega) (Nat.le_refl _) (.slice a0 n0 c0) (.slice a1 n1 c1) (.int .i64 ds) (.slice a3 n3 c3) (.slice a4 n1 c4) (.slice a5 n3 c5))
      clear hR5 s1 s2 s3
      go_wp2_with fail
      refine bodyPost_ret (results_row_tmp rfl _ _ w.heap.size 30 #[.slice a0 n0 c0, .slice a1 n1 c1, .int .i64 ds, .slice a3 n3 c3, .slice a4 n1 c4, .slice a5 n3 c5] (0, 0) _ rfl ?_ Try.underlying30 rfl (by kernel_rfl)) rfl ?_
      · exact S1.out
      have hF : ButA (fun b => b = w.heap.size) w3 _ := ⟨Nat.le_of_eq S2.out.symm, fun b h1 _ => S3.out b h1⟩
      have hs5 := E.out.1
      have hs6 := S2.out
      have hcf : shConfig.reads (fun b => w.heap.size < b ∧ b < w3.heap.size) w3 [.slice a0 n0 c0, .slice a1 n1 c1, .int .i64 ds, .slice a3 n3 c3, .slice a4 n1 c4, .slice a5 n3 c5] (m, l, ds, r, cp, lm) := conf_at ⟨F0.out.1, F0.out.2.1, (F0.out.2.2.keep fun b hb => E.out.2 b (by have hj := J0.out b hb; rintro (h | h) <;> first | omega | exact AP0.out b hb h) (by have := J0.out b hb; omega)).sub fun b hb => by have := J0.out b hb; exact ⟨by omega, by omega⟩⟩ ⟨F1.out.1, F1.out.2.1, (F1.out.2.2.keep fun b hb => E.out.2 b (by have hj := J1.out b hb; rintro (h | h) <;> first | omega | exact AP1.out b hb h) (by have := J1.out b hb; omega)).sub fun b hb => by have := J1.out b hb; exact ⟨by omega, by omega⟩⟩ ⟨F3.out.1, F3.out.2.1, (F3.out.2.2.keep fun b hb => E.out.2 b (by have hj := J3.out b hb; rintro (h | h) <;> first | omega | exact AP3.out b hb h) (by have := J3.out b hb; omega)).sub fun b hb => by have := J3.out b hb; exact ⟨by omega, by omega⟩⟩ ⟨F4.out.1, F4.out.2.1, (F4.out.2.2.keep fun b hb => E.out.2 b (by have hj := J4.out b hb; rintro (h | h) <;> first | omega | exact AP4.out b hb h) (by have := J4.out b hb; omega)).sub fun b hb => by have := J4.out b hb; exact ⟨by omega, by omega⟩⟩ ⟨F5.out.1, F5.out.2.1, (F5.out.2.2.keep fun b hb => E.out.2 b (by have hj := J5.out b hb; rintro (h | h) <;> first | omega | exact AP5.out b hb h) (by have := J5.out b hb; omega)).sub fun b hb => by have := J5.out b hb; exact ⟨by omega, by omega⟩⟩
      have hbt : ListAt shPair (fun b => w.heap.size < b ∧ b < w3.heap.size) w3 ab nb b := (FB.out.keep fun b hb => E.out.2 b (by have hj := JB.out b hb; rintro (h | h) <;> first | omega | exact APB.out b hb h) (by have := JB.out b hb; omega)).sub fun b hb => by have := JB.out b hb; exact ⟨by omega, by omega⟩
      exact ⟨[.slice a0 n0 c0, .slice a1 n1 c1, .int .i64 ds, .slice a3 n3 c3, .slice a4 n1 c4, .slice a5 n3 c5], _, ab, nb, cb, b, rfl, ⟨HBK.out m l ds r cp lm HSM.out LN.out.1 (by have := LN.out; omega) LN.out.2.2.1 LN.out.2.2.2.1 LN.out.2.2.2.2, HBL.out, by have := HNB.out; omega, HCB.out.1, HCB.out.2, HSB.out⟩,
        shConfig.sub (shConfig.keep hcf fun b hb => hF.2 b (by have := hb.1; omega) hb.2) fun b hb => ⟨by have := hb.1; omega, by have := hb.2; omega⟩,
        (hbt.keep fun b hb => hF.2 b (by have := hb.1; omega) hb.2).sub fun b hb => ⟨by have := hb.1; omega, by have := hb.2; omega⟩, S4.out⟩
  · skip
    have hn30 : 0 < n3 := by omega
    obtain ⟨g, rfl⟩ : ∃ g, a5 = some ⟨g, 0, none⟩ := by
      rcases V5.out.2 with ⟨e, -⟩ | ⟨g, cap, cur, e, -⟩
      · have := (Value.slice.inj e).2.1
        omega
      · exact ⟨g, (Value.slice.inj e).1⟩
    have hlc : lm.length = n3 := HLL.out
    have hS : Turned B w3 w3.drew C := (Turned.refl T3.out.cu).then ((Below.refl _ _).drew)
    have TD := Lib.hid hS
    have HV := Lib.hid (show w3.ownsRow k3 3 1 (.slice (some ⟨g, 0, none⟩) n3 c5) n3 (icells lm) by have h := V5.out; unfold RowT at h; rw [icells_len, HLL.out] at h; exact h)
    have hcell0 := HV.out.cellAt 0 (by omega)
    obtain ⟨X0, xr, hxs⟩ : ∃ x y, lm = x :: y := by
      cases hq : lm with
      | nil => have := congrArg List.length hq; simp only [List.length_nil] at this; omega
      | cons x y => exact ⟨x, y, rfl⟩
    have hc00 : w3.cell? ⟨g, 0, none⟩ = some (.int .i64 X0) := by rw [hcell0, hxs]; rfl
    have hgl := HV.out.lt g rfl
    have hgX : g < X4 := by have := J5.out g rfl; omega
    have hgw : wa.heap.size ≤ g := (J5.out g rfl).1
    have LATE := Lib.hid fun (wx : World) (hx : Turned B w3 wx C) => (show wx.cell? ⟨X4, 5, none⟩ = some (.slice (some ⟨g, 0, none⟩) n3 c5) ∧ wx.cell? ⟨g, 0, none⟩ = some (.int .i64 X0) from ⟨boxC ((hx.block hX3 (by omega)).trans BX3.out) 5 _ rfl, (World.cell?_of_block (a := ⟨g, 0, none⟩) (hx.block (k := g) (by omega) (by omega))).trans hc00⟩)
    have hS0 := LATE.out w3.drew hS
    clear hS hcell0
    go_upto_region 15 with fail
    refine wp_region_K (S := fun w' => w'.cell? ⟨X4, 5, none⟩ = some (.slice (some ⟨g, 0, none⟩) n3 c5) ∧ w'.cell? ⟨g, 0, none⟩ = some (.int .i64 X0)) (by kernel_rfl) ?_
    show AnyK _ _ _ _ _ _ _ _ w3.drew
    generalize w3.drew = wd at hS0 TD ⊢
    refine anyK_take (i := 0) (v := ?_) rfl (by kernel_rfl) (by kernel_rfl) (by kernel_rfl) (fun _ _ _ h => h) (Or.inl ⟨by rfl, ?_⟩) hS0 ?_
    rotate_left
    · (intro wS hS; obtain ⟨sA, sB⟩ := hS; go_simp; try with_reducible rfl)
    simp only [Act.put, List.setIfInBounds_toArray, List.set_cons_zero, List.set_cons_succ]
    refine anyK_take (i := 1) (v := ?_) rfl (by kernel_rfl) (by kernel_rfl) (by kernel_rfl) (fun _ _ _ h => h) (Or.inl ⟨by rfl, ?_⟩) hS0 ?_
    rotate_left
    · (intro wS hS; obtain ⟨sA, sB⟩ := hS; go_simp; try with_reducible rfl)
    simp only [Act.put, List.setIfInBounds_toArray, List.set_cons_zero, List.set_cons_succ]
    refine anyK_take (i := 2) (v := ?_) rfl (by kernel_rfl) (by kernel_rfl) (by kernel_rfl) (fun _ _ _ h => h) (Or.inl ⟨by rfl, ?_⟩) hS0 ?_
    rotate_left
    · (intro wS hS; obtain ⟨sA, sB⟩ := hS; go_simp; try with_reducible rfl)
    simp only [Act.put, List.setIfInBounds_toArray, List.set_cons_zero, List.set_cons_succ]
    refine anyK_take (i := 3) (v := ?_) rfl (by kernel_rfl) (by kernel_rfl) (by kernel_rfl) (fun _ _ _ h => h) (Or.inl ⟨by rfl, ?_⟩) hS0 ?_
    rotate_left
    · (intro wS hS; obtain ⟨sA, sB⟩ := hS; go_simp; try with_reducible rfl)
    simp only [Act.put, List.setIfInBounds_toArray, List.set_cons_zero, List.set_cons_succ]
    refine anyK_take (i := 4) (v := ?_) rfl (by kernel_rfl) (by kernel_rfl) (by kernel_rfl) (fun _ _ _ h => h) (Or.inl ⟨by rfl, ?_⟩) hS0 ?_
    rotate_left
    · (intro wS hS; obtain ⟨sA, sB⟩ := hS; go_simp; try with_reducible rfl)
    simp only [Act.put, List.setIfInBounds_toArray, List.set_cons_zero, List.set_cons_succ]
    refine anyK_take (i := 5) (v := ?_) rfl (by kernel_rfl) (by kernel_rfl) (by kernel_rfl) (fun _ _ _ h => h) (Or.inl ⟨by rfl, ?_⟩) hS0 ?_
    rotate_left
    · (intro wS hS; obtain ⟨sA, sB⟩ := hS; go_simp; try with_reducible rfl)
    simp only [Act.put, List.setIfInBounds_toArray, List.set_cons_zero, List.set_cons_succ]
    refine anyK_take (i := 6) (v := ?_) rfl (by kernel_rfl) (by kernel_rfl) (by kernel_rfl) (fun _ _ _ h => h) (Or.inl ⟨by rfl, ?_⟩) hS0 ?_
    rotate_left
    · (intro wS hS; obtain ⟨sA, sB⟩ := hS; go_simp; try with_reducible rfl)
    simp only [Act.put, List.setIfInBounds_toArray, List.set_cons_zero, List.set_cons_succ]
    refine anyK_take (i := 7) (v := ?_) rfl (by kernel_rfl) (by kernel_rfl) (by kernel_rfl) (fun _ _ _ h => h) (Or.inl ⟨by rfl, ?_⟩) hS0 ?_
    rotate_left
    · (intro wS hS; obtain ⟨sA, sB⟩ := hS; go_simp; try with_reducible rfl)
    simp only [Act.put, List.setIfInBounds_toArray, List.set_cons_zero, List.set_cons_succ]
    refine anyK_step (i := 8) (by kernel_rfl) rfl (by rfl) (fun K hK => ?_)
    go_simp
    have TA := Lib.hid (TD.out.alloc (.cells #[.int .i64 (IntKind.i64.wrap (X0 - 1)), .int .i64 (100000), .int .i64 (100001), .int .i64 (0)] 3 (0, 0)))
    have HL := Lib.hid (heap_alloc_new wd (.cells #[.int .i64 (IntKind.i64.wrap (X0 - 1)), .int .i64 (100000), .int .i64 (100001), .int .i64 (0)] 3 (0, 0)))
    have hsL : (wd.alloc (.cells #[.int .i64 (IntKind.i64.wrap (X0 - 1)), .int .i64 (100000), .int .i64 (100001), .int .i64 (0)] 3 (0, 0))).heap.size = wd.heap.size + 1 := by simp
    have hdl := TD.out.size
    refine hK _ _ (.inr (LATE.out _ TA.out)) ?_
    try simp only [Act.put, List.setIfInBounds_toArray, List.set_cons_zero, List.set_cons_succ]
    clear hK
    generalize wd.alloc (.cells #[.int .i64 (IntKind.i64.wrap (X0 - 1)), .int .i64 (100000), .int .i64 (100001), .int .i64 (0)] 3 (0, 0)) = wp at TA HL hsL ⊢
    refine anyK_step (i := 9) (by kernel_rfl) rfl (by rfl) (fun K hK => ?_)
    go_simp
    go_at_call 62
    refine (l1PickInt_e B wp C wd.heap.size 4 [IntKind.i64.wrap (X0 - 1), 100000, 100001, 0] (fun _ => True) rfl (by omega) (by omega) (fun _ _ => trivial) TA.out.cu (by omega) (fun j hj => by
      rcases (show j = 0 ∨ j = 1 ∨ j = 2 ∨ j = 3 by omega) with rfl | rfl | rfl | rfl
      · exact boxC HL.out 0 _ rfl
      · exact boxC HL.out 1 _ rfl
      · exact boxC HL.out 2 _ rfl
      · exact boxC HL.out 3 _ rfl)).mono ?_
    rintro e wn ⟨z, rfl, -, ht⟩
    have TN := Lib.hid (TA.out.trans ht)
    clear ht
    refine hK _ _ (.inr (LATE.out _ TN.out)) ?_
    try simp only [Act.put, List.setIfInBounds_toArray, List.set_cons_zero, List.set_cons_succ]
    clear hK
    have B1 := Lib.hid (ButA.turned (X := fun b => b = C) TN.out rfl)
    have V1x := Lib.hid (show wn.ownsRow (k3) 3 1 (.slice (some ⟨g, 0, none⟩) n3 c5) n3 (icells lm) by
      have h := V5.out.but B1.out (fun k hk => by have := J5.out k hk; show ¬ k = C; omega)
      unfold RowT at h
      rw [icells_len, HLL.out] at h
      exact h)
    have cc := (LATE.out _ TN.out).2
    have ff : wn.frozen? ⟨g, 0, none⟩ = false := V1x.out.frozenAt 0
    obtain ⟨hst, -⟩ := World.ownsRow.stored V1x.out 0 (.int .i64 z)
    refine anyK_take (i := 10) (v := ?_) rfl (by kernel_rfl) (by kernel_rfl) (by kernel_rfl) (fun _ _ _ h => h) (Or.inl ⟨by rfl, ?_⟩) (LATE.out _ TN.out) ?_
    rotate_left
    · (intro wS hS; obtain ⟨sA, sB⟩ := hS; go_simp; try with_reducible rfl)
    simp only [Act.put, List.setIfInBounds_toArray, List.set_cons_zero, List.set_cons_succ]
    refine anyK_step (i := 11) (by kernel_rfl) rfl (by rfl) (fun K hK => ?_)
    go_simp
    refine hK _ _ (.inl (last_of (by kernel_rfl))) ?_
    clear hK
    refine anyK_done (by kernel_rfl) ?_ _
    have E := Lib.hid ((B1.out.weak (X' := (fun b => b = C ∨ b = X4 ∨ (Value.slice (some ⟨g, 0, none⟩) n3 c5).ownBlock = some b)) (fun b h => .inl h)).trans (ButA.stored (g := g) (.inr (.inr rfl)) wn 0 (.int .i64 z)))
    have TT := Lib.hid ((T3.out.trans TN.out).setCell hlt ⟨g, 0, none⟩ (.int .i64 z) (by have := J5.out g rfl; show w.heap.size ≤ g; omega))
    have KX := Lib.hid ((heap_setCell_other wn ⟨g, 0, none⟩ X4 (.int .i64 z) (by show X4 ≠ g; omega)).trans ((TN.out.block hX3 (by omega)).trans BX3.out))
    have HST := Lib.hid hst
    have hswn := TN.out.size
    have hsz' : (wn.setCell ⟨g, 0, none⟩ (.int .i64 z)).heap.size = wn.heap.size := by simp
    clear cc ff hst V1x B1 LATE hS0 hc00
    generalize wn.setCell ⟨g, 0, none⟩ (.int .i64 z) = w5 at E TT KX HST hsz' ⊢
    have hset : (icells lm).set 0 (.int .i64 z) = icells (z :: xr) := by rw [hxs]; rfl
    have hlx : (z :: xr).length = n3 := by
      have h1 : (X0 :: xr).length = n3 := by rw [← hxs]; exact HLL.out
      simpa using h1
    have FX : Hid (n3 ≤ c5 ∧ c5 ≤ 9223372036854775807 ∧ ListAt Shape.int (fun b => w.heap.size < b ∧ b < w5.heap.size) w5 (some ⟨g, 0, none⟩) n3 (z :: xr)) := Lib.hid (by
      have hv := HST.out
      rw [hset] at hv
      have hv' : RowT 3 (k3) w5 (.slice (some ⟨g, 0, none⟩) n3 c5) (icells (z :: xr)) := by
        unfold RowT
        rw [icells_len, hlx]
        exact hv
      obtain ⟨a', c', e', hc1, hc2, hl⟩ := hv'.nums
      rw [hlx] at e' hc1 hl
      cases e'
      exact ⟨hc1, hc2, hl.sub fun b hb => by have := hv'.lt b hb; have := II.out; exact ⟨by omega, by omega⟩⟩)
    have JO := J5
    have AP0 : Hid (∀ b, From wa.heap.size k0 b → ¬ (Value.slice (some ⟨g, 0, none⟩) n3 c5).ownBlock = some b) := Lib.hid fun b hb e => by have := OO5.out b e; have := hb.2; have := II.out; omega
    have AP1 : Hid (∀ b, (Value.slice a1 n1 c1).ownBlock = some b → ¬ (Value.slice (some ⟨g, 0, none⟩) n3 c5).ownBlock = some b) := Lib.hid fun b hb e => by have := OO5.out b e; have := OO1.out b hb; have := II.out; omega
    have AP3 : Hid (∀ b, (Value.slice a3 n3 c3).ownBlock = some b → ¬ (Value.slice (some ⟨g, 0, none⟩) n3 c5).ownBlock = some b) := Lib.hid fun b hb e => by have := OO5.out b e; have := OO3.out b hb; have := II.out; omega
    have AP4 : Hid (∀ b, (Value.slice a4 n1 c4).ownBlock = some b → ¬ (Value.slice (some ⟨g, 0, none⟩) n3 c5).ownBlock = some b) := Lib.hid fun b hb e => by have := OO5.out b e; have := OO4.out b hb; have := II.out; omega
    have APB : Hid (∀ b, From k1 k2 b → ¬ (Value.slice (some ⟨g, 0, none⟩) n3 c5).ownBlock = some b) := Lib.hid fun b hb e => by have := OO5.out b e; have := hb.2; have := II.out; omega
    go_upto_region 20 with fail
    have hR5 := (E.out.2 w.heap.size (by rintro (h | h | h) <;> first | omega | (have hj := JO.out _ h; omega)) (by omega)).trans HR3.out
    obtain ⟨z0, z1, z2, z3, z4, z5⟩ := box6 KX.out
    obtain ⟨y0, y1, y2, y3, y4, y5⟩ := box6 hR5
    have f0 : w5.frozen? ⟨w.heap.size, 0, none⟩ = false := frozen_of_row _ _ _ _ _ hR5
    have f1 : w5.frozen? ⟨w.heap.size, 1, none⟩ = false := frozen_of_row _ _ _ _ _ hR5
    have f2 : w5.frozen? ⟨w.heap.size, 2, none⟩ = false := frozen_of_row _ _ _ _ _ hR5
    have f3 : w5.frozen? ⟨w.heap.size, 3, none⟩ = false := frozen_of_row _ _ _ _ _ hR5
    have f4 : w5.frozen? ⟨w.heap.size, 4, none⟩ = false := frozen_of_row _ _ _ _ _ hR5
    have f5 : w5.frozen? ⟨w.heap.size, 5, none⟩ = false := frozen_of_row _ _ _ _ _ hR5
    obtain ⟨s1, s2, s3⟩ := six_box hR5 (.slice a0 n0 c0) (.slice a1 n1 c1) (.int .i64 ds) (.slice a3 n3 c3) (.slice a4 n1 c4) (.slice (some ⟨g, 0, none⟩) n3 c5)
    have S1 := Lib.hid s1
    have S2 := Lib.hid s2
    have S3 := Lib.hid s3
    have S4 := Lib.hid (six_turned (X := w.heap.size) TT.out (by omega) (Nat.le_refl _) (.slice a0 n0 c0) (.slice a1 n1 c1) (.int .i64 ds) (.slice a3 n3 c3) (.slice a4 n1 c4) (.slice (some ⟨g, 0, none⟩) n3 c5))
    clear hR5 s1 s2 s3
    go_wp2_with fail
    refine bodyPost_ret (results_row_tmp rfl _ _ w.heap.size 30 #[.slice a0 n0 c0, .slice a1 n1 c1, .int .i64 ds, .slice a3 n3 c3, .slice a4 n1 c4, .slice (some ⟨g, 0, none⟩) n3 c5] (0, 0) _ rfl ?_ Try.underlying30 rfl (by kernel_rfl)) rfl ?_
    · exact S1.out
    have hF : ButA (fun b => b = w.heap.size) w5 _ := ⟨Nat.le_of_eq S2.out.symm, fun b h1 _ => S3.out b h1⟩
    have hs5 := E.out.1
    have hs6 := S2.out
    have hcf : shConfig.reads (fun b => w.heap.size < b ∧ b < w5.heap.size) w5 [.slice a0 n0 c0, .slice a1 n1 c1, .int .i64 ds, .slice a3 n3 c3, .slice a4 n1 c4, .slice (some ⟨g, 0, none⟩) n3 c5] (m, l, ds, r, cp, z :: xr) := conf_at ⟨F0.out.1, F0.out.2.1, (F0.out.2.2.keep fun b hb => E.out.2 b (by have hj := J0.out b hb; rintro (h | h | h) <;> first | omega | exact AP0.out b hb h) (by have := J0.out b hb; omega)).sub fun b hb => by have := J0.out b hb; exact ⟨by omega, by omega⟩⟩ ⟨F1.out.1, F1.out.2.1, (F1.out.2.2.keep fun b hb => E.out.2 b (by have hj := J1.out b hb; rintro (h | h | h) <;> first | omega | exact AP1.out b hb h) (by have := J1.out b hb; omega)).sub fun b hb => by have := J1.out b hb; exact ⟨by omega, by omega⟩⟩ ⟨F3.out.1, F3.out.2.1, (F3.out.2.2.keep fun b hb => E.out.2 b (by have hj := J3.out b hb; rintro (h | h | h) <;> first | omega | exact AP3.out b hb h) (by have := J3.out b hb; omega)).sub fun b hb => by have := J3.out b hb; exact ⟨by omega, by omega⟩⟩ ⟨F4.out.1, F4.out.2.1, (F4.out.2.2.keep fun b hb => E.out.2 b (by have hj := J4.out b hb; rintro (h | h | h) <;> first | omega | exact AP4.out b hb h) (by have := J4.out b hb; omega)).sub fun b hb => by have := J4.out b hb; exact ⟨by omega, by omega⟩⟩ (FX.out)
    have hbt : ListAt shPair (fun b => w.heap.size < b ∧ b < w5.heap.size) w5 ab nb b := (FB.out.keep fun b hb => E.out.2 b (by have hj := JB.out b hb; rintro (h | h | h) <;> first | omega | exact APB.out b hb h) (by have := JB.out b hb; omega)).sub fun b hb => by have := JB.out b hb; exact ⟨by omega, by omega⟩
    exact ⟨[.slice a0 n0 c0, .slice a1 n1 c1, .int .i64 ds, .slice a3 n3 c3, .slice a4 n1 c4, .slice (some ⟨g, 0, none⟩) n3 c5], _, ab, nb, cb, b, rfl, ⟨HBK.out m l ds r cp (z :: xr) HSM.out LN.out.1 (by have := LN.out; omega) LN.out.2.2.1 LN.out.2.2.2.1 (by rw [hlx]; omega), HBL.out, by have := HNB.out; omega, HCB.out.1, HCB.out.2, HSB.out⟩,
      shConfig.sub (shConfig.keep hcf fun b hb => hF.2 b (by have := hb.1; omega) hb.2) fun b hb => ⟨by have := hb.1; omega, by have := hb.2; omega⟩,
      (hbt.keep fun b hb => hF.2 b (by have := hb.1; omega) hb.2).sub fun b hb => ⟨by have := hb.1; omega, by have := hb.2; omega⟩, S4.out⟩
  · skip
    obtain ⟨z0, z1, z2, z3, z4, z5⟩ := box6 BX3.out
    have MI : Hid (ModIn w3.heap.size C w3 a0 n0 m) := Lib.hid (ListAt.sub F0.out.2.2 fun b hb => ⟨by have := J0.out b hb; omega, by have := J0.out b hb; omega⟩)
    have hbk := smallM_bulk8 HSM.out (by have := LN.out.1; omega)
    have h00 := F0.out.1
    have h01 := F0.out.2.1
    go_wp2_with fail
    clear z0 z1 z2 z3 z4 z5
    refine (l6AnyBatch_e B w3 C T3.out.cu a0 n0 c0 m MI.out h00 h01 hbk).mono ?_
    rintro e w4 ⟨av, nv, cv, b', rfl, ⟨hn9, hnl, hc1, hc2, hsb'⟩, hli, ht4⟩
    have HSB' := Lib.hid hsb'
    have HNL := Lib.hid hnl
    have hs4 := ht4.size
    obtain ⟨a', c', e', -, -, hla⟩ := hli.listFrom8
    simp only [Value.slice.injEq] at e'
    obtain ⟨rfl, -, rfl⟩ := e'
    rw [hnl] at hla
    have HLA : Hid (ListAt shPair (fun b => w3.heap.size ≤ b ∧ b < w4.heap.size) w4 av nv b') := Lib.hid hla
    have KW := Lib.hid ((ht4.block hX3 (by omega)).trans BX3.out)
    have E4 := Lib.hid (ButA.turned (X := (fun b => b = C ∨ b = X4)) ht4 (.inl rfl))
    have T4 := Lib.hid (T3.out.trans ht4)
    clear hli hla ht4
    clear hsb' hnl
    have KX := KW
    have E := E4
    have TT := T4
    go_upto_region 20 with fail
    have hR5 := (E.out.2 w.heap.size (by rintro (h | h) <;> first | omega | (have hj := JO.out _ h; omega)) (by omega)).trans HR3.out
    obtain ⟨z0, z1, z2, z3, z4, z5⟩ := box6 KX.out
    obtain ⟨y0, y1, y2, y3, y4, y5⟩ := box6 hR5
    have f0 : w4.frozen? ⟨w.heap.size, 0, none⟩ = false := frozen_of_row _ _ _ _ _ hR5
    have f1 : w4.frozen? ⟨w.heap.size, 1, none⟩ = false := frozen_of_row _ _ _ _ _ hR5
    have f2 : w4.frozen? ⟨w.heap.size, 2, none⟩ = false := frozen_of_row _ _ _ _ _ hR5
    have f3 : w4.frozen? ⟨w.heap.size, 3, none⟩ = false := frozen_of_row _ _ _ _ _ hR5
    have f4 : w4.frozen? ⟨w.heap.size, 4, none⟩ = false := frozen_of_row _ _ _ _ _ hR5
    have f5 : w4.frozen? ⟨w.heap.size, 5, none⟩ = false := frozen_of_row _ _ _ _ _ hR5
    obtain ⟨s1, s2, s3⟩ := six_box hR5 (.slice a0 n0 c0) (.slice a1 n1 c1) (.int .i64 ds) (.slice a3 n3 c3) (.slice a4 n1 c4) (.slice a5 n3 c5)
    have S1 := Lib.hid s1
    have S2 := Lib.hid s2
    have S3 := Lib.hid s3
    have S4 := Lib.hid (six_turned (X := w.heap.size) TT.out (by omega) (Nat.le_refl _) (.slice a0 n0 c0) (.slice a1 n1 c1) (.int .i64 ds) (.slice a3 n3 c3) (.slice a4 n1 c4) (.slice a5 n3 c5))
    clear hR5 s1 s2 s3
    go_wp2_with fail
    refine bodyPost_ret (results_row_tmp rfl _ _ w.heap.size 30 #[.slice a0 n0 c0, .slice a1 n1 c1, .int .i64 ds, .slice a3 n3 c3, .slice a4 n1 c4, .slice a5 n3 c5] (0, 0) _ rfl ?_ Try.underlying30 rfl (by kernel_rfl)) rfl ?_
    · exact S1.out
    have hF : ButA (fun b => b = w.heap.size) w4 _ := ⟨Nat.le_of_eq S2.out.symm, fun b h1 _ => S3.out b h1⟩
    have hs5 := E.out.1
    have hs6 := S2.out
    have hcf : shConfig.reads (fun b => w.heap.size < b ∧ b < w4.heap.size) w4 [.slice a0 n0 c0, .slice a1 n1 c1, .int .i64 ds, .slice a3 n3 c3, .slice a4 n1 c4, .slice a5 n3 c5] (m, l, ds, r, cp, lm) := conf_at ⟨F0.out.1, F0.out.2.1, (F0.out.2.2.keep fun b hb => E.out.2 b (by have hj := J0.out b hb; rintro (h | h) <;> first | omega | exact AP0.out b hb h) (by have := J0.out b hb; omega)).sub fun b hb => by have := J0.out b hb; exact ⟨by omega, by omega⟩⟩ ⟨F1.out.1, F1.out.2.1, (F1.out.2.2.keep fun b hb => E.out.2 b (by have hj := J1.out b hb; rintro (h | h) <;> first | omega | exact AP1.out b hb h) (by have := J1.out b hb; omega)).sub fun b hb => by have := J1.out b hb; exact ⟨by omega, by omega⟩⟩ ⟨F3.out.1, F3.out.2.1, (F3.out.2.2.keep fun b hb => E.out.2 b (by have hj := J3.out b hb; rintro (h | h) <;> first | omega | exact AP3.out b hb h) (by have := J3.out b hb; omega)).sub fun b hb => by have := J3.out b hb; exact ⟨by omega, by omega⟩⟩ ⟨F4.out.1, F4.out.2.1, (F4.out.2.2.keep fun b hb => E.out.2 b (by have hj := J4.out b hb; rintro (h | h) <;> first | omega | exact AP4.out b hb h) (by have := J4.out b hb; omega)).sub fun b hb => by have := J4.out b hb; exact ⟨by omega, by omega⟩⟩ ⟨F5.out.1, F5.out.2.1, (F5.out.2.2.keep fun b hb => E.out.2 b (by have hj := J5.out b hb; rintro (h | h) <;> first | omega | exact AP5.out b hb h) (by have := J5.out b hb; omega)).sub fun b hb => by have := J5.out b hb; exact ⟨by omega, by omega⟩⟩
    have hbt : ListAt shPair (fun b => w.heap.size < b ∧ b < w4.heap.size) w4 av nv b' := HLA.out.sub fun b hb => ⟨by have := hb.1; omega, hb.2⟩
    exact ⟨[.slice a0 n0 c0, .slice a1 n1 c1, .int .i64 ds, .slice a3 n3 c3, .slice a4 n1 c4, .slice a5 n3 c5], _, av, nv, cv, b', rfl, ⟨HBK.out m l ds r cp lm HSM.out LN.out.1 (by have := LN.out; omega) LN.out.2.2.1 LN.out.2.2.2.1 LN.out.2.2.2.2, HNL.out, hn9, hc1, hc2, HSB'.out⟩,
      shConfig.sub (shConfig.keep hcf fun b hb => hF.2 b (by have := hb.1; omega) hb.2) fun b hb => ⟨by have := hb.1; omega, by have := hb.2; omega⟩,
      (hbt.keep fun b hb => hF.2 b (by have := hb.1; omega) hb.2).sub fun b hb => ⟨by have := hb.1; omega, by have := hb.2; omega⟩, S4.out⟩
  · skip
    obtain ⟨z0, z1, z2, z3, z4, z5⟩ := box6 BX3.out
    have cc := boxC BX3.out 5 _ rfl
    have ff : w3.frozen? ⟨X4, 5, none⟩ = false := frozen_of_row _ _ _ _ _ BX3.out
    have hc5 : n3 ≤ c5 := PQ.out.2.2.2.2.1
    go_upto_region 20 with fail
    generalize hA : (if c5 = 1 then a5 else Option.map (fun x => ({ block := x.block, off := x.off + 1 } : Addr)) a5) = A
    have hk9 : (w3.setCell ⟨X4, 5, none⟩ (.slice A (n3 - 1) (c5 - 1))).heap[X4]? = some (.cells #[.slice a0 n0 c0, .slice a1 n1 c1, .int .i64 ds, .slice a3 n3 c3, .slice a4 n1 c4, .slice A (n3 - 1) (c5 - 1)] 30 (0, 0)) := by
      have := heap_setCell_same w3 X4 5 _ _ (.slice A (n3 - 1) (c5 - 1)) BX3.out
      simpa only [List.setIfInBounds_toArray, List.set_cons_zero, List.set_cons_succ] using this
    have KX := Lib.hid hk9
    have E := Lib.hid (ButA.stored (X := (fun b => b = C ∨ b = X4)) (g := X4) (.inr rfl) w3 5 (.slice A (n3 - 1) (c5 - 1)))
    have TT := Lib.hid (T3.out.setCell hlt ⟨X4, 5, none⟩ (.slice A (n3 - 1) (c5 - 1)) (by show w.heap.size ≤ X4; omega))
    have F5r : Hid (n3 - 1 ≤ c5 - 1 ∧ c5 - 1 ≤ 9223372036854775807 ∧ ListAt Shape.int (fun b => (Value.slice a5 n3 c5).ownBlock = some b) w3 A (n3 - 1) ((lm.drop 1).take (n3 - 1))) := Lib.hid ⟨by omega, by have := F5.out.2.1; omega, by
      rw [← hA]
      split
      · rename_i hc
        have h0 : n3 - 1 = 0 := by omega
        rw [h0, List.take_zero]
        exact ⟨rfl, fun j x hx => by simp at hx⟩
      · exact F5.out.2.2.partC (f := 1) (t := n3) (by omega) (Nat.le_refl _)⟩
    clear hk9 hA cc ff z0 z1 z2 z3 z4 z5 hc5
    generalize w3.setCell ⟨X4, 5, none⟩ (.slice A (n3 - 1) (c5 - 1)) = w4 at KX E TT ⊢
    have hR5 := (E.out.2 w.heap.size (by rintro (h | h) <;> first | omega | (have hj := JO.out _ h; omega)) (by omega)).trans HR3.out
    obtain ⟨z0, z1, z2, z3, z4, z5⟩ := box6 KX.out
    obtain ⟨y0, y1, y2, y3, y4, y5⟩ := box6 hR5
    have f0 : w4.frozen? ⟨w.heap.size, 0, none⟩ = false := frozen_of_row _ _ _ _ _ hR5
    have f1 : w4.frozen? ⟨w.heap.size, 1, none⟩ = false := frozen_of_row _ _ _ _ _ hR5
    have f2 : w4.frozen? ⟨w.heap.size, 2, none⟩ = false := frozen_of_row _ _ _ _ _ hR5
    have f3 : w4.frozen? ⟨w.heap.size, 3, none⟩ = false := frozen_of_row _ _ _ _ _ hR5
    have f4 : w4.frozen? ⟨w.heap.size, 4, none⟩ = false := frozen_of_row _ _ _ _ _ hR5
    have f5 : w4.frozen? ⟨w.heap.size, 5, none⟩ = false := frozen_of_row _ _ _ _ _ hR5
    obtain ⟨s1, s2, s3⟩ := six_box hR5 (.slice a0 n0 c0) (.slice a1 n1 c1) (.int .i64 ds) (.slice a3 n3 c3) (.slice a4 n1 c4) (.slice A (n3 - 1) (c5 - 1))
    have S1 := Lib.hid s1
    have S2 := Lib.hid s2
    have S3 := Lib.hid s3
    have S4 := Lib.hid (six_turned (X := w.heap.size) TT.out (by omega) (Nat.le_refl _) (.slice a0 n0 c0) (.slice a1 n1 c1) (.int .i64 ds) (.slice a3 n3 c3) (.slice a4 n1 c4) (.slice A (n3 - 1) (c5 - 1)))
    clear hR5 s1 s2 s3
    go_wp2_with fail
    refine bodyPost_ret (results_row_tmp rfl _ _ w.heap.size 30 #[.slice a0 n0 c0, .slice a1 n1 c1, .int .i64 ds, .slice a3 n3 c3, .slice a4 n1 c4, .slice A (n3 - 1) (c5 - 1)] (0, 0) _ rfl ?_ Try.underlying30 rfl (by kernel_rfl)) rfl ?_
    · exact S1.out
    have hF : ButA (fun b => b = w.heap.size) w4 _ := ⟨Nat.le_of_eq S2.out.symm, fun b h1 _ => S3.out b h1⟩
    have hs5 := E.out.1
    have hs6 := S2.out
    have hcf : shConfig.reads (fun b => w.heap.size < b ∧ b < w4.heap.size) w4 [.slice a0 n0 c0, .slice a1 n1 c1, .int .i64 ds, .slice a3 n3 c3, .slice a4 n1 c4, .slice A (n3 - 1) (c5 - 1)] (m, l, ds, r, cp, (lm.drop 1).take (n3 - 1)) := conf_at ⟨F0.out.1, F0.out.2.1, (F0.out.2.2.keep fun b hb => E.out.2 b (by have hj := J0.out b hb; rintro (h | h) <;> first | omega | exact AP0.out b hb h) (by have := J0.out b hb; omega)).sub fun b hb => by have := J0.out b hb; exact ⟨by omega, by omega⟩⟩ ⟨F1.out.1, F1.out.2.1, (F1.out.2.2.keep fun b hb => E.out.2 b (by have hj := J1.out b hb; rintro (h | h) <;> first | omega | exact AP1.out b hb h) (by have := J1.out b hb; omega)).sub fun b hb => by have := J1.out b hb; exact ⟨by omega, by omega⟩⟩ ⟨F3.out.1, F3.out.2.1, (F3.out.2.2.keep fun b hb => E.out.2 b (by have hj := J3.out b hb; rintro (h | h) <;> first | omega | exact AP3.out b hb h) (by have := J3.out b hb; omega)).sub fun b hb => by have := J3.out b hb; exact ⟨by omega, by omega⟩⟩ ⟨F4.out.1, F4.out.2.1, (F4.out.2.2.keep fun b hb => E.out.2 b (by have hj := J4.out b hb; rintro (h | h) <;> first | omega | exact AP4.out b hb h) (by have := J4.out b hb; omega)).sub fun b hb => by have := J4.out b hb; exact ⟨by omega, by omega⟩⟩ (⟨F5r.out.1, F5r.out.2.1, (F5r.out.2.2.keep fun b hb => E.out.2 b (by have hj := J5.out b hb; rintro (h | h) <;> omega) (by have := J5.out b hb; omega)).sub fun b hb => by have := J5.out b hb; exact ⟨by omega, by omega⟩⟩)
    have hbt : ListAt shPair (fun b => w.heap.size < b ∧ b < w4.heap.size) w4 ab nb b := (FB.out.keep fun b hb => E.out.2 b (by have hj := JB.out b hb; rintro (h | h) <;> first | omega | exact APB.out b hb h) (by have := JB.out b hb; omega)).sub fun b hb => by have := JB.out b hb; exact ⟨by omega, by omega⟩
    exact ⟨[.slice a0 n0 c0, .slice a1 n1 c1, .int .i64 ds, .slice a3 n3 c3, .slice a4 n1 c4, .slice A (n3 - 1) (c5 - 1)], _, ab, nb, cb, b, rfl, ⟨HBK.out m l ds r cp ((lm.drop 1).take (n3 - 1)) HSM.out LN.out.1 (by have := LN.out; omega) LN.out.2.2.1 LN.out.2.2.2.1 (by rw [List.length_take]; omega), HBL.out, by have := HNB.out; omega, HCB.out.1, HCB.out.2, HSB.out⟩,
      shConfig.sub (shConfig.keep hcf fun b hb => hF.2 b (by have := hb.1; omega) hb.2) fun b hb => ⟨by have := hb.1; omega, by have := hb.2; omega⟩,
      (hbt.keep fun b hb => hF.2 b (by have := hb.1; omega) hb.2).sub fun b hb => ⟨by have := hb.1; omega, by have := hb.2; omega⟩, S4.out⟩
  · skip
    have d0 : (y == 0) = false := by simp; omega
    have d1 : (y == 1) = false := by simp; omega
    have d2 : (y == 2) = false := by simp; omega
    have d3 : (y == 3) = false := by simp; omega
    have d4 : (y == 4) = false := by simp; omega
    have d5 : (y == 5) = false := by simp; omega
    have d6 : (y == 6) = false := by simp; omega
    have d7 : (y == 7) = false := by simp; omega
    have KX := BX3
    have E := Lib.hid (ButA.refl (fun b => b = C ∨ b = X4) w3)
    have TT := T3
    go_upto_region 20 with fail
    have hR5 := (E.out.2 w.heap.size (by rintro (h | h) <;> first | omega | (have hj := JO.out _ h; omega)) (by omega)).trans HR3.out
    obtain ⟨z0, z1, z2, z3, z4, z5⟩ := box6 KX.out
    obtain ⟨y0, y1, y2, y3, y4, y5⟩ := box6 hR5
    have f0 : w3.frozen? ⟨w.heap.size, 0, none⟩ = false := frozen_of_row _ _ _ _ _ hR5
    have f1 : w3.frozen? ⟨w.heap.size, 1, none⟩ = false := frozen_of_row _ _ _ _ _ hR5
    have f2 : w3.frozen? ⟨w.heap.size, 2, none⟩ = false := frozen_of_row _ _ _ _ _ hR5
    have f3 : w3.frozen? ⟨w.heap.size, 3, none⟩ = false := frozen_of_row _ _ _ _ _ hR5
    have f4 : w3.frozen? ⟨w.heap.size, 4, none⟩ = false := frozen_of_row _ _ _ _ _ hR5
    have f5 : w3.frozen? ⟨w.heap.size, 5, none⟩ = false := frozen_of_row _ _ _ _ _ hR5
    obtain ⟨s1, s2, s3⟩ := six_box hR5 (.slice a0 n0 c0) (.slice a1 n1 c1) (.int .i64 ds) (.slice a3 n3 c3) (.slice a4 n1 c4) (.slice a5 n3 c5)
    have S1 := Lib.hid s1
    have S2 := Lib.hid s2
    have S3 := Lib.hid s3
    have S4 := Lib.hid (six_turned (X := w.heap.size) TT.out (by omega) (Nat.le_refl _) (.slice a0 n0 c0) (.slice a1 n1 c1) (.int .i64 ds) (.slice a3 n3 c3) (.slice a4 n1 c4) (.slice a5 n3 c5))
    clear hR5 s1 s2 s3
    go_wp2_with fail
    refine bodyPost_ret (results_row_tmp rfl _ _ w.heap.size 30 #[.slice a0 n0 c0, .slice a1 n1 c1, .int .i64 ds, .slice a3 n3 c3, .slice a4 n1 c4, .slice a5 n3 c5] (0, 0) _ rfl ?_ Try.underlying30 rfl (by kernel_rfl)) rfl ?_
    · exact S1.out
    have hF : ButA (fun b => b = w.heap.size) w3 _ := ⟨Nat.le_of_eq S2.out.symm, fun b h1 _ => S3.out b h1⟩
    have hs5 := E.out.1
    have hs6 := S2.out
    have hcf : shConfig.reads (fun b => w.heap.size < b ∧ b < w3.heap.size) w3 [.slice a0 n0 c0, .slice a1 n1 c1, .int .i64 ds, .slice a3 n3 c3, .slice a4 n1 c4, .slice a5 n3 c5] (m, l, ds, r, cp, lm) := conf_at ⟨F0.out.1, F0.out.2.1, (F0.out.2.2.keep fun b hb => E.out.2 b (by have hj := J0.out b hb; rintro (h | h) <;> first | omega | exact AP0.out b hb h) (by have := J0.out b hb; omega)).sub fun b hb => by have := J0.out b hb; exact ⟨by omega, by omega⟩⟩ ⟨F1.out.1, F1.out.2.1, (F1.out.2.2.keep fun b hb => E.out.2 b (by have hj := J1.out b hb; rintro (h | h) <;> first | omega | exact AP1.out b hb h) (by have := J1.out b hb; omega)).sub fun b hb => by have := J1.out b hb; exact ⟨by omega, by omega⟩⟩ ⟨F3.out.1, F3.out.2.1, (F3.out.2.2.keep fun b hb => E.out.2 b (by have hj := J3.out b hb; rintro (h | h) <;> first | omega | exact AP3.out b hb h) (by have := J3.out b hb; omega)).sub fun b hb => by have := J3.out b hb; exact ⟨by omega, by omega⟩⟩ ⟨F4.out.1, F4.out.2.1, (F4.out.2.2.keep fun b hb => E.out.2 b (by have hj := J4.out b hb; rintro (h | h) <;> first | omega | exact AP4.out b hb h) (by have := J4.out b hb; omega)).sub fun b hb => by have := J4.out b hb; exact ⟨by omega, by omega⟩⟩ ⟨F5.out.1, F5.out.2.1, (F5.out.2.2.keep fun b hb => E.out.2 b (by have hj := J5.out b hb; rintro (h | h) <;> first | omega | exact AP5.out b hb h) (by have := J5.out b hb; omega)).sub fun b hb => by have := J5.out b hb; exact ⟨by omega, by omega⟩⟩
    have hbt : ListAt shPair (fun b => w.heap.size < b ∧ b < w3.heap.size) w3 ab nb b := (FB.out.keep fun b hb => E.out.2 b (by have hj := JB.out b hb; rintro (h | h) <;> first | omega | exact APB.out b hb h) (by have := JB.out b hb; omega)).sub fun b hb => by have := JB.out b hb; exact ⟨by omega, by omega⟩
    exact ⟨[.slice a0 n0 c0, .slice a1 n1 c1, .int .i64 ds, .slice a3 n3 c3, .slice a4 n1 c4, .slice a5 n3 c5], _, ab, nb, cb, b, rfl, ⟨HBK.out m l ds r cp lm HSM.out LN.out.1 (by have := LN.out; omega) LN.out.2.2.1 LN.out.2.2.2.1 LN.out.2.2.2.2, HBL.out, by have := HNB.out; omega, HCB.out.1, HCB.out.2, HSB.out⟩,
      shConfig.sub (shConfig.keep hcf fun b hb => hF.2 b (by have := hb.1; omega) hb.2) fun b hb => ⟨by have := hb.1; omega, by have := hb.2; omega⟩,
      (hbt.keep fun b hb => hF.2 b (by have := hb.1; omega) hb.2).sub fun b hb => ⟨by have := hb.1; omega, by have := hb.2; omega⟩, S4.out⟩
end Go.Proofs.Ytkflinobmagiiaa

end

/-! YtkflinobmagiiaaMatP -/
section

namespace Go.Proofs.Ytkflinobmagiiaa
set_option linter.unusedVariables false

theorem sizes_yes {r c mn mx : Int} (e1 : (if c < r then c else r) = mn) (e2 : (if r < c then c else r) = mx) (h1 : ¬ mn < 1) (h2 : ¬ 6 < mx) : inB 1 6 r = true ∧ inB 1 6 c = true := by
  subst e1
  subst e2
  constructor <;> refine inB_yes ?_ ?_ <;> split at h1 <;> split at h2 <;> omega
theorem sizes_no {r c mn mx : Int} (xs : List Int) (e1 : (if c < r then c else r) = mn) (e2 : (if r < c then c else r) = mx) (h : mn < 1 ∨ 6 < mx) : matOkB r c xs = false := by
  subst e1
  subst e2
  cases hr : inB 1 6 r with
  | false => exact matOkB_r hr
  | true =>
    cases hc : inB 1 6 c with
    | false => exact matOkB_c hc
    | true =>
      have a := inB_has hr
      have b := inB_has hc
      rcases h with h | h <;> split at h <;> omega
theorem all_of_rows {m q : Nat} {xs : List Int} (hq : 1 ≤ q) (hl : xs.length = m * q) (h : ∀ i, i < m → vecOkB (rowOf q xs i) = true) : xs.all okB = true := by
  refine all_of_get fun p hp => ?_
  rw [hl] at hp
  have g1 : p / q < m := Nat.div_lt_of_lt_mul (by rw [Nat.mul_comm]; exact hp)
  have g2 : p % q < q := Nat.mod_lt _ (by omega)
  have g3 : p / q * q + p % q = p := by rw [Nat.mul_comm]; exact Nat.div_add_mod p q
  obtain ⟨_, _, hk⟩ := vecOkB_has (h _ g1)
  have := hk (p % q) (by rw [rowOf_length hl g1]; exact g2)
  rw [rowOf_get _ _ _ _ g2, g3] at this
  exact this
theorem row_bad {m q : Nat} {xs : List Int} (h2 : 1 ≤ q ∧ q ≤ 6) (hl : xs.length = m * q) {i : Nat} (hi : i < m) (h : vecOkB (rowOf q xs i) = false) : xs.all okB = false := by
  cases ha : xs.all okB with
  | false => rfl
  | true =>
    rw [rowOf_ok h2 hl ha hi] at h
    cases h
theorem rowK_mapK (f : Int → Int → Int) (xs ys : List Int) (k : Nat) : rowK f xs ys k = mapK (fun j => f (xs.getD j 0) (ys.getD j 0)) k := by
  induction k with
  | zero => rfl
  | succ k ih => rw [rowK, mapK, ih]
theorem flagK_anyK (g : Int → Int → Bool) (xs ys : List Int) (k : Nat) : flagK g xs ys k = anyK (fun j => g (xs.getD j 0) (ys.getD j 0)) k := by
  induction k with
  | zero => rfl
  | succ k ih => rw [flagK, anyK, ih]
theorem scale_row {d : Int} {xs : List Int} (hd : okB d = true) (hx : vecOkB xs = true) : scaleN d xs = mapK (fun k => mulN d (xs.getD k 0)) xs.length ∧ scaleB d xs = anyK (fun k => mulB d (xs.getD k 0)) xs.length := by
  have hp : pairB xs xs = true := by rw [pairB_self]; exact hx
  unfold scaleN scaleB
  rw [hd, rowP_yes _ hp, flagP_yes _ hp, rowK_mapK, flagK_anyK]
  exact ⟨rfl, rfl⟩
/-- The rows that have come are the first k. -/
def CameK {m : Nat} (ys : List (Fin m)) (k : Nat) : Prop := ys.map (fun x => x.1) = List.range k
theorem CameK.snoc {m : Nat} {ys : List (Fin m)} {k : Nat} (h : CameK ys k) (hk : k < m) : CameK (ys ++ [⟨k, hk⟩]) (k + 1) := by
  unfold CameK at h ⊢
  rw [List.map_append, h, List.range_succ]
  rfl
theorem CameK.length {m : Nat} {ys : List (Fin m)} {k : Nat} (h : CameK ys k) : ys.length = k := by
  have := congrArg List.length h
  simpa using this
theorem CameK.mem {m : Nat} {ys : List (Fin m)} (h : CameK ys m) (x : Fin m) : x ∈ ys := by
  have hx : x.1 ∈ ys.map (fun x => x.1) := by
    rw [show ys.map (fun x => x.1) = List.range m from h]
    exact List.mem_range.2 x.2
  obtain ⟨y, hy, e⟩ := List.mem_map.1 hx
  rw [← Fin.ext e]
  exact hy
theorem mapK_range (f : Nat → Int) (k : Nat) : (List.range k).map f = mapK f k := by
  induction k with
  | zero => rfl
  | succ k ih => rw [List.range_succ, List.map_append, ih]; rfl
theorem anyK_range (g : Nat → Bool) (k : Nat) : (List.range k).any g = anyK g k := by
  induction k with
  | zero => rfl
  | succ k ih => rw [List.range_succ, List.any_append, ih]; simp [anyK]
theorem CameK.map {m : Nat} {ys : List (Fin m)} {k : Nat} (h : CameK ys k) (f : Nat → Int) : ys.map (fun x => f x.1) = mapK f k := by
  rw [← mapK_range, ← (show ys.map (fun x => x.1) = List.range k from h), List.map_map]
  rfl
theorem CameK.any {m : Nat} {ys : List (Fin m)} {k : Nat} (h : CameK ys k) (g : Nat → Bool) : ys.any (fun x => g x.1) = anyK g k := by
  rw [← anyK_range, ← (show ys.map (fun x => x.1) = List.range k from h), List.any_map]
  rfl
open Go.RowKit in
/-- Row i, where it lies. -/
theorem row_in {B : Nat} {w : World} {b o n : Nat} {xs : List Int} {m q : Nat} (h : IntsIn B w (some ⟨b, o, none⟩) n xs) (hn : n = m * q) {i : Nat} (hi : i < m) : IntsIn B w (some ⟨b, o + i * q, none⟩) q (rowOf q xs i) := by
  have hle : (i + 1) * q ≤ m * q := Nat.mul_le_mul_right q (by omega)
  have hr := h.room
  rw [Nat.succ_mul] at hle
  refine ⟨rowOf_length (r := m) (by rw [h.len, hn]) hi, by omega, fun k hk => ?_⟩
  obtain ⟨b', o', e, hb', hcell⟩ := h.cells (i * q + k) (by omega)
  cases e
  refine ⟨b, o + i * q, rfl, hb', ?_⟩
  rw [rowOf_get q xs i k hk, Nat.add_assoc]
  exact hcell
end Go.Proofs.Ytkflinobmagiiaa

end

/-! YtkflinobmagiiaaChunk -/
section

namespace Go.Proofs.Ytkflinobmagiiaa
open Go.RowKit Go.Shelf
set_option linter.unusedVariables false
attribute [local go_sem] Oper.semAt_some

/-- What a round of a loop over a table's rows keeps: what lay below n₀, and the two cells that the iterator reads. -/
def KeepB (n₀ B1 B2 : Nat) (W W' : World) : Prop := Below n₀ W W' ∧ W'.heap[B1]? = W.heap[B1]? ∧ W'.heap[B2]? = W.heap[B2]?
theorem keepB_t {n₀ B1 B2 : Nat} {A B C : World} (h : KeepB n₀ B1 B2 A B) (k : KeepB n₀ B1 B2 B C) : KeepB n₀ B1 B2 A C := ⟨h.1.trans k.1, k.2.1.trans h.2.1, k.2.2.trans h.2.2⟩
theorem keepB_b {n₀ B1 B2 : Nat} {w : World} (hn : n₀ ≤ w.heap.size) (h1 : B1 < w.heap.size) (h2 : B2 < w.heap.size) (W : World) (l : Nat) (o o' : Obj) (hl : w.heap.size ≤ l) (h : W.heap[l]? = some o) (hc : o.isCells = false) (hw : o.isWalk = false) : KeepB n₀ B1 B2 W (W.putObj l o') :=
  ⟨belowK_b hn W l o o' hl h hc hw, World.putObj_heap_other (by omega), World.putObj_heap_other (by omega)⟩

/-- The rows, as the iterator hands them over. -/
def rowEnc (b o q : Nat) (m : Nat) (x : Fin m) : Array Value := #[.slice (some ⟨b, o + x.1 * q, none⟩) q q]
theorem marks_ret {F : Fence} {n : Nat} {P : Program} {fn : Func} {R : Ending → World → Prop} {a : Act} {w : World} {v : Value} (hd : a.defers = []) (hr : (results fn a.tmps).run P w = .ok v w) (hR : R (.returned v) w) : bodyPostM F n P fn R .ret a w := by
  show LeavesInM F n P fn a.tmps R a.defers .returning w
  rw [hd]
  exact ⟨v, hr, hR⟩
theorem marks_ret1 {F : Fence} {n : Nat} {P : Program} {fn : Func} {R : Ending → World → Prop} {a : Act} {w : World} {v : Value} {D : Nat} (hd : a.defers = [{ target := .collected D, args := #[] }]) (hK : w.heap[D]? = some (.deferred (some [])))
    (hr : (results fn a.tmps).run P (w.putObj D (.deferred none)) = .ok v (w.putObj D (.deferred none))) (hR : R (.returned v) (w.putObj D (.deferred none))) : bodyPostM F n P fn R .ret a w := by
  show LeavesInM F n P fn a.tmps R a.defers .returning w
  rw [hd]
  exact ⟨by simp, .inl ⟨D, _, rfl, run_takeDeferred hK, v, hr, hR⟩⟩
theorem boxed_put {W : World} {B D : Nat} {t : TypeId} {v : Value} (h : Boxed W B t v) (hne : B ≠ D) (o : Obj) : Boxed (W.putObj D o) B t v := (World.putObj_heap_other hne).trans h
theorem below_put {n₀ D : Nat} {W0 W : World} {o : Obj} (h : Below n₀ W0 W) (hD : n₀ ≤ D) (hK : W.heap[D]? = some o) (o' : Obj) : Below n₀ W0 (W.putObj D o') :=
  h.grown (grownBy_putObj' W D o') (by have := (Array.getElem?_eq_some_iff.1 hK).1; omega) (fun k e => by cases e; exact hD)
theorem results_bool {P : Program} {fn : Func} {p : Tmp} {ty : TypeId} (h : fn.results = #[.cell p ty]) (tmps : Array Value) (w : World) (g : Nat) (t : TypeId) (x : Bool) (hp : tmps.getD p undef = .pointer (some ⟨g, 0, none⟩)) (hb : Boxed w g t (.bool x)) (hu : P.underlying ty = some .bool) :
    (results fn tmps).run P w = .ok (.bool x) w := by
  have hp' : tmps[p]?.getD undef = .pointer (some ⟨g, 0, none⟩) := by simpa using hp
  have hc := hb.cell
  simp [results, h, hp', asAddr, loadVar, isAgg, run_underlying hu, hc, go_sem]
end Go.Proofs.Ytkflinobmagiiaa

end
