/-
  Pipes: the model's Done and Next.
-/
import Derived.Test.YtcooobnaocbdjaaPipS
import Derived.Test.YtcooobnaocbdjaaPlanA
namespace Go.Proofs.Ytcooobnaocbdjaa
open Go.RowKit Go.Sort
set_option linter.unusedVariables false
set_option linter.unusedSimpArgs false

set_option maxRecDepth 100000 in
set_option maxHeartbeats 3200000 in
theorem specDone_d (w : World) (es : List Value) (p : dPipe) (h : shPipe.reads (Under w.heap.size) w es p) (hb : shPipe.bulk p ≤ 1048576) :
    Calls Try.prog 16 #[.agg es.toArray] w fun e w' => e = .returned (.bool (doneB p)) ∧ Below w.heap.size w w' := by
  obtain ⟨a0, n0, c0, a1, n1, c1, a2, n2, c2, a3, n3, c3, rfl, -, ⟨m1, l1, -⟩, -, -⟩ := pipe_in h hb
  have hal := (Below.refl w.heap.size w).alloc (Nat.le_refl _) (.cells #[.slice a0 n0 c0, .slice a1 n1 c1, .slice a2 n2 c2, .slice a3 n3 c3] 35 (0, 0))
  have hb0 := heap_alloc_new w (.cells #[.slice a0 n0 c0, .slice a1 n1 c1, .slice a2 n2 c2, .slice a3 n3 c3] 35 (0, 0))
  obtain ⟨V, hV⟩ : ∃ V, leftN p = V := ⟨_, rfl⟩
  have HC := Lib.hid (hV ▸ specLeft_d _ _ p (shPipe.le (shPipe.below h hal (Nat.le_refl _)) hal.size) hb)
  have HA := Lib.hid hal
  have HB0 := Lib.hid hb0
  have hR : doneB p = (decide (0 < n1) && decide (V = 0)) := by unfold doneB; rw [hV, l1.1]
  rw [hR]
  clear h hb hV hR hal hb0 l1
  by_cases h0 : 0 < n1
  · rw [decide_eq_true h0, Bool.true_and]
    go_enter Try.func16, Try.ntmps16
    go_upto_region 1 with fail
    generalize w.alloc (.cells #[.slice a0 n0 c0, .slice a1 n1 c1, .slice a2 n2 c2, .slice a3 n3 c3] 35 (0, 0)) = wa at HA HB0 HC ⊢
    obtain ⟨z0, z1, z2, z3⟩ := boxp HB0.out
    go_wp2_with fail
    refine HC.out.mono ?_
    rintro e w' ⟨rfl, hb⟩
    have HB := Lib.hid (HA.out.trans (hb.mono HA.out.size))
    clear hb
    go_wp2_with fail
    go_ret
    exact ⟨rfl, HB.out⟩
  · have hd : decide ((n1 : Int) > 0) = false := decide_eq_false (by omega)
    rw [decide_eq_false h0, Bool.false_and]
    go_enter Try.func16, Try.ntmps16
    go_upto_region 1 with fail
    generalize w.alloc (.cells #[.slice a0 n0 c0, .slice a1 n1 c1, .slice a2 n2 c2, .slice a3 n3 c3] 35 (0, 0)) = wa at HA HB0 HC ⊢
    obtain ⟨z0, z1, z2, z3⟩ := boxp HB0.out
    go_wp2_with fail
    go_ret
    exact ⟨rfl, HA.out⟩
/-- What one stage has planned at a place. -/
theorem plan_at {I : Nat → Prop} {w : World} {a : Option Addr} {n : Nat} {l : List dIns} (h : ListAt shIns I w a n l) (j : Nat) (hj : j < n) :
    ∃ b o, a = some ⟨b, o, none⟩ ∧ I b ∧ w.cell? ⟨b, o + j * 2, none⟩ = some (.int .i64 (l.getD j (0, 0)).1) ∧ w.cell? ⟨b, o + j * 2 + 1, none⟩ = some (.int .i64 (l.getD j (0, 0)).2) := by
  obtain ⟨x, hx⟩ : ∃ x, l[j]? = some x := ⟨_, List.getElem?_eq_getElem (by rw [h.1]; exact hj)⟩
  obtain ⟨b, o, es, e, hb, hr, hs⟩ := h.2 j x hx
  have hxe : l.getD j (0, 0) = x := by rw [List.getD_eq_getElem?_getD, hx]; rfl
  obtain ⟨_, _, rfl, rfl, rfl⟩ := hs
  rw [hxe]
  refine ⟨b, o, e, hb, ?_, ?_⟩
  · have := hr 0 _ rfl
    simpa [shIns_size] using this
  · have := hr 1 _ rfl
    simpa [shIns_size] using this
set_option maxRecDepth 100000 in
set_option maxHeartbeats 3200000 in
theorem specNext_d (w : World) (es : List Value) (p : dPipe) (h : shPipe.reads (Under w.heap.size) w es p) (hb : shPipe.bulk p ≤ 1048576) (s : Int) :
    Calls Try.prog 9 #[.agg es.toArray, .int .i64 s] w fun e w' => e = .returned (.agg #[.int .i64 (nextN p s).1, .int .i64 (nextN p s).2]) ∧ Below w.heap.size w w' := by
  obtain ⟨a0, n0, c0, a1, n1, c1, a2, n2, c2, a3, n3, c3, rfl, -, ⟨m1, l1, -⟩, -, -⟩ := pipe_in h hb
  have hal := ((Below.refl w.heap.size w).alloc (Nat.le_refl _) (.cells #[.slice a0 n0 c0, .slice a1 n1 c1, .slice a2 n2 c2, .slice a3 n3 c3] 35 (0, 0))).alloc (by simp) (.cells #[.int .i64 0, .int .i64 0] 29 (0, 0))
  have hA : ((w.alloc (.cells #[.slice a0 n0 c0, .slice a1 n1 c1, .slice a2 n2 c2, .slice a3 n3 c3] 35 (0, 0))).alloc (.cells #[.int .i64 0, .int .i64 0] 29 (0, 0))).heap[w.heap.size]? = some (.cells #[.slice a0 n0 c0, .slice a1 n1 c1, .slice a2 n2 c2, .slice a3 n3 c3] 35 (0, 0)) := by
    rw [Below.heap_alloc _ _ _ (by simp)]
    exact heap_alloc_new w _
  have hC : ((w.alloc (.cells #[.slice a0 n0 c0, .slice a1 n1 c1, .slice a2 n2 c2, .slice a3 n3 c3] 35 (0, 0))).alloc (.cells #[.int .i64 0, .int .i64 0] 29 (0, 0))).heap[w.heap.size + 1]? = some (.cells #[.int .i64 0, .int .i64 0] 29 (0, 0)) := by
    have := heap_alloc_new (w.alloc (.cells #[.slice a0 n0 c0, .slice a1 n1 c1, .slice a2 n2 c2, .slice a3 n3 c3] 35 (0, 0))) (.cells #[.int .i64 0, .int .i64 0] 29 (0, 0))
    simpa using this
  have HA := Lib.hid hal
  have HBA := Lib.hid hA
  have HBC := Lib.hid hC
  have HL := Lib.hid (l1.below hal (Nat.le_refl _))
  obtain ⟨l, hl⟩ : ∃ l, stagesP p = l := ⟨_, rfl⟩
  rw [hl] at HL
  have hn : n1 = l.length := by rw [← hl]; exact l1.1.symm
  have HNX : Hid (nextN p s = if inB 0 ((n1 : Int) - 1) s = true then nextS (stageAt p s.toNat) else (0, 0)) := Lib.hid (by unfold nextN; rw [hl, hn])
  have HPL := Lib.hid hl
  clear h hb hal hA hC l1 hn hl
  obtain ⟨N1, hN1⟩ : ∃ N1 : Int, (n1 : Int) - 1 = N1 := ⟨_, rfl⟩
  have hw1 : wrap64 ((n1 : Int) - 1) = N1 := by rw [IntWalk.wrap64_in _ (by omega)]; exact hN1
  have hw2 : IntKind.i64.wrap ((n1 : Int) - 1) = N1 := by rw [IntKind.wrap_i64]; omega
  rw [hN1] at HNX
  obtain ⟨q, hq⟩ : ∃ q, inB 0 N1 s = q := ⟨_, rfl⟩
  have H1 : Hid (∀ wx : World, Calls Try.prog 29 #[.int .i64 s, .int .i64 0, .int .i64 N1] wx fun e w' => e = .returned (.bool q) ∧ wx = w') := Lib.hid fun wx => by
    rw [← hq]
    exact l1In_any s 0 N1 wx
  have HQ := Lib.hid hq
  have HN1 := Lib.hid hN1
  rw [hq] at HNX
  clear hq hN1
  cases q
  · have hne : nextN p s = (0, 0) := by rw [HNX.out]; rfl
    rw [hne]
    clear hne
    have H2 := H1
    go_enter Try.func9, Try.ntmps9
    go_upto_region 1 with fail
    generalize ((w.alloc (.cells #[.slice a0 n0 c0, .slice a1 n1 c1, .slice a2 n2 c2, .slice a3 n3 c3] 35 (0, 0))).alloc (.cells #[.int .i64 0, .int .i64 0] 29 (0, 0))) = wa at HA HBA HBC HL ⊢
    obtain ⟨z0, z1, z2, z3⟩ := boxp HBA.out
    go_quiet ((go_at_call 29; first | (with_reducible refine Calls.quiet_of_same ((H1.out _).mono fun e w' ⟨he, hw⟩ => ⟨he, hw.symm⟩)) | (with_reducible refine Calls.quiet_of_same ((H2.out _).mono fun e w' ⟨he, hw⟩ => ⟨he, hw.symm⟩))))
    have hbn := below_drewN HA.out nq
    have k0 : (wa.drewN nq).heap[w.heap.size]? = _ := HBA.out
    have k1 : (wa.drewN nq).heap[w.heap.size + 1]? = _ := HBC.out
    have HBN := Lib.hid hbn
    have K0 := Lib.hid k0
    have K1 := Lib.hid k1
    clear hbn k0 k1
    generalize wa.drewN nq = wn at HBN K0 K1 ⊢
    obtain ⟨y0, y1⟩ := boxi K1.out
    have f0 : wn.frozen? ⟨w.heap.size + 1, 0, none⟩ = false := frozen_of_row _ _ _ _ _ K1.out
    have f1 : wn.frozen? ⟨w.heap.size + 1, 1, none⟩ = false := frozen_of_row _ _ _ _ _ K1.out
    go_wp2_with fail
    refine bodyPost_ret (results_cell_row rfl _ _ (w.heap.size + 1) 29 #[.int .i64 0, .int .i64 0] (0, 0) _ rfl (store2 K1.out _ _) Try.underlying29 rfl (by kernel_rfl)) rfl ?_
    exact ⟨rfl, (HBN.out.setCell (p := ⟨w.heap.size + 1, 0, none⟩) (by show w.heap.size ≤ w.heap.size + 1; omega) _).setCell (p := ⟨w.heap.size + 1, 1, none⟩) (by show w.heap.size ≤ w.heap.size + 1; omega) _⟩
  · have hsr := of_decide_eq_true HQ.out
    obtain ⟨k, rfl⟩ : ∃ k : Nat, s = (k : Int) := ⟨s.toNat, by omega⟩
    have hk : k < n1 := by have := HN1.out; omega
    have wk : IntKind.i64.wrap (k : Int) = (k : Int) := by rw [IntKind.wrap_i64]; omega
    obtain ⟨b, o, x, ax, nx, cx, hx, rfl, hbB, d0, d1, p1, p2, lx⟩ := stage_pc HL.out k hk
    have hst : nextN p (k : Int) = nextS x := by rw [HNX.out, if_pos rfl, Int.toNat_natCast, stageAt_get (by rw [HPL.out]; exact hx)]
    rw [hst]
    obtain ⟨M, hM⟩ : ∃ M, pcS x = M := ⟨_, rfl⟩
    rw [hM] at d0
    obtain ⟨X1, hX1⟩ : ∃ X1 : Int, (nx : Int) - 1 = X1 := ⟨_, rfl⟩
    have hw3 : wrap64 ((nx : Int) - 1) = X1 := by rw [IntWalk.wrap64_in _ (by omega)]; exact hX1
    have hw4 : IntKind.i64.wrap ((nx : Int) - 1) = X1 := by rw [IntKind.wrap_i64]; omega
    obtain ⟨q, hq⟩ : ∃ q, inB 0 X1 M = q := ⟨_, rfl⟩
    have H2 : Hid (∀ wx : World, Calls Try.prog 29 #[.int .i64 M, .int .i64 0, .int .i64 X1] wx fun e w' => e = .returned (.bool q) ∧ wx = w') := Lib.hid fun wx => by
      rw [← hq]
      exact l1In_any M 0 X1 wx
    have hsx : nextS x = if q = true then (planS x).getD M.toNat (0, 0) else (0, 0) := by unfold nextS; rw [lx.1, hM, hX1, hq]
    have HQ2 := Lib.hid hq
    have HX1 := Lib.hid hX1
    have HSX := Lib.hid hsx
    have HLX := Lib.hid lx
    have HD0 := Lib.hid d0
    have HD1 := Lib.hid d1
    have HBB := Lib.hid hbB
    have HP := Lib.hid (Nat.le_trans p1 p2)
    clear hx hst hM hX1 hq hsx lx hsr p1 p2 HNX d0 d1 hbB
    cases q
    · have hne : nextS x = (0, 0) := by rw [HSX.out]; rfl
      rw [hne]
      clear hne
      go_enter Try.func9, Try.ntmps9
      go_upto_region 1 with fail
      generalize ((w.alloc (.cells #[.slice a0 n0 c0, .slice (some ⟨b, o, none⟩) n1 c1, .slice a2 n2 c2, .slice a3 n3 c3] 35 (0, 0))).alloc (.cells #[.int .i64 0, .int .i64 0] 29 (0, 0))) = wa at HA HBA HBC HL HD0 HD1 ⊢
      obtain ⟨z0, z1, z2, z3⟩ := boxp HBA.out
      have d0 := HD0.out
      have d1 := HD1.out
      go_quiet ((go_at_call 29; first | (with_reducible refine Calls.quiet_of_same ((H1.out _).mono fun e w' ⟨he, hw⟩ => ⟨he, hw.symm⟩)) | (with_reducible refine Calls.quiet_of_same ((H2.out _).mono fun e w' ⟨he, hw⟩ => ⟨he, hw.symm⟩))))
      have hbn := below_drewN HA.out nq
      have k0 : (wa.drewN nq).heap[w.heap.size]? = _ := HBA.out
      have k1 : (wa.drewN nq).heap[w.heap.size + 1]? = _ := HBC.out
      have HBN := Lib.hid hbn
      have K0 := Lib.hid k0
      have K1 := Lib.hid k1
      clear hbn k0 k1
      generalize wa.drewN nq = wn at HBN K0 K1 ⊢
      obtain ⟨y0, y1⟩ := boxi K1.out
      have f0 : wn.frozen? ⟨w.heap.size + 1, 0, none⟩ = false := frozen_of_row _ _ _ _ _ K1.out
      have f1 : wn.frozen? ⟨w.heap.size + 1, 1, none⟩ = false := frozen_of_row _ _ _ _ _ K1.out
      go_wp2_with fail
      refine bodyPost_ret (results_cell_row rfl _ _ (w.heap.size + 1) 29 #[.int .i64 0, .int .i64 0] (0, 0) _ rfl (store2 K1.out _ _) Try.underlying29 rfl (by kernel_rfl)) rfl ?_
      exact ⟨rfl, (HBN.out.setCell (p := ⟨w.heap.size + 1, 0, none⟩) (by show w.heap.size ≤ w.heap.size + 1; omega) _).setCell (p := ⟨w.heap.size + 1, 1, none⟩) (by show w.heap.size ≤ w.heap.size + 1; omega) _⟩
    · have hsr := of_decide_eq_true HQ2.out
      obtain ⟨j, rfl⟩ : ∃ j : Nat, M = (j : Int) := ⟨M.toNat, by omega⟩
      have hj : j < nx := by have := HX1.out; omega
      have hne : nextS x = (planS x).getD j (0, 0) := by rw [HSX.out, if_pos rfl, Int.toNat_natCast]
      rw [hne]
      obtain ⟨b', o', rfl, hbB', f0, f1⟩ := plan_at HLX.out j hj
      obtain ⟨U, hU⟩ : ∃ U, ((planS x).getD j (0, 0)).1 = U := ⟨_, rfl⟩
      obtain ⟨V, hV⟩ : ∃ V, ((planS x).getD j (0, 0)).2 = V := ⟨_, rfl⟩
      rw [hU, hV]
      rw [hU] at f0
      rw [hV] at f1
      have HF0 := Lib.hid f0
      have HF1 := Lib.hid f1
      have HBB' := Lib.hid hbB'
      have wj : IntKind.i64.wrap (j : Int) = (j : Int) := by rw [IntKind.wrap_i64]; have := HP.out; omega
      clear hne hU hV hsr f0 f1 hbB'
      go_enter Try.func9, Try.ntmps9
      go_upto_region 1 with fail
      generalize ((w.alloc (.cells #[.slice a0 n0 c0, .slice (some ⟨b, o, none⟩) n1 c1, .slice a2 n2 c2, .slice a3 n3 c3] 35 (0, 0))).alloc (.cells #[.int .i64 0, .int .i64 0] 29 (0, 0))) = wa at HA HBA HBC HL HD0 HD1 HF0 HF1 ⊢
      obtain ⟨z0, z1, z2, z3⟩ := boxp HBA.out
      have d0 := HD0.out
      have d1 := HD1.out
      go_quiet ((go_at_call 29; first | (with_reducible refine Calls.quiet_of_same ((H1.out _).mono fun e w' ⟨he, hw⟩ => ⟨he, hw.symm⟩)) | (with_reducible refine Calls.quiet_of_same ((H2.out _).mono fun e w' ⟨he, hw⟩ => ⟨he, hw.symm⟩))))
      have hbn := below_drewN HA.out nq
      have k0 : (wa.drewN nq).heap[w.heap.size]? = _ := HBA.out
      have k1 : (wa.drewN nq).heap[w.heap.size + 1]? = _ := HBC.out
      have HBN := Lib.hid hbn
      have K0 := Lib.hid k0
      have K1 := Lib.hid k1
      clear hbn k0 k1
      have hd0 : (wa.drewN nq).cell? ⟨b, o + k * 14, none⟩ = _ := HD0.out
      have hd1 : (wa.drewN nq).cell? ⟨b, o + k * 14 + 1, none⟩ = _ := HD1.out
      have hg0 : (wa.drewN nq).cell? ⟨b', o' + j * 2, none⟩ = _ := HF0.out
      have hg1 : (wa.drewN nq).cell? ⟨b', o' + j * 2 + 1, none⟩ = _ := HF1.out
      clear d0 d1 z0 z1 z2 z3
      generalize wa.drewN nq = wn at HBN K0 K1 hd0 hd1 hg0 hg1 ⊢
      obtain ⟨z0, z1, z2, z3⟩ := boxp K0.out
      go_upto_region 3 with fail
      obtain ⟨y0, y1⟩ := boxi K1.out
      have f0 : wn.frozen? ⟨w.heap.size + 1, 0, none⟩ = false := frozen_of_row _ _ _ _ _ K1.out
      have f1 : wn.frozen? ⟨w.heap.size + 1, 1, none⟩ = false := frozen_of_row _ _ _ _ _ K1.out
      go_region
      go_wp2_with fail
      refine bodyPost_ret (results_cell_row rfl _ _ (w.heap.size + 1) 29 #[.int .i64 U, .int .i64 V] (0, 0) _ rfl (store2 (by exact K1.out) _ _) Try.underlying29 rfl (by kernel_rfl)) rfl ?_
      exact ⟨rfl, ((below_drewN HBN.out _).setCell (p := ⟨w.heap.size + 1, 0, none⟩) (by show w.heap.size ≤ w.heap.size + 1; omega) _).setCell (p := ⟨w.heap.size + 1, 1, none⟩) (by show w.heap.size ≤ w.heap.size + 1; omega) _⟩
end Go.Proofs.Ytcooobnaocbdjaa
