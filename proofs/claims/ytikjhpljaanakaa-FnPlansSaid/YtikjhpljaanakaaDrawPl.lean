/-
  Plans, drawn.
-/
import Derived.Test.YtikjhpljaanakaaPlanD
import Derived.Test.YtikjhpljaanakaaLaws
import Derived.Deep.QuietTactic
import Derived.BigQuiet
namespace Go.Proofs.Ytikjhpljaanakaa
open Go.RowKit Go.Sort
set_option linter.unusedVariables false
set_option linter.unusedSimpArgs false

theorem results_tmp5 {fn : Func} {a b c d e : Tmp} (h : fn.results = #[.tmp a, .tmp b, .tmp c, .tmp d, .tmp e]) (tmps : Array Value) (P : Program) (w : World) :
    (results fn tmps).run P w = .ok (.tuple #[tmps.getD a undef, tmps.getD b undef, tmps.getD c undef, tmps.getD d undef, tmps.getD e undef]) w := by
  simp [results, h]
/-- Five were drawn. -/
def Drew5 (B : Nat) (w : World) (C : Nat) (e : Ending) (w' : World) : Prop := ∃ (ds n s m : Int) (r : Bool), e = .returned (.tuple #[.int .i64 ds, .int .i64 n, .int .i64 s, .int .i64 m, .bool r]) ∧ Turned B w w' C
set_option maxRecDepth 100000 in
set_option maxHeartbeats 3200000 in
theorem l9Some_e (B : Nat) (w : World) (C : Nat) (hc : Cu B w C) :
    Calls Try.prog 27 #[.pointer (some ⟨C, 0, none⟩)] w (Drew5 B w C) := by
  go_enter Try.func27, Try.ntmps27
  go_wp2_with fail
  refine (l1Below_e B _ C 2 (by omega) hc).mono ?_
  rintro e w1 ⟨d, rfl, ⟨d0, d1⟩, ht1⟩
  have T1 := Lib.hid ht1
  clear ht1
  go_wp2_with fail
  refine (l1Below_e B _ C 4 (by omega) T1.out.cu).mono ?_
  rintro e w2 ⟨n, rfl, ⟨n0, n1⟩, ht2⟩
  have T2 := Lib.hid (T1.out.trans ht2)
  clear ht2
  obtain ⟨n', hn'⟩ : ∃ n', 1 + n = n' := ⟨_, rfl⟩
  have hn0 : 0 < n' := by omega
  go_wp2_with fail
  refine (l1Below_e B _ C n' hn0 T2.out.cu).mono ?_
  rintro e w3 ⟨s, rfl, ⟨s0, s1⟩, ht3⟩
  have T3 := Lib.hid (T2.out.trans ht3)
  clear ht3
  go_wp2_with fail
  refine (l1Below_e B _ C 5 (by omega) T3.out.cu).mono ?_
  rintro e w4 ⟨m, rfl, ⟨m0, m1⟩, ht4⟩
  have T4 := Lib.hid (T3.out.trans ht4)
  clear ht4
  go_wp2_with fail
  refine (l1Once_e B _ C 2 T4.out.cu).mono ?_
  rintro e w5 ⟨r, rfl, ht5⟩
  have T5 := Lib.hid (T4.out.trans ht5)
  clear ht5
  go_wp2_with fail
  refine (l1Below_e B _ C 16 (by omega) T5.out.cu).mono ?_
  rintro e w6 ⟨k, rfl, ⟨k0, k1⟩, ht6⟩
  have T6 := Lib.hid (T5.out.trans ht6)
  have hlt6 := ht6.cu.lt
  clear ht6
  by_cases e0 : k = 0
  · subst e0
    go_wp2_with fail
    refine (l1PickInt_e B _ C w6.heap.size 2 [0, 3] (fun _ => True) rfl (by omega) (by omega) (fun _ _ => trivial) (T6.out.cu.alloc _) (by omega) (fun j hj => ints_cells w6 _ _ j hj)).mono ?_
    rintro e w7 ⟨y, rfl, -, ht7⟩
    have T7 := Lib.hid ((T6.out.alloc _).trans ht7)
    clear ht7
    go_wp2_with fail
    refine bodyPost_ret (results_tmp5 rfl _ _ _) rfl ?_
    exact ⟨_, _, _, _, _, rfl, T7.out⟩
  · have t0 : (k == 0) = false := by simpa using e0
    by_cases e1 : k = 1
    · subst e1
      go_wp2_with fail
      refine (l1PickInt_e B _ C w6.heap.size 2 [0, 5] (fun _ => True) rfl (by omega) (by omega) (fun _ _ => trivial) (T6.out.cu.alloc _) (by omega) (fun j hj => ints_cells w6 [0, 5] _ j hj)).mono ?_
      rintro e w7 ⟨y, rfl, -, ht7⟩
      have T7 := Lib.hid ((T6.out.alloc _).trans ht7)
      clear ht7
      go_wp2_with fail
      refine bodyPost_ret (results_tmp5 rfl _ _ _) rfl ?_
      exact ⟨_, _, _, _, _, rfl, T7.out⟩
    · have t1 : (k == 1) = false := by simpa using e1
      by_cases e2 : k = 2
      · subst e2
        go_wp2_with fail
        refine (l1PickInt_e B _ C w6.heap.size 2 [-1, n'] (fun _ => True) rfl (by omega) (by omega) (fun _ _ => trivial) (T6.out.cu.alloc _) (by omega) (fun j hj => ints_cells w6 [-1, n'] _ j hj)).mono ?_
        rintro e w7 ⟨y, rfl, -, ht7⟩
        have T7 := Lib.hid ((T6.out.alloc _).trans ht7)
        clear ht7
        go_wp2_with fail
        refine bodyPost_ret (results_tmp5 rfl _ _ _) rfl ?_
        exact ⟨_, _, _, _, _, rfl, T7.out⟩
      · have t2 : (k == 2) = false := by simpa using e2
        by_cases e3 : k = 3
        · subst e3
          go_wp2_with fail
          refine (l1PickInt_e B _ C w6.heap.size 2 [0, 6] (fun _ => True) rfl (by omega) (by omega) (fun _ _ => trivial) (T6.out.cu.alloc _) (by omega) (fun j hj => ints_cells w6 [0, 6] _ j hj)).mono ?_
          rintro e w7 ⟨y, rfl, -, ht7⟩
          have T7 := Lib.hid ((T6.out.alloc _).trans ht7)
          clear ht7
          go_wp2_with fail
          refine bodyPost_ret (results_tmp5 rfl _ _ _) rfl ?_
          exact ⟨_, _, _, _, _, rfl, T7.out⟩
        · have t3 : (k == 3) = false := by simpa using e3
          go_wp2_with fail
          refine bodyPost_ret (results_tmp5 rfl _ _ _) rfl ?_
          exact ⟨_, _, _, _, _, rfl, T6.out⟩

/-- A plan's five. -/
def DrewP (w : World) (e : Ending) (w' : World) : Prop := ∃ (ds n s m : Int) (r : Bool), e = .returned (.tuple #[.int .i64 ds, .int .i64 n, .int .i64 s, .int .i64 m, .bool r]) ∧ Below w.heap.size w w'
set_option maxRecDepth 100000 in
theorem drawPlan_e (w : World) (a : Option Addr) (cap : Nat) (bs : List UInt8) (hc : CodeIn w.heap.size w a bs) :
    Calls Try.prog 10 #[.slice a bs.length cap] w (DrewP w) := by
  have HC := Lib.hid hc
  clear hc
  go_enter Try.func10, Try.ntmps10
  go_wp2_with fail
  refine (l1New_e _ a cap bs HC.out).mono ?_
  rintro e w1 ⟨rfl, hcu, hg1⟩
  have HT1 := Lib.hid ((Below.refl w.heap.size w).grown hg1 (Nat.le_refl _) (fun k h => by cases h))
  go_wp2_with fail
  refine (l9Some_e _ _ _ hcu).mono ?_
  rintro e w2 ⟨ds, n, s, m, r, rfl, ht2⟩
  have HT2 := Lib.hid (HT1.out.trans (ht2.below HT1.out.size (Nat.le_refl _)))
  clear hcu hg1 ht2
  go_wp2_with fail
  refine bodyPost_ret (results_tmp5 rfl _ _ _) rfl ?_
  exact ⟨_, _, _, _, _, rfl, HT2.out⟩

/-- A row of instructions and a plan's other four. -/
def DrewPL (w : World) (e : Ending) (w' : World) : Prop := ∃ (a : Option Addr) (k c : Nat) (xs : List dTwo) (n s m : Int) (r : Bool), e = .returned (.tuple #[.slice a k c, .int .i64 n, .int .i64 s, .int .i64 m, .bool r]) ∧ (k ≤ c ∧ c ≤ 9223372036854775807) ∧ TwoIn w'.heap.size w' a k xs ∧ Below w.heap.size w w'
theorem TwoR.drewPL {T : TypeId} {base : Nat} {w w' : World} {v : Value} {xs : List dTwo} (h : TwoR T base w' v xs) (hl : xs.length ≤ 100) (n s m : Int) (r : Bool) (hb : Below w.heap.size w w') : DrewPL w (.returned (.tuple #[v, .int .i64 n, .int .i64 s, .int .i64 m, .bool r])) w' := by
  obtain ⟨a, c, rfl, h1, h2, h3⟩ := h.form
  exact ⟨a, _, c, xs, n, s, m, r, rfl, ⟨h1, h2⟩, h3 (by omega), hb⟩
set_option maxRecDepth 100000 in
set_option maxHeartbeats 3200000 in
theorem drawPlanOk_e (w : World) (a : Option Addr) (cap : Nat) (bs : List UInt8) (hc : CodeIn w.heap.size w a bs) :
    Calls Try.prog 13 #[.slice a bs.length cap] w (DrewPL w) := by
  have HC := Lib.hid hc
  clear hc
  go_enter Try.func13, Try.ntmps13
  go_wp2_with fail
  refine (l1New_e _ a cap bs HC.out).mono ?_
  rintro e w1 ⟨rfl, hcu, hg1⟩
  have HT1 := Lib.hid ((Below.refl w.heap.size w).grown hg1 (Nat.le_refl _) (fun k h => by cases h))
  go_wp2_with fail
  refine (l9Some_e _ _ _ hcu).mono ?_
  rintro e w2 ⟨ds, n, s, m, r, rfl, ht2⟩
  have HT2 := Lib.hid (HT1.out.trans (ht2.below HT1.out.size (Nat.le_refl _)))
  have C2 := Lib.hid ht2.cu
  have hlt2 := ht2.cu.lt
  have hln := planL_length ds n s m r
  have HP := Lib.hid (specPlan_any w2 ds n s m r)
  obtain ⟨xs, hxs⟩ : ∃ xs, planL ds n s m r = xs := ⟨_, rfl⟩
  rw [hxs] at hln HP
  clear hcu hg1 ht2 hxs
  go_wp2_with fail
  refine HP.out.mono ?_
  rintro e w3 ⟨v3, rfl, hr, hb⟩
  have HT3 := Lib.hid (HT2.out.trans (hb.mono HT2.out.size))
  have C3 := Lib.hid (C2.out.below hb)
  have R3 := Lib.hid hr
  obtain ⟨N, hN⟩ : ∃ N, xs.length = N := ⟨_, rfl⟩
  obtain ⟨a3, c3, e3, -⟩ := hr.form
  subst e3
  rw [hN] at hln hr ⊢
  have HN := Lib.hid hN
  have R3 := Lib.hid hr
  clear hr hb HP hN
  by_cases hN2 : 2 < N
  · have hd2 : decide ((N : Int) > 2) = true := decide_eq_true (by omega)
    have hs3 := HT3.out.size
    go_wp2_with fail
    refine (l1Once_e _ _ _ 3 C3.out).mono ?_
    rintro e w4 ⟨p, rfl, ht4⟩
    have hne : ∀ v : Value, (∀ k, v.ownBlock = some k → w2.heap.size ≤ k) → v.ownBlock = none ∨ v.ownBlock ≠ some w.heap.size := fun v hv => by
      cases e : v.ownBlock with
      | none => exact .inl rfl
      | some k => exact .inr fun e2 => by cases e2; have := hv _ e; omega
    have R4 := Lib.hid (R3.out.kept ht4.2 (hne _ fun k hk => (R3.out.lt k hk).1))
    have HT4 := Lib.hid (HT3.out.trans (ht4.below hs3 (Nat.le_refl _)))
    have C4 := Lib.hid ht4.cu
    clear ht4
    cases p
    · go_wp2_with fail
      refine bodyPost_ret (results_tmp5 rfl _ _ _) rfl ?_
      exact TwoR.drewPL R4.out (by have := HN.out; omega) _ _ _ _ HT4.out
    · obtain ⟨L, hL⟩ : ∃ L, (N : Int) - 1 = L := ⟨_, rfl⟩
      have hL0 : 0 < L := by omega
      go_wp2_with fail
      refine (l1Below_e _ _ _ L hL0 C4.out).mono ?_
      rintro e w5 ⟨q, rfl, ⟨q0, q1⟩, ht5⟩
      have R5 := Lib.hid (R4.out.kept ht5.2 (hne _ fun k hk => (R4.out.lt k hk).1))
      have HT5 := Lib.hid (HT4.out.trans (ht5.below HT4.out.size (Nat.le_refl _)))
      obtain ⟨Q, rfl⟩ : ∃ Q : Nat, q = (Q : Int) := ⟨q.toNat, by omega⟩
      have hQ : Q + 1 < N := by omega
      clear ht5 hL R4 R3 C4 C3 C2 hne
      have h5 : w5.ownsRow w2.heap.size 54 2 (.slice a3 N c3) xs.length (tcells xs) := R5.out
      rcases h5.2 with ⟨e, hn⟩ | ⟨g, cap', cur, e, hg0, -⟩
      · have := HN.out
        omega
      · simp only [Value.slice.injEq] at e
        obtain ⟨rfl, -, rfl⟩ := e
        rw [HN.out] at h5
        obtain ⟨X, hX⟩ : ∃ X, X = xs.getD Q (0, 0) := ⟨_, rfl⟩
        obtain ⟨Y, hY⟩ : ∃ Y, Y = xs.getD (Q + 1) (0, 0) := ⟨_, rfl⟩
        have x0 := h5.cellAt (Q * 2) (by omega)
        have x1 := h5.cellAt (Q * 2 + 1) (by omega)
        have y0 := h5.cellAt ((Q + 1) * 2) (by omega)
        have y1 := h5.cellAt ((Q + 1) * 2 + 1) (by omega)
        rw [tcells_get0 _ _ (by have := HN.out; omega)] at x0 y0
        rw [tcells_get1 _ _ (by have := HN.out; omega)] at x1 y1
        rw [← hX] at x0 x1
        rw [← hY] at y0 y1
        obtain ⟨X1, X2⟩ := X
        obtain ⟨Y1, Y2⟩ := Y
        dsimp only at x0 x1 y0 y1
        have f0 := h5.frozenAt (Q * 2)
        have f1 := h5.frozenAt (Q * 2 + 1)
        have f2 := h5.frozenAt ((Q + 1) * 2)
        have f3 := h5.frozenAt ((Q + 1) * 2 + 1)
        have H5 := Lib.hid h5
        have hglt := (World.ownsRow.lt h5 g rfl).2
        have HX := Lib.hid hX
        have HY := Lib.hid hY
        clear h5 hX hY R5 cur
        go_upto_region 7 with fail
        clear x0 x1 y0 y1 f0 f1 f2 f3
        have HA := Lib.hid (H5.out.alloc (.cells #[.int .i64 X1, .int .i64 X2] 54 (0, 0)))
        have HBX := Lib.hid (heap_alloc_new w5 (.cells #[.int .i64 X1, .int .i64 X2] 54 (0, 0)))
        have HT6 := Lib.hid (HT5.out.trans (((Below.refl w5.heap.size w5).alloc (Nat.le_refl _) (.cells #[.int .i64 X1, .int .i64 X2] 54 (0, 0))).mono HT5.out.size))
        generalize w5.alloc (.cells #[.int .i64 X1, .int .i64 X2] 54 (0, 0)) = wa at HA HBX HT6 ⊢
        have y0 := HA.out.cellAt ((Q + 1) * 2) (by omega)
        have y1 := HA.out.cellAt ((Q + 1) * 2 + 1) (by omega)
        rw [tcells_get0 _ _ (by have := HN.out; omega)] at y0
        rw [tcells_get1 _ _ (by have := HN.out; omega)] at y1
        rw [← HY.out] at y0 y1
        dsimp only at y0 y1
        have f0 := HA.out.frozenAt (Q * 2)
        have f1 := HA.out.frozenAt (Q * 2 + 1)
        have hL : (tcells xs).length = N * 2 := HA.out.1
        obtain ⟨u0, hu0⟩ : ∃ u, wa.cell? ⟨g, Q * 2, none⟩ = some u := by
          rw [HA.out.cellAt _ (by omega)]
          exact ⟨_, List.getElem?_eq_getElem (by omega)⟩
        obtain ⟨u1, hu1⟩ : ∃ u, wa.cell? ⟨g, Q * 2 + 1, none⟩ = some u := by
          rw [HA.out.cellAt _ (by omega)]
          exact ⟨_, List.getElem?_eq_getElem (by omega)⟩
        go_upto_region 8 with fail
        obtain ⟨s1, s2⟩ := HA.out.stored (Q * 2) (.int .i64 Y1)
        obtain ⟨s3, s4⟩ := s1.stored (Q * 2 + 1) (.int .i64 Y2)
        have hset := tcells_set xs Q (Y1, Y2)
        dsimp only at hset
        rw [hset] at s3
        have HS := Lib.hid s3
        have hgC : g ≠ w5.heap.size := by omega
        have HBX2 : Hid (((wa.setCell ⟨g, Q * 2, none⟩ (.int .i64 Y1)).setCell ⟨g, Q * 2 + 1, none⟩ (.int .i64 Y2)).heap[w5.heap.size]? = some (.cells #[.int .i64 X1, .int .i64 X2] 54 (0, 0))) := Lib.hid (by
          rw [heap_setCell_other _ _ _ _ (by show w5.heap.size ≠ g; omega), heap_setCell_other _ _ _ _ (by show w5.heap.size ≠ g; omega)]
          exact HBX.out)
        have hgw : w.heap.size ≤ g := by omega
        have HT7 : Hid (Below w.heap.size w ((wa.setCell ⟨g, Q * 2, none⟩ (.int .i64 Y1)).setCell ⟨g, Q * 2 + 1, none⟩ (.int .i64 Y2))) := Lib.hid ((HT6.out.setCell (by exact hgw) _).setCell (by exact hgw) _)
        clear s1 s2 s3 s4 hset y0 y1 f0 f1 hu0 hu1 hL
        generalize (wa.setCell ⟨g, Q * 2, none⟩ (.int .i64 Y1)).setCell ⟨g, Q * 2 + 1, none⟩ (.int .i64 Y2) = wb at HS HBX2 HT7 ⊢
        obtain ⟨z0, z1⟩ : wb.cell? ⟨w5.heap.size, 0, none⟩ = some (.int .i64 X1) ∧ wb.cell? ⟨w5.heap.size, 1, none⟩ = some (.int .i64 X2) := ⟨by rw [cell_of_row _ _ _ _ _ _ HBX2.out]; rfl, by rw [cell_of_row _ _ _ _ _ _ HBX2.out]; rfl⟩
        have f0 := HS.out.frozenAt ((Q + 1) * 2)
        have f1 := HS.out.frozenAt ((Q + 1) * 2 + 1)
        have hL : (tcells (xs.set Q (Y1, Y2))).length = N * 2 := HS.out.1
        obtain ⟨u0, hu0⟩ : ∃ u, wb.cell? ⟨g, (Q + 1) * 2, none⟩ = some u := by
          rw [HS.out.cellAt _ (by omega)]
          exact ⟨_, List.getElem?_eq_getElem (by omega)⟩
        obtain ⟨u1, hu1⟩ : ∃ u, wb.cell? ⟨g, (Q + 1) * 2 + 1, none⟩ = some u := by
          rw [HS.out.cellAt _ (by omega)]
          exact ⟨_, List.getElem?_eq_getElem (by omega)⟩
        clear hL
        go_wp2_with fail
        obtain ⟨s1, s2⟩ := HS.out.stored ((Q + 1) * 2) (.int .i64 X1)
        obtain ⟨s3, s4⟩ := s1.stored ((Q + 1) * 2 + 1) (.int .i64 X2)
        have hset := tcells_set (xs.set Q (Y1, Y2)) (Q + 1) (X1, X2)
        dsimp only at hset
        rw [hset] at s3
        have hfl : ((xs.set Q (Y1, Y2)).set (Q + 1) (X1, X2)).length = N := by rw [List.length_set, List.length_set, HN.out]
        refine bodyPost_ret (results_tmp5 rfl _ _ _) rfl ?_
        rw [← hfl] at s3
        refine TwoR.drewPL (T := 54) (base := w2.heap.size) (xs := (xs.set Q (Y1, Y2)).set (Q + 1) (X1, X2)) ?_ (by omega) _ _ _ _ ((HT7.out.setCell (by exact hgw) _).setCell (by exact hgw) _)
        rw [hfl] at s3
        unfold TwoR
        rw [hfl]
        exact s3
  · have hd2 : decide ((N : Int) > 2) = false := decide_eq_false (by omega)
    go_wp2_with fail
    refine bodyPost_ret (results_tmp5 rfl _ _ _) rfl ?_
    exact TwoR.drewPL R3.out (by have := HN.out; omega) _ _ _ _ HT3.out
end Go.Proofs.Ytikjhpljaanakaa
