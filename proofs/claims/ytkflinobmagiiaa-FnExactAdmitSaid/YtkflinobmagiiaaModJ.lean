/-
  The program's functions on batches and rows.
-/
import Derived.Test.YtkflinobmagiiaaModI
namespace Go.Proofs.Ytkflinobmagiiaa
open Go.RowKit Go.Sort
set_option linter.unusedVariables false

theorem batchOk_inner {m : List dOp} {b : List dPair} (h1 : 1 ≤ b.length) (h5 : b.length ≤ 5) (h : ∀ (j : Nat) (x : dPair), b[j]? = some x → pairOkB (inOfN m) (outOfN m) x = true) : batchOkB m b = true :=
  batchOk_yes (pair_model (h 0 _ (List.getElem?_eq_getElem (by omega)))) (inB_yes (by omega) (by omega)) h
set_option maxRecDepth 100000 in
set_option maxHeartbeats 3200000 in
theorem implBatchOk_d (w : World) (es : List Value) (m : dModel) (h : shModel.reads (Under w.heap.size) w es m) (hb : shModel.bulk m ≤ 1048576) (a' : Option Addr) (n' c' : Nat) (ps : List dPair) (h' : ListAt shPair (Under w.heap.size) w a' n' ps) (g1 : n' ≤ c') (g2 : c' ≤ 9223372036854775807) (hb' : (Shape.list shPair).bulk ps ≤ 1048576) :
    Calls Try.prog 76 #[.agg es.toArray, .slice a' n' c'] w fun e w' => e = .returned (.bool (batchOkB m ps)) ∧ Below w.heap.size w w' := by
  obtain ⟨a, n, c, rfl, h1, h2, h3⟩ := shModel_reads.1 h
  have hal : Below w.heap.size w (w.alloc (.cells #[.slice a n c] 26 (0, 0))) := (Below.refl _ _).alloc (Nat.le_refl _) _
  have HM := Lib.hid (implModelOf_c _ a n c m ((h3.below hal (Nat.le_refl _)).le hal.size) h1 h2 hb)
  have hle := goodN_le m
  have h8 := hle.1
  have hbk := bulk_list shPair h'
  rw [hbk] at hb'
  have HL := Lib.hid h'
  have HB := Lib.hid hb'
  have hlen := h'.1
  have HA := Lib.hid hal
  have HI := Lib.hid (inG_good m)
  have HO := Lib.hid (outG_good m)
  obtain ⟨d, hd⟩ : ∃ d, batchOkB m ps = d := ⟨_, rfl⟩
  rw [hd]
  have HD := Lib.hid hd
  clear h h3 hb hal hle h' hb' hbk hd
  by_cases n0 : n' = 0
  · have q1 : ((n' : Int) == 0) = true := by simp [n0]
    have hdf : d = false := by
      rw [← HD.out]
      exact batchOk_l (inB_no (by omega))
    subst hdf
    subst n0
    go_enter Try.func76, Try.ntmps76
    go_wp2_with fail
    go_ret
    exact ⟨rfl, HA.out⟩
  · have q1 : ((n' : Int) == 0) = false := by simp [n0]
    by_cases n5 : 5 < n'
    · have q2 : decide ((n' : Int) > 5) = true := decide_eq_true (by omega)
      have hdf : d = false := by
        rw [← HD.out]
        exact batchOk_l (inB_no (by omega))
      subst hdf
      go_enter Try.func76, Try.ntmps76
      go_wp2_with fail
      go_ret
      exact ⟨rfl, HA.out⟩
    · have q2 : decide ((n' : Int) > 5) = false := decide_eq_false (by omega)
      go_enter Try.func76, Try.ntmps76
      go_wp2_with fail
      refine HM.out.mono ?_
      rintro e w1 ⟨ag, ng, cg, rfl, hl, e1, e2, hb⟩
      have hng := hl.1
      have hb1 := (Below.refl w1.heap.size w1).alloc (Nat.le_refl _) (.cells #[.slice ag ng cg] 119 (0, 0))
      have hbx := heap_alloc_new w1 (.cells #[.slice ag ng cg] 119 (0, 0))
      have hsz1 : w1.heap.size < (w1.alloc (.cells #[.slice ag ng cg] 119 (0, 0))).heap.size := by simp
      have HW1 := Lib.hid (HA.out.trans (hb.mono HA.out.size))
      have HG := Lib.hid ((hl.below hb (Nat.le_refl _)).le hb.size)
      have HB1 := Lib.hid hb1
      have HBX := Lib.hid hbx
      clear hl hb hb1 hbx
      go_wp2_with fail
      generalize hwb : w1.alloc (.cells #[.slice ag ng cg] 119 (0, 0)) = wb at HB1 HBX hsz1 ⊢
      have HWB := Lib.hid (HW1.out.trans (HB1.out.mono HW1.out.size))
      have HGG := Lib.hid (fun (w2 : World) (hb2 : Below wb.heap.size wb w2) => (HG.out.below (HB1.out.trans (hb2.mono HB1.out.size)) (Nat.le_refl _)).le (Nat.le_trans HB1.out.size hb2.size))
      clear hwb
      go_loopw [20] (fun i wr => ∃ k : Nat, k ≤ n' ∧ i = .int .i64 k ∧ Hid (∀ j x, j < k → ps[j]? = some x → pairOkB (inOfN m) (outOfN m) x = true) ∧ Below wb.heap.size wb wr) (fun i _ => n' - (intOf i).toNat)
      case atStart => exact ⟨0, Nat.zero_le _, rfl, Lib.hid fun j x hj => absurd hj (Nat.not_lt_zero _), Below.refl _ _⟩
      case round =>
        obtain ⟨k, hk, rfl, hall, hbw⟩ := hrel
        have hsz := hbw.size
        have hww : Below w.heap.size w wr := HWB.out.trans (hbw.mono HWB.out.size)
        by_cases hlt : k < n'
        · obtain ⟨x, hx⟩ : ∃ x, ps[k]? = some x := ⟨_, List.getElem?_eq_getElem (by rw [HL.out.1]; exact hlt)⟩
          obtain ⟨b, o, es, rfl, hbB, hr, hs⟩ := HL.out.2 k x hx
          have hrr := rangeAt_kept hr (show b < w.heap.size from hbB) (Kept.of_below (I := Under w.heap.size) hww fun b hb => hb)
          have hsw := shPair.below hs hww (Nat.le_refl _)
          have hbx' : shPair.bulk x ≤ 1048576 := by have h1 := bulk_mem shPair.bulk ps k x hx; have h2 := HB.out; omega
          rw [shPair_bulk, bulk_ints, bulk_ints] at hbx'
          obtain ⟨ax, nx, cx, at', nt, ct, rfl, ⟨-, -, mx⟩, ⟨-, -, mt⟩⟩ := shPair_reads.1 hsw
          rw [shPair_size] at hrr
          have c0 := hrr 0 _ rfl
          have c1 := hrr 1 _ rfl
          simp only [Nat.add_zero] at c0
          have hal := (Below.refl wr.heap.size wr).alloc (Nat.le_refl _) (.cells #[.slice ax nx cx, .slice at' nt ct] 88 (0, 0))
          have hbw2 := hbw.trans (hal.mono hsz)
          have z0 : (wr.alloc (.cells #[.slice ax nx cx, .slice at' nt ct] 88 (0, 0))).cell? ⟨w1.heap.size, 0, none⟩ = some (.slice ag ng cg) := by
            rw [cell_of_row _ _ _ _ _ _ ((hbw2.block _ hsz1).trans HBX.out)]
            rfl
          have HC := Lib.hid (implFits_c (wr.alloc (.cells #[.slice ax nx cx, .slice at' nt ct] 88 (0, 0))) ag ng cg (goodN m) (HGG.out _ hbw2) (by omega) ax at' nx cx nt ct x
            (((mx.below (hal.mono hww.size) (Nat.le_refl _)).ints (by have := mx.1; omega)).le (Nat.le_trans hww.size hal.size)) (((mt.below (hal.mono hww.size) (Nat.le_refl _)).ints (by have := mt.1; omega)).le (Nat.le_trans hww.size hal.size)))
          rw [HI.out, HO.out] at HC
          obtain ⟨p, hp⟩ : ∃ p, pairOkB (inOfN m) (outOfN m) x = p := ⟨_, rfl⟩
          rw [hp] at HC
          have HX := Lib.hid hx
          have HP := Lib.hid hp
          have HBW := Lib.hid hbw2
          clear hr hrr hs hsw mx mt hx hp hbw hbx' hal hww hbw2
          cases p
          · have hdf : d = false := by rw [← HD.out]; exact batchOk_no HX.out HP.out
            subst hdf
            go_wp2_with fail
            refine HC.out.mono ?_
            rintro e w3 ⟨rfl, hb3⟩
            have HW3 := Lib.hid (HBW.out.trans (hb3.mono HBW.out.size))
            clear hb3
            go_wp2_with fail
            go_ret
            exact ⟨rfl, HWB.out.trans (HW3.out.mono HWB.out.size)⟩
          · go_wp2_with fail
            refine HC.out.mono ?_
            rintro e w3 ⟨rfl, hb3⟩
            have HW3 := Lib.hid (HBW.out.trans (hb3.mono HBW.out.size))
            clear hb3
            go_wp2_with fail
            go_round
            case rel =>
              refine ⟨k + 1, by omega, by go_num, Lib.hid fun i y hi hy => ?_, HW3.out⟩
              by_cases e : i = k
              · subst e
                have e2 := HX.out.symm.trans hy
                cases e2
                exact HP.out
              · exact hall.out i y (by omega) hy
            case measure => simp [intOf]; omega
        · obtain rfl : k = n' := by omega
          have hdt : d = true := by
            rw [← HD.out]
            exact batchOk_inner (by omega) (by omega) fun j x hx => hall.out j x (by rw [← HL.out.1]; exact (List.getElem?_eq_some_iff.1 hx).1) hx
          subst hdt
          have HWW := Lib.hid hww
          clear hbw hww
          go_wp2_with fail
          go_ret
          exact ⟨rfl, HWW.out⟩
end Go.Proofs.Ytkflinobmagiiaa
