/-
  The program's functions on batches and rows.
-/
import Derived.Test.YtbjiomnhdeehpaaModI
namespace Go.Proofs.Ytbjiomnhdeehpaa
open Go.RowKit Go.Sort
set_option linter.unusedVariables false

theorem batchOk_inner {m : List dOp} {b : List dPair} (h1 : 1 ≤ b.length) (h5 : b.length ≤ 5) (h : ∀ (j : Nat) (x : dPair), b[j]? = some x → pairOkB (inOfN m) (outOfN m) x = true) : batchOkB m b = true :=
  batchOk_yes (pair_model (h 0 _ (List.getElem?_eq_getElem (by omega)))) (inB_yes (by omega) (by omega)) h
set_option maxRecDepth 100000 in
set_option maxHeartbeats 3200000 in
theorem implBatchOk_d (w : World) (es : List Value) (m : dModel) (h : shModel.reads (Under w.heap.size) w es m) (hb : shModel.bulk m ≤ 1048576) (a' : Option Addr) (n' c' : Nat) (ps : List dPair) (h' : ListAt shPair (Under w.heap.size) w a' n' ps) (g1 : n' ≤ c') (g2 : c' ≤ 9223372036854775807) (hb' : (Shape.list shPair).bulk ps ≤ 1048576) :
    Calls Try.prog 21 #[.agg es.toArray, .slice a' n' c'] w fun e w' => e = .returned (.bool (batchOkB m ps)) ∧ Below w.heap.size w w' := by
  obtain ⟨a, n, c, rfl, h1, h2, h3⟩ := shModel_reads.1 h
  have hal : Below w.heap.size w (w.alloc (.cells #[.slice a n c] 29 (0, 0))) := (Below.refl _ _).alloc (Nat.le_refl _) _
  have HM := Lib.hid (implModelOf_c _ a n c m ((h3.below hal (Nat.le_refl _)).le hal.size) h1 h2 hb)
  have hle := goodN_le m
  have h8 := hle.1
  have hbk := bulk_list shPair h'
  rw [hbk] at hb'
  have HL := Lib.hid h'
  have HB := Lib.hid hb'
  have hlen := h'.1
  have HA := Lib.hid hal
  have HI := Lib.hid (inG_good m)
  have HO := Lib.hid (outG_good m)
  obtain ⟨d, hd⟩ : ∃ d, batchOkB m ps = d := ⟨_, rfl⟩
  rw [hd]
  have HD := Lib.hid hd
  clear h h3 hb hal hle h' hb' hbk hd
  by_cases n0 : n' = 0
  · have q1 : ((n' : Int) == 0) = true := by simp [n0]
    have hdf : d = false := by
      rw [← HD.out]
      exact batchOk_l (inB_no (by omega))
    subst hdf
    subst n0
    go_enter Try.func21, Try.ntmps21
    go_wp2_with fail
    go_ret
    exact ⟨rfl, HA.out⟩
  · have q1 : ((n' : Int) == 0) = false := by simp [n0]
    by_cases n5 : 5 < n'
    · have q2 : decide ((n' : Int) > 5) = true := decide_eq_true (by omega)
      have hdf : d = false := by
        rw [← HD.out]
        exact batchOk_l (inB_no (by omega))
      subst hdf
      go_enter Try.func21, Try.ntmps21
      go_wp2_with fail
      go_ret
      exact ⟨rfl, HA.out⟩
    · have q2 : decide ((n' : Int) > 5) = false := decide_eq_false (by omega)
      go_enter Try.func21, Try.ntmps21
      go_wp2_with fail
      refine HM.out.mono ?_
      rintro e w1 ⟨ag, ng, cg, rfl, hl, e1, e2, hb⟩
      have hng := hl.1
      have hb1 := (Below.refl w1.heap.size w1).alloc (Nat.le_refl _) (.cells #[.slice ag ng cg] 56 (0, 0))
      have hbx := heap_alloc_new w1 (.cells #[.slice ag ng cg] 56 (0, 0))
      have hsz1 : w1.heap.size < (w1.alloc (.cells #[.slice ag ng cg] 56 (0, 0))).heap.size := by simp
      have HW1 := Lib.hid (HA.out.trans (hb.mono HA.out.size))
      have HG := Lib.hid ((hl.below hb (Nat.le_refl _)).le hb.size)
      have HB1 := Lib.hid hb1
      have HBX := Lib.hid hbx
      clear hl hb hb1 hbx
      go_wp2_with fail
      generalize hwb : w1.alloc (.cells #[.slice ag ng cg] 56 (0, 0)) = wb at HB1 HBX hsz1 ⊢
      have HWB := Lib.hid (HW1.out.trans (HB1.out.mono HW1.out.size))
      have HGG := Lib.hid (fun (w2 : World) (hb2 : Below wb.heap.size wb w2) => (HG.out.below (HB1.out.trans (hb2.mono HB1.out.size)) (Nat.le_refl _)).le (Nat.le_trans HB1.out.size hb2.size))
      clear hwb
      go_loopw [20] (fun i wr => ∃ k : Nat, k ≤ n' ∧ i = .int .i64 k ∧ Hid (∀ j x, j < k → ps[j]? = some x → pairOkB (inOfN m) (outOfN m) x = true) ∧ Below wb.heap.size wb wr) (fun i _ => n' - (intOf i).toNat)
      case atStart => exact ⟨0, Nat.zero_le _, rfl, Lib.hid fun j x hj => absurd hj (Nat.not_lt_zero _), Below.refl _ _⟩
      case round =>
        obtain ⟨k, hk, rfl, hall, hbw⟩ := hrel
        have hsz := hbw.size
        have hww : Below w.heap.size w wr := HWB.out.trans (hbw.mono HWB.out.size)
        by_cases hlt : k < n'
        · obtain ⟨x, hx⟩ : ∃ x, ps[k]? = some x := ⟨_, List.getElem?_eq_getElem (by rw [HL.out.1]; exact hlt)⟩
          obtain ⟨b, o, es, rfl, hbB, hr, hs⟩ := HL.out.2 k x hx
          have hrr := rangeAt_kept hr (show b < w.heap.size from hbB) (Kept.of_below (I := Under w.heap.size) hww fun b hb => hb)
          have hsw := shPair.below hs hww (Nat.le_refl _)
          have hbx' : shPair.bulk x ≤ 1048576 := by have h1 := bulk_mem shPair.bulk ps k x hx; have h2 := HB.out; omega
          rw [shPair_bulk, bulk_ints, bulk_ints] at hbx'
          obtain ⟨ax, nx, cx, at', nt, ct, rfl, ⟨-, -, mx⟩, ⟨-, -, mt⟩⟩ := shPair_reads.1 hsw
          rw [shPair_size] at hrr
          have c0 := hrr 0 _ rfl
          have c1 := hrr 1 _ rfl
          simp only [Nat.add_zero] at c0
          have hal := (Below.refl wr.heap.size wr).alloc (Nat.le_refl _) (.cells #[.slice ax nx cx, .slice at' nt ct] 65 (0, 0))
          have hbw2 := hbw.trans (hal.mono hsz)
          have z0 : (wr.alloc (.cells #[.slice ax nx cx, .slice at' nt ct] 65 (0, 0))).cell? ⟨w1.heap.size, 0, none⟩ = some (.slice ag ng cg) := by
            rw [cell_of_row _ _ _ _ _ _ ((hbw2.block _ hsz1).trans HBX.out)]
            rfl
          have HC := Lib.hid (implFits_c (wr.alloc (.cells #[.slice ax nx cx, .slice at' nt ct] 65 (0, 0))) ag ng cg (goodN m) (HGG.out _ hbw2) (by omega) ax at' nx cx nt ct x
            (((mx.below (hal.mono hww.size) (Nat.le_refl _)).ints (by have := mx.1; omega)).le (Nat.le_trans hww.size hal.size)) (((mt.below (hal.mono hww.size) (Nat.le_refl _)).ints (by have := mt.1; omega)).le (Nat.le_trans hww.size hal.size)))
          rw [HI.out, HO.out] at HC
          obtain ⟨p, hp⟩ : ∃ p, pairOkB (inOfN m) (outOfN m) x = p := ⟨_, rfl⟩
          rw [hp] at HC
          have HX := Lib.hid hx
          have HP := Lib.hid hp
          have HBW := Lib.hid hbw2
          clear hr hrr hs hsw mx mt hx hp hbw hbx' hal hww hbw2
          cases p
          · have hdf : d = false := by rw [← HD.out]; exact batchOk_no HX.out HP.out
            subst hdf
            go_wp2_with fail
            refine HC.out.mono ?_
            rintro e w3 ⟨rfl, hb3⟩
            have HW3 := Lib.hid (HBW.out.trans (hb3.mono HBW.out.size))
            clear hb3
            go_wp2_with fail
            go_ret
            exact ⟨rfl, HWB.out.trans (HW3.out.mono HWB.out.size)⟩
          · go_wp2_with fail
            refine HC.out.mono ?_
            rintro e w3 ⟨rfl, hb3⟩
            have HW3 := Lib.hid (HBW.out.trans (hb3.mono HBW.out.size))
            clear hb3
            go_wp2_with fail
            go_round
            case rel =>
              refine ⟨k + 1, by omega, by go_num, Lib.hid fun i y hi hy => ?_, HW3.out⟩
              by_cases e : i = k
              · subst e
                have e2 := HX.out.symm.trans hy
                cases e2
                exact HP.out
              · exact hall.out i y (by omega) hy
            case measure => simp [intOf]; omega
        · obtain rfl : k = n' := by omega
          have hdt : d = true := by
            rw [← HD.out]
            exact batchOk_inner (by omega) (by omega) fun j x hx => hall.out j x (by rw [← HL.out.1]; exact (List.getElem?_eq_some_iff.1 hx).1) hx
          subst hdt
          have HWW := Lib.hid hww
          clear hbw hww
          go_wp2_with fail
          go_ret
          exact ⟨rfl, HWW.out⟩
set_option maxRecDepth 100000 in
set_option maxHeartbeats 3200000 in
theorem implSameRow_c (w : World) (a : Option Addr) (n c : Nat) (x : List Int) (hx : IntsIn w.heap.size w a n x) (a' : Option Addr) (n' c' : Nat) (y : List Int) (hy : IntsIn w.heap.size w a' n' y) :
    Calls Try.prog 49 #[.agg #[.slice a n c], .agg #[.slice a' n' c']] w fun e w' => e = .returned (.bool (decide (x = y))) ∧ Below w.heap.size w w' := by
  have hal : Below w.heap.size w ((w.alloc (.cells #[.slice a n c] 73 (0, 0))).alloc (.cells #[.slice a' n' c'] 73 (0, 0))) := ((Below.refl _ _).alloc (Nat.le_refl _) _).alloc (by simp) _
  have HC := Lib.hid (implSameVec_any _ a n c x a' n' c' y ((hx.below hal (Nat.le_refl _)).le hal.size) ((hy.below hal (Nat.le_refl _)).le hal.size))
  have HA := Lib.hid hal
  obtain ⟨d, hd⟩ : ∃ d, decide (x = y) = d := ⟨_, rfl⟩
  rw [hd] at HC ⊢
  clear hx hy hal hd
  go_enter Try.func49, Try.ntmps49
  go_wp2_with fail
  refine HC.out.mono ?_
  rintro e w1 ⟨rfl, hb⟩
  have HB := Lib.hid (HA.out.trans (hb.mono HA.out.size))
  clear hb
  go_wp2_with fail
  go_ret
  exact ⟨rfl, HB.out⟩
theorem eg_sameRow : ∀ args w, (callFunc 49 args).run Try.prog w = .ok (.enter 49 args) w := enters_of Try.func49 (by kernel_rfl) rfl
set_option maxRecDepth 100000 in
set_option maxHeartbeats 3200000 in
theorem equalFunc_rows (w : World) (a : Option Addr) (n c : Nat) (xs : List dRow) (h : ListAt shRow (Under w.heap.size) w a n xs) (hb : (Shape.list shRow).bulk xs ≤ 1048576) (a' : Option Addr) (n' c' : Nat) (ys : List dRow) (h' : ListAt shRow (Under w.heap.size) w a' n' ys) (hb' : (Shape.list shRow).bulk ys ≤ 1048576) :
    Calls Try.prog 48 #[.slice a n c, .slice a' n' c', .func (.func 49) #[] #[]] w fun e w' => e = .returned (.bool (sameRowsB xs ys)) ∧ Below w.heap.size w w' := by
  have hbk := bulk_list shRow h
  have hbk' := bulk_list shRow h'
  rw [hbk] at hb
  rw [hbk'] at hb'
  have hn1 : n ≤ 1048576 := by omega
  have HL := Lib.hid h
  have HL' := Lib.hid h'
  have HB := Lib.hid hb
  have HB' := Lib.hid hb'
  have eg := eg_sameRow
  obtain ⟨d, hd⟩ : ∃ d, d = sameRowsB xs ys := ⟨_, rfl⟩
  rw [← hd]
  have HD := Lib.hid hd
  clear h h' hb hb' hbk hbk' hd
  by_cases hnn : n = n'
  · subst hnn
    go_enter Try.func48, Try.ntmps48
    go_wp2_with fail
    go_loopw [17] (fun i wr => ∃ k : Nat, k ≤ n ∧ i = .int .i64 k ∧ Hid (∀ j : Nat, j < k → xs[j]? = ys[j]?) ∧ Below w.heap.size w wr) (fun i _ => n - (intOf i).toNat)
    case atStart => exact ⟨0, Nat.zero_le _, rfl, Lib.hid fun j hj => absurd hj (Nat.not_lt_zero _), Below.refl _ _⟩
    case round =>
      obtain ⟨k, hk, rfl, hall, hbw⟩ := hrel
      have hsz := hbw.size
      by_cases hlt : k < n
      · obtain ⟨x, hx⟩ : ∃ x, xs[k]? = some x := ⟨_, List.getElem?_eq_getElem (by rw [HL.out.1]; exact hlt)⟩
        obtain ⟨y, hy⟩ : ∃ y, ys[k]? = some y := ⟨_, List.getElem?_eq_getElem (by rw [HL'.out.1]; exact hlt)⟩
        obtain ⟨b, o, es, rfl, hbB, hr, hs⟩ := HL.out.2 k x hx
        obtain ⟨b', o', es', rfl, hbB', hr', hs'⟩ := HL'.out.2 k y hy
        have hrr := rangeAt_kept hr (show b < w.heap.size from hbB) (Kept.of_below (I := Under w.heap.size) hbw fun b hb => hb)
        have hsw := shRow.below hs hbw (Nat.le_refl _)
        have hsw' := shRow.below hs' hbw (Nat.le_refl _)
        have hbx : shRow.bulk x ≤ 1048576 := by have h1 := bulk_mem shRow.bulk xs k x hx; have h2 := HB.out; omega
        have hby : shRow.bulk y ≤ 1048576 := by have h1 := bulk_mem shRow.bulk ys k y hy; have h2 := HB'.out; omega
        rw [shRow_bulk, bulk_ints] at hbx hby
        obtain ⟨ax, nx, cx, rfl, -, -, mx⟩ := shRow_reads.1 hsw
        obtain ⟨ay, ny, cy, rfl, -, -, my⟩ := shRow_reads.1 hsw'
        have hlx : x.length = nx := mx.1
        have hly : y.length = ny := my.1
        have hal := ((Below.refl wr.heap.size wr).alloc (Nat.le_refl _) (.cells #[.slice ax nx cx] 73 (0, 0)))
        have hal2 := hal.alloc hal.size (.cells #[.slice ay ny cy] 73 (0, 0))
        have hbw1 := hbw.trans (hal.mono hsz)
        have hbw2 := hbw.trans (hal2.mono hsz)
        have hrr' := rangeAt_kept hr' (show b' < w.heap.size from hbB') (Kept.of_below (I := Under w.heap.size) hbw1 fun b hb => hb)
        have HC := implSameRow_c _ ax nx cx x (((mx.below (hal2.mono hsz) (Nat.le_refl _)).ints (by omega)).le (Nat.le_trans hsz hal2.size)) ay ny cy y (((my.below (hal2.mono hsz) (Nat.le_refl _)).ints (by omega)).le (Nat.le_trans hsz hal2.size))
        rw [shRow_size, Nat.mul_one] at hrr hrr'
        have c0 := hrr 0 _ rfl
        have d0 := hrr' 0 _ rfl
        simp only [Nat.add_zero] at c0 d0
        obtain ⟨p, hp⟩ : ∃ p, decide (x = y) = p := ⟨_, rfl⟩
        simp only [hp] at HC
        replace HC := Lib.hid HC
        have HX := Lib.hid hx
        have HY := Lib.hid hy
        have HP := Lib.hid hp
        have HBW := Lib.hid hbw2
        clear hr hrr hs hsw mx hx hp hbw hbx hlx hr' hrr' hs' hsw' my hy hby hly hal hal2 hbw1 hbw2
        cases p
        · have hdf : d = false := by rw [HD.out]; exact same_no HX.out HY.out (of_decide_eq_false HP.out)
          subst hdf
          go_wp2_with fail
          refine HC.out.mono ?_
          rintro e w1 ⟨rfl, hb⟩
          have HB1 := Lib.hid (HBW.out.trans (hb.mono HBW.out.size))
          clear hb
          go_wp2_with fail
          go_ret
          exact ⟨rfl, HB1.out⟩
        · have HEQ : Hid (x = y) := Lib.hid (of_decide_eq_true HP.out)
          go_wp2_with fail
          refine HC.out.mono ?_
          rintro e w1 ⟨rfl, hb⟩
          have HB1 := Lib.hid (HBW.out.trans (hb.mono HBW.out.size))
          clear hb
          go_wp2_with fail
          go_round
          case rel =>
            refine ⟨k + 1, by omega, by go_num, Lib.hid fun i hi => ?_, HB1.out⟩
            by_cases e : i = k
            · subst e
              rw [HX.out, HY.out, HEQ.out]
            · exact hall.out i (by omega)
          case measure => simp [intOf]; omega
      · obtain rfl : k = n := by omega
        have hdt : d = true := by
          rw [HD.out]
          exact same_yes (by rw [HL.out.1, HL'.out.1]) fun j hj => hall.out j (by rw [← HL.out.1]; exact hj)
        subst hdt
        have HWW := Lib.hid hbw
        clear hbw
        go_wp2_with fail
        go_ret
        exact ⟨rfl, HWW.out⟩
  · have hne : ((n : Int) != (n' : Int)) = true := by simpa using fun e : (n : Int) = n' => hnn (by omega)
    have hdf : d = false := by
      rw [HD.out]
      exact decide_eq_false fun e => hnn (by rw [← HL.out.1, ← HL'.out.1, e])
    subst hdf
    clear hnn
    go_enter Try.func48, Try.ntmps48
    go_wp2_with fail
    go_ret
    exact ⟨rfl, Below.refl _ _⟩
set_option maxRecDepth 100000 in
set_option maxHeartbeats 3200000 in
theorem implSameRows_d (w : World) (a : Option Addr) (n c : Nat) (xs : List dRow) (h : ListAt shRow (Under w.heap.size) w a n xs) (g1 : n ≤ c) (g2 : c ≤ 9223372036854775807) (hb : (Shape.list shRow).bulk xs ≤ 1048576)
    (a' : Option Addr) (n' c' : Nat) (ys : List dRow) (h' : ListAt shRow (Under w.heap.size) w a' n' ys) (g1' : n' ≤ c') (g2' : c' ≤ 9223372036854775807) (hb' : (Shape.list shRow).bulk ys ≤ 1048576) :
    Calls Try.prog 28 #[.slice a n c, .slice a' n' c'] w fun e w' => e = .returned (.bool (sameRowsB xs ys)) ∧ Below w.heap.size w w' := by
  have HC := Lib.hid (equalFunc_rows w a n c xs h hb a' n' c' ys h' hb')
  obtain ⟨d, hd⟩ : ∃ d, sameRowsB xs ys = d := ⟨_, rfl⟩
  rw [hd] at HC ⊢
  clear h h' hb hb' hd
  go_enter Try.func28, Try.ntmps28
  go_wp2_with fail
  refine HC.out.mono ?_
  rintro e w1 ⟨rfl, hb⟩
  have HB := Lib.hid hb
  clear hb
  go_wp2_with fail
  go_ret
  exact ⟨rfl, HB.out⟩
end Go.Proofs.Ytbjiomnhdeehpaa
