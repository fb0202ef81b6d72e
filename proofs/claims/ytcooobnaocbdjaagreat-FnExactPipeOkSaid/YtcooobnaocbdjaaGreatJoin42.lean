/-
  Pipes: the program's PipeOk (mkpipj.py).
-/
import Derived.Test.YtcooobnaocbdjaaGreatJoin24
import Derived.Test.YtcooobnaocbdjaaGreatJoin39
import Derived.Test.YtcooobnaocbdjaaGreatJoin41
namespace Go.Proofs.YtcooobnaocbdjaaGreat
open Go.RowKit Go.Sort
set_option linter.unusedVariables false
set_option linter.unusedSimpArgs false

theorem eg_queueOk : ∀ args w, (callFunc 65 args).run Tryz.prog w = .ok (.enter 65 args) w := enters_of Tryz.func65 (by kernel_rfl) rfl
theorem eg_pairOk : ∀ args w, (callFunc 67 args).run Tryz.prog w = .ok (.enter 67 args) w := enters_of Tryz.func67 (by kernel_rfl) rfl
theorem eg_ofBatch : ∀ args w, (callFunc 113 args).run Tryz.prog w = .ok (.enter 113 args) w := enters_of Tryz.func113 (by kernel_rfl) rfl
set_option maxRecDepth 100000 in
theorem implPairOk_c (w : World) (ax : Option Addr) (nx cx : Nat) (ay : Option Addr) (ny cy : Nat) (x : dPair) (hx : IntsIn w.heap.size w ax nx x.1) (hy : IntsIn w.heap.size w ay ny x.2) :
    Calls Tryz.prog 67 #[.agg #[.slice ax nx cx, .slice ay ny cy]] w fun e w' => e = .returned (.bool (pairInB x)) ∧ Below w.heap.size w w' := by
  have hal := (Below.refl w.heap.size w).alloc (Nat.le_refl _) (.cells #[.slice ax nx cx, .slice ay ny cy] 68 (0, 0))
  have hb0 := heap_alloc_new w (.cells #[.slice ax nx cx, .slice ay ny cy] 68 (0, 0))
  obtain ⟨p, hp⟩ : ∃ p, vecOkB x.1 = p := ⟨_, rfl⟩
  obtain ⟨q, hq⟩ : ∃ q, vecOkB x.2 = q := ⟨_, rfl⟩
  have HX := Lib.hid (hp ▸ implVecOk_any (w.alloc (.cells #[.slice ax nx cx, .slice ay ny cy] 68 (0, 0))) ax nx cx x.1 ((hx.below hal (Nat.le_refl _)).le hal.size))
  have HY := Lib.hid (hq ▸ implVecOk_any (w.alloc (.cells #[.slice ax nx cx, .slice ay ny cy] 68 (0, 0))) ay ny cy x.2 ((hy.below hal (Nat.le_refl _)).le hal.size))
  have HA := Lib.hid hal
  have HB0 := Lib.hid hb0
  have hR : pairInB x = (p && q) := by unfold pairInB; rw [hp, hq]
  rw [hR]
  clear hx hy hal hb0 hp hq hR
  cases p
  · rw [Bool.false_and]
    go_enter Tryz.func67, Tryz.ntmps67
    go_upto_region 1 with fail
    generalize w.alloc (.cells #[.slice ax nx cx, .slice ay ny cy] 68 (0, 0)) = wa at HA HB0 HX HY ⊢
    obtain ⟨z0, z1⟩ := boxi HB0.out
    go_wp2_with fail
    refine HX.out.mono ?_
    rintro e w' ⟨rfl, rfl⟩
    go_wp2_with fail
    go_ret
    exact ⟨rfl, HA.out⟩
  · rw [Bool.true_and]
    go_enter Tryz.func67, Tryz.ntmps67
    go_upto_region 1 with fail
    generalize w.alloc (.cells #[.slice ax nx cx, .slice ay ny cy] 68 (0, 0)) = wa at HA HB0 HX HY ⊢
    obtain ⟨z0, z1⟩ := boxi HB0.out
    go_wp2_with fail
    refine HX.out.mono ?_
    rintro e w' ⟨rfl, rfl⟩
    go_wp2_with fail
    refine HY.out.mono ?_
    rintro e w' ⟨rfl, rfl⟩
    go_wp2_with fail
    go_ret
    exact ⟨rfl, HA.out⟩
/-- The closure that asks whether an instruction is of the batch. -/
theorem implOfBatch_c (w : World) (K M : Int) (g : Nat) (a0 : Option Addr) (n0 c0 : Nat) (hg : g < w.heap.size) (h : w.cell? ⟨g, 0, none⟩ = some (.slice a0 n0 c0)) :
    Calls Tryz.prog 113 #[.agg #[.int .i64 K, .int .i64 M], .pointer (some ⟨g, 0, none⟩)] w fun e w' => e = .returned (.bool (insInB n0 (K, M))) ∧ Below w.heap.size w w' := by
  have hal := (Below.refl w.heap.size w).alloc (Nat.le_refl _) (.cells #[.int .i64 K, .int .i64 M] 105 (0, 0))
  have hb0 := heap_alloc_new w (.cells #[.int .i64 K, .int .i64 M] 105 (0, 0))
  have y0 := (hal.cell (p := ⟨g, 0, none⟩) hg).trans h
  have HA := Lib.hid hal
  have HB0 := Lib.hid hb0
  obtain ⟨R, hR⟩ : ∃ R, insInB n0 (K, M) = R := ⟨_, rfl⟩
  have HR := Lib.hid hR
  rw [hR]
  clear hal hb0 hR h
  by_cases hm : 0 ≤ M
  · obtain rfl : R = decide (M < (n0 : Int)) := by
      rw [← HR.out]
      unfold insInB inB
      rw [Bool.eq_iff_iff]
      simp only [decide_eq_true_eq]
      omega
    go_enter Tryz.func113, Tryz.ntmps113
    go_upto_region 1 with fail
    generalize w.alloc (.cells #[.int .i64 K, .int .i64 M] 105 (0, 0)) = wa at HA HB0 y0 ⊢
    obtain ⟨z0, z1⟩ := boxi HB0.out
    go_wp2_with fail
    go_ret
    exact ⟨rfl, HA.out⟩
  · obtain rfl : R = false := by
      rw [← HR.out]
      exact decide_eq_false (by show ¬ (0 ≤ M ∧ M ≤ (n0 : Int) - 1); omega)
    have hd : decide ((0 : Int) ≤ M) = false := decide_eq_false hm
    go_enter Tryz.func113, Tryz.ntmps113
    go_upto_region 1 with fail
    generalize w.alloc (.cells #[.int .i64 K, .int .i64 M] 105 (0, 0)) = wa at HA HB0 y0 ⊢
    obtain ⟨z0, z1⟩ := boxi HB0.out
    go_wp2_with fail
    go_ret
    exact ⟨rfl, HA.out⟩
set_option maxRecDepth 100000 in
set_option maxHeartbeats 3200000 in
theorem implAllOf_Queue (w : World) (a : Option Addr) (n c : Nat) (l : List dQueue) (h : ListAt shQueue (Under w.heap.size) w a n l) (hn : n ≤ 1048576) (hs : Shape.sum shQueue.bulk l ≤ 1048576) :
    Calls Tryz.prog 64 #[.slice a n c, .func (.func 65) #[] #[]] w fun e w' => e = .returned (.bool (l.all queueOkB)) ∧ Below w.heap.size w w' := by
  obtain ⟨R, hR⟩ : ∃ R, l.all queueOkB = R := ⟨_, rfl⟩
  rw [hR]
  have HNO := Lib.hid fun (k : Nat) (x : dQueue) (hx : l[k]? = some x) (hf : queueOkB x = false) => (show R = false by
    rw [← hR, List.all_eq_false]
    exact ⟨x, List.mem_of_getElem? hx, by rw [hf]; simp⟩)
  have HYES := Lib.hid fun (hy : ∀ (k : Nat) (x : dQueue), l[k]? = some x → queueOkB x = true) => (show R = true by rw [← hR]; exact all_get.2 hy)
  have HL := Lib.hid h
  have HS := Lib.hid hs
  clear hs
  have eg := eg_queueOk
  clear h hR
  go_enter Tryz.func64, Tryz.ntmps64
  go_wp2_with fail
  go_loopw [9] (fun i wr => ∃ k : Nat, k ≤ n ∧ i = .int .i64 k ∧ Hid (∀ (j : Nat) (x : dQueue), j < k → l[j]? = some x → queueOkB x = true) ∧ Below w.heap.size w wr) (fun i _ => n - (intOf i).toNat)
  case atStart => exact ⟨0, Nat.zero_le _, rfl, Lib.hid fun j x hj => absurd hj (Nat.not_lt_zero _), Below.refl _ _⟩
  case round =>
    obtain ⟨k, hk, rfl, hall, hbw⟩ := hrel
    by_cases hlt : k < n
    · obtain ⟨b, o, x, ax, nx, cx, hx, rfl, hbB, f0, f1, p4, r4, lx⟩ := queue_at HL.out k hlt
      obtain ⟨C, hC⟩ : ∃ C, x.1 = C := ⟨_, rfl⟩
      rw [hC] at f0
      have d0 := (hbw.cell (p := ⟨b, o + k * 2, none⟩) hbB).trans f0
      have d1 := (hbw.cell (p := ⟨b, o + k * 2 + 1, none⟩) hbB).trans f1
      have hsz := hbw.size
      have hal := (Below.refl wr.heap.size wr).alloc (Nat.le_refl _) (.cells #[.int .i64 C, .slice ax nx cx] 82 (0, 0))
      have hb1 := heap_alloc_new wr (.cells #[.int .i64 C, .slice ax nx cx] 82 (0, 0))
      have hwb := hbw.trans (hal.mono hsz)
      have hlb := bulk_mem shQueue.bulk _ k x hx
      rw [shQueue_bulk, bulk_list shItem lx] at hlb
      have hnx : nx ≤ 1048576 := by have := HS.out; omega
      have hs4 : Shape.sum shItem.bulk x.2 ≤ 1048576 := by have := HS.out; omega
      have hc := implQueueOk_c (wr.alloc (.cells #[.int .i64 C, .slice ax nx cx] 82 (0, 0))) C ax nx cx x.2 ((lx.below hwb (Nat.le_refl _)).le hwb.size) hnx hs4
      rw [← hC] at hc
      obtain ⟨q, hq⟩ : ∃ q, queueOkB x = q := ⟨_, rfl⟩
      rw [show queueOkB (x.1, x.2) = q from hq, hC] at hc
      have HC := Lib.hid hc
      have HX := Lib.hid hx
      have HQ := Lib.hid hq
      have HB1 := Lib.hid hb1
      have HWB := Lib.hid hwb
      clear f0 f1 hx hq hc hb1 hwb hal hbw hbB lx hC hlb p4 r4 hs4
      go_upto_region 4 with fail
      clear d0 d1
      generalize wr.alloc (.cells #[.int .i64 C, .slice ax nx cx] 82 (0, 0)) = wb at HC HB1 HWB ⊢
      obtain ⟨z0, z1⟩ := boxi HB1.out
      cases q
      · obtain rfl : R = false := HNO.out k x HX.out HQ.out
        go_wp2_with fail
        refine HC.out.mono ?_
        rintro e w' ⟨rfl, hb⟩
        have HF := Lib.hid (HWB.out.trans (hb.mono HWB.out.size))
        clear hb
        go_wp2_with fail
        go_ret
        exact ⟨rfl, HF.out⟩
      · go_wp2_with fail
        refine HC.out.mono ?_
        rintro e w' ⟨rfl, hb⟩
        have HF := Lib.hid (HWB.out.trans (hb.mono HWB.out.size))
        clear hb
        go_wp2_with fail
        go_roundw
        case rel =>
          refine ⟨k + 1, by omega, by go_num, Lib.hid fun j y hj hy => ?_, HF.out⟩
          by_cases e : j = k
          · subst e
            have hxy : y = x := by have := HX.out; rw [hy] at this; exact Option.some.inj this
            subst hxy
            exact HQ.out
          · exact hall.out j y (by omega) hy
        case measure => simp [intOf]; omega
    · obtain rfl : k = n := by omega
      obtain rfl : R = true := HYES.out fun j x hx => hall.out j x (by rw [← HL.out.1]; exact (List.getElem?_eq_some_iff.1 hx).1) hx
      have HBW := Lib.hid hbw
      clear hbw
      go_wp2_with fail
      go_ret
      exact ⟨rfl, HBW.out⟩
set_option maxRecDepth 100000 in
set_option maxHeartbeats 3200000 in
theorem implAllOf_Pair (w : World) (a : Option Addr) (n c : Nat) (l : List dPair) (h : ListAt shPair (Under w.heap.size) w a n l) (hn : n ≤ 1048576) (hs : Shape.sum shPair.bulk l ≤ 1048576) :
    Calls Tryz.prog 66 #[.slice a n c, .func (.func 67) #[] #[]] w fun e w' => e = .returned (.bool (l.all pairInB)) ∧ Below w.heap.size w w' := by
  obtain ⟨R, hR⟩ : ∃ R, l.all pairInB = R := ⟨_, rfl⟩
  rw [hR]
  have HNO := Lib.hid fun (k : Nat) (x : dPair) (hx : l[k]? = some x) (hf : pairInB x = false) => (show R = false by
    rw [← hR, List.all_eq_false]
    exact ⟨x, List.mem_of_getElem? hx, by rw [hf]; simp⟩)
  have HYES := Lib.hid fun (hy : ∀ (k : Nat) (x : dPair), l[k]? = some x → pairInB x = true) => (show R = true by rw [← hR]; exact all_get.2 hy)
  have HL := Lib.hid h
  have HS := Lib.hid hs
  clear hs
  have eg := eg_pairOk
  clear h hR
  go_enter Tryz.func66, Tryz.ntmps66
  go_wp2_with fail
  go_loopw [9] (fun i wr => ∃ k : Nat, k ≤ n ∧ i = .int .i64 k ∧ Hid (∀ (j : Nat) (x : dPair), j < k → l[j]? = some x → pairInB x = true) ∧ Below w.heap.size w wr) (fun i _ => n - (intOf i).toNat)
  case atStart => exact ⟨0, Nat.zero_le _, rfl, Lib.hid fun j x hj => absurd hj (Nat.not_lt_zero _), Below.refl _ _⟩
  case round =>
    obtain ⟨k, hk, rfl, hall, hbw⟩ := hrel
    by_cases hlt : k < n
    · obtain ⟨b, o, x, ax, nx, cx, ay, ny, cy, hx, rfl, hbB, f0, f1, lx, ly⟩ := pair_at HL.out k hlt
      have d0 := (hbw.cell (p := ⟨b, o + k * 2, none⟩) hbB).trans f0
      have d1 := (hbw.cell (p := ⟨b, o + k * 2 + 1, none⟩) hbB).trans f1
      have hsz := hbw.size
      have hal := (Below.refl wr.heap.size wr).alloc (Nat.le_refl _) (.cells #[.slice ax nx cx, .slice ay ny cy] 68 (0, 0))
      have hb1 := heap_alloc_new wr (.cells #[.slice ax nx cx, .slice ay ny cy] 68 (0, 0))
      have hwb := hbw.trans (hal.mono hsz)
      have hlb := bulk_mem shPair.bulk _ k x hx
      rw [shPair_bulk, bulk_ints, bulk_ints, lx.1, ly.1] at hlb
      have hnx : nx ≤ 1048576 := by have := HS.out; omega
      have hny : ny ≤ 1048576 := by have := HS.out; omega
      have hc := implPairOk_c (wr.alloc (.cells #[.slice ax nx cx, .slice ay ny cy] 68 (0, 0))) ax nx cx ay ny cy x (((lx.ints hnx).below hwb (Nat.le_refl _)).le hwb.size) (((ly.ints hny).below hwb (Nat.le_refl _)).le hwb.size)
      obtain ⟨q, hq⟩ : ∃ q, pairInB x = q := ⟨_, rfl⟩
      rw [hq] at hc
      have HC := Lib.hid hc
      have HX := Lib.hid hx
      have HQ := Lib.hid hq
      have HB1 := Lib.hid hb1
      have HWB := Lib.hid hwb
      clear f0 f1 hx hq hc hb1 hwb hal hbw hbB lx ly hlb
      go_upto_region 4 with fail
      clear d0 d1
      generalize wr.alloc (.cells #[.slice ax nx cx, .slice ay ny cy] 68 (0, 0)) = wb at HC HB1 HWB ⊢
      obtain ⟨z0, z1⟩ := boxi HB1.out
      cases q
      · obtain rfl : R = false := HNO.out k x HX.out HQ.out
        go_wp2_with fail
        refine HC.out.mono ?_
        rintro e w' ⟨rfl, hb⟩
        have HF := Lib.hid (HWB.out.trans (hb.mono HWB.out.size))
        clear hb
        go_wp2_with fail
        go_ret
        exact ⟨rfl, HF.out⟩
      · go_wp2_with fail
        refine HC.out.mono ?_
        rintro e w' ⟨rfl, hb⟩
        have HF := Lib.hid (HWB.out.trans (hb.mono HWB.out.size))
        clear hb
        go_wp2_with fail
        go_roundw
        case rel =>
          refine ⟨k + 1, by omega, by go_num, Lib.hid fun j y hj hy => ?_, HF.out⟩
          by_cases e : j = k
          · subst e
            have hxy : y = x := by have := HX.out; rw [hy] at this; exact Option.some.inj this
            subst hxy
            exact HQ.out
          · exact hall.out j y (by omega) hy
        case measure => simp [intOf]; omega
    · obtain rfl : k = n := by omega
      obtain rfl : R = true := HYES.out fun j x hx => hall.out j x (by rw [← HL.out.1]; exact (List.getElem?_eq_some_iff.1 hx).1) hx
      have HBW := Lib.hid hbw
      clear hbw
      go_wp2_with fail
      go_ret
      exact ⟨rfl, HBW.out⟩
set_option maxRecDepth 100000 in
set_option maxHeartbeats 3200000 in
theorem implAllOf_Ins (w : World) (a : Option Addr) (n c : Nat) (l : List dIns) (h : ListAt shIns (Under w.heap.size) w a n l) (hn : n ≤ 1048576) (g : Nat) (a0 : Option Addr) (n0 c0 : Nat) (hg : g < w.heap.size) (hy : w.cell? ⟨g, 0, none⟩ = some (.slice a0 n0 c0)) :
    Calls Tryz.prog 115 #[.slice a n c, .func (.func 113) #[] #[.pointer (some ⟨g, 0, none⟩)]] w fun e w' => e = .returned (.bool (l.all (insInB n0))) ∧ Below w.heap.size w w' := by
  obtain ⟨R, hR⟩ : ∃ R, l.all (insInB n0) = R := ⟨_, rfl⟩
  rw [hR]
  have HNO := Lib.hid fun (k : Nat) (x : dIns) (hx : l[k]? = some x) (hf : (insInB n0) x = false) => (show R = false by
    rw [← hR, List.all_eq_false]
    exact ⟨x, List.mem_of_getElem? hx, by rw [hf]; simp⟩)
  have HYES := Lib.hid fun (hy : ∀ (k : Nat) (x : dIns), l[k]? = some x → (insInB n0) x = true) => (show R = true by rw [← hR]; exact all_get.2 hy)
  have HL := Lib.hid h
  have HG := Lib.hid hg
  have HY := Lib.hid hy
  clear hg hy
  have eg := eg_ofBatch
  clear h hR
  go_enter Tryz.func115, Tryz.ntmps115
  go_wp2_with fail
  go_loopw [9] (fun i wr => ∃ k : Nat, k ≤ n ∧ i = .int .i64 k ∧ Hid (∀ (j : Nat) (x : dIns), j < k → l[j]? = some x → (insInB n0) x = true) ∧ Below w.heap.size w wr) (fun i _ => n - (intOf i).toNat)
  case atStart => exact ⟨0, Nat.zero_le _, rfl, Lib.hid fun j x hj => absurd hj (Nat.not_lt_zero _), Below.refl _ _⟩
  case round =>
    obtain ⟨k, hk, rfl, hall, hbw⟩ := hrel
    by_cases hlt : k < n
    · obtain ⟨b, o, e, hbB, f0, f1⟩ := plan_at HL.out k hlt
      subst e
      obtain ⟨x, hx⟩ : ∃ x, l[k]? = some x := ⟨_, List.getElem?_eq_getElem (by rw [HL.out.1]; exact hlt)⟩
      have hxe : l.getD k (0, 0) = x := by rw [List.getD_eq_getElem?_getD, hx]; rfl
      rw [hxe] at f0 f1
      obtain ⟨K, hK⟩ : ∃ K, x.1 = K := ⟨_, rfl⟩
      obtain ⟨M, hM⟩ : ∃ M, x.2 = M := ⟨_, rfl⟩
      rw [hK] at f0
      rw [hM] at f1
      have d0 := (hbw.cell (p := ⟨b, o + k * 2, none⟩) hbB).trans f0
      have d1 := (hbw.cell (p := ⟨b, o + k * 2 + 1, none⟩) hbB).trans f1
      have hsz := hbw.size
      have hal := (Below.refl wr.heap.size wr).alloc (Nat.le_refl _) (.cells #[.int .i64 K, .int .i64 M] 105 (0, 0))
      have hb1 := heap_alloc_new wr (.cells #[.int .i64 K, .int .i64 M] 105 (0, 0))
      have hwb := hbw.trans (hal.mono hsz)
      have hc := implOfBatch_c (wr.alloc (.cells #[.int .i64 K, .int .i64 M] 105 (0, 0))) K M g a0 n0 c0 (Nat.lt_of_lt_of_le HG.out hwb.size) ((hwb.cell (p := ⟨g, 0, none⟩) HG.out).trans HY.out)
      rw [← hK, ← hM] at hc
      obtain ⟨q, hq⟩ : ∃ q, (insInB n0) x = q := ⟨_, rfl⟩
      rw [show insInB n0 (x.1, x.2) = q from hq, hK, hM] at hc
      have HC := Lib.hid hc
      have HX := Lib.hid hx
      have HQ := Lib.hid hq
      have HB1 := Lib.hid hb1
      have HWB := Lib.hid hwb
      clear f0 f1 hx hq hc hb1 hwb hal hbw hbB hxe hK hM
      go_upto_region 4 with fail
      clear d0 d1
      generalize wr.alloc (.cells #[.int .i64 K, .int .i64 M] 105 (0, 0)) = wb at HC HB1 HWB ⊢
      obtain ⟨z0, z1⟩ := boxi HB1.out
      cases q
      · obtain rfl : R = false := HNO.out k x HX.out HQ.out
        go_wp2_with fail
        refine HC.out.mono ?_
        rintro e w' ⟨rfl, hb⟩
        have HF := Lib.hid (HWB.out.trans (hb.mono HWB.out.size))
        clear hb
        go_wp2_with fail
        go_ret
        exact ⟨rfl, HF.out⟩
      · go_wp2_with fail
        refine HC.out.mono ?_
        rintro e w' ⟨rfl, hb⟩
        have HF := Lib.hid (HWB.out.trans (hb.mono HWB.out.size))
        clear hb
        go_wp2_with fail
        go_roundw
        case rel =>
          refine ⟨k + 1, by omega, by go_num, Lib.hid fun j y hj hy => ?_, HF.out⟩
          by_cases e : j = k
          · subst e
            have hxy : y = x := by have := HX.out; rw [hy] at this; exact Option.some.inj this
            subst hxy
            exact HQ.out
          · exact hall.out j y (by omega) hy
        case measure => simp [intOf]; omega
    · obtain rfl : k = n := by omega
      obtain rfl : R = true := HYES.out fun j x hx => hall.out j x (by rw [← HL.out.1]; exact (List.getElem?_eq_some_iff.1 hx).1) hx
      have HBW := Lib.hid hbw
      clear hbw
      go_wp2_with fail
      go_ret
      exact ⟨rfl, HBW.out⟩
def stagesB (n m : Nat) (l : List dStage) : Prop := ∀ (k : Nat) (x : dStage), l[k]? = some x → stageInB n m k x = true
set_option maxRecDepth 100000 in
set_option maxHeartbeats 6400000 in
theorem implStagesOk_d (w : World) (es : List Value) (p : dPipe) (h : shPipe.reads (Under w.heap.size) w es p) (hb : shPipe.bulk p ≤ 1048576) (R : Bool) (hR : R = true ↔ stagesB (stagesP p).length (batchP p).length (stagesP p)) :
    Calls Tryz.prog 68 #[.agg es.toArray] w fun e w' => e = .returned (.bool R) ∧ Below w.heap.size w w' := by
  obtain ⟨a0, n0, c0, a1, n1, c1, a2, n2, c2, a3, n3, c3, rfl, ⟨m0, l0, s0⟩, ⟨m1, l1, s1⟩, -, -⟩ := pipe_in h hb
  rw [l0.1, l1.1] at hR
  have HNO := Lib.hid fun (k : Nat) (x : dStage) (hx : (stagesP p)[k]? = some x) (hf : stageInB n1 n0 k x = false) => (show R = false by
    rw [← Bool.not_eq_true, hR]
    intro hh
    have := hh k x hx
    rw [hf] at this
    cases this)
  have HYES := Lib.hid hR.2
  have hal := (Below.refl w.heap.size w).alloc (Nat.le_refl _) (.cells #[.slice a0 n0 c0, .slice a1 n1 c1, .slice a2 n2 c2, .slice a3 n3 c3] 36 (0, 0))
  have hb0 := heap_alloc_new w (.cells #[.slice a0 n0 c0, .slice a1 n1 c1, .slice a2 n2 c2, .slice a3 n3 c3] 36 (0, 0))
  have hs0 : w.heap.size < (w.alloc (.cells #[.slice a0 n0 c0, .slice a1 n1 c1, .slice a2 n2 c2, .slice a3 n3 c3] 36 (0, 0))).heap.size := by simp
  have HA := Lib.hid hal
  have HB0 := Lib.hid hb0
  have L1 := Lib.hid (l1.below hal (Nat.le_refl _))
  have S1 := Lib.hid s1
  clear h hb hR hal hb0 l0 l1 s0 s1
  have hw1 : wrap64 ((n1 : Int) - 1) = (n1 : Int) - 1 := IntWalk.wrap64_in _ (by omega)
  go_enter Tryz.func68, Tryz.ntmps68
  go_upto_region 1 with fail
  generalize w.alloc (.cells #[.slice a0 n0 c0, .slice a1 n1 c1, .slice a2 n2 c2, .slice a3 n3 c3] 36 (0, 0)) = wa at HA HB0 hs0 L1 ⊢
  obtain ⟨z0, z1, z2, z3⟩ := boxp HB0.out
  have CELLS := Lib.hid fun (wx : World) (hx : Below wa.heap.size wa wx) => boxp ((hx.block w.heap.size hs0).trans HB0.out)
  go_wp2_with fail
  clear z0 z1 z2 z3
  go_loopw [10] (fun i wr => ∃ k : Nat, k ≤ n1 ∧ i = .int .i64 k ∧ Hid (∀ (j : Nat) (x : dStage), j < k → (stagesP p)[j]? = some x → stageInB n1 n0 j x = true) ∧ Below wa.heap.size wa wr) (fun i _ => n1 - (intOf i).toNat)
  case atStart => exact ⟨0, Nat.zero_le _, rfl, Lib.hid fun j x hj => absurd hj (Nat.not_lt_zero _), Below.refl _ _⟩
  case round =>
    obtain ⟨k, hk, rfl, hall, hbw⟩ := hrel
    by_cases hlt : k < n1
    · obtain ⟨b, o, x, es, hx, rfl, hbB, hr, hs⟩ := stage_whole L1.out k hlt
      have hbB' : b < wa.heap.size := Nat.lt_of_lt_of_le hbB HA.out.size
      have hr' := rangeAt_kept hr hbB' (Kept.of_below (I := Under wa.heap.size) hbw fun b hb => hb)
      have hs' := shStage.le (shStage.below hs hbw (Nat.le_of_lt hs0)) (Nat.le_trans (Nat.le_of_lt hs0) hbw.size)
      have hbx : shStage.bulk x ≤ 1048576 := Nat.le_trans (bulk_mem shStage.bulk _ k x hx) S1.out
      have hsz := hbw.size
      obtain ⟨b0, nb0, cb0, b1, nb1, cb1, b2, nb2, cb2, b3, nb3, cb3, b4, nb4, cb4, b5, nb5, cb5, b6, nb6, cb6, b7, nb7, cb7, b8, nb8, cb8, rfl, ⟨p0, r0, pl⟩, -⟩ := shStage_reads.1 hs'
      obtain ⟨q0, hq0⟩ : ∃ q, x.1 = q := ⟨_, rfl⟩
      obtain ⟨q3, hq3⟩ : ∃ q, x.2.2.2.1 = q := ⟨_, rfl⟩
      obtain ⟨q4, hq4⟩ : ∃ q, x.2.2.2.2.1 = q := ⟨_, rfl⟩
      obtain ⟨q12, hq12⟩ : ∃ q, x.2.2.2.2.2.2.2.2.2.2.2.2.1 = q := ⟨_, rfl⟩
      obtain ⟨q13, hq13⟩ : ∃ q, x.2.2.2.2.2.2.2.2.2.2.2.2.2 = q := ⟨_, rfl⟩
      rw [hq0, hq3, hq4, hq12, hq13] at hs' hr'
      have hal := (Below.refl wr.heap.size wr).alloc (Nat.le_refl _) (.cells #[.int .i64 q0, .slice b0 nb0 cb0, .slice b1 nb1 cb1, .bool q3, .bool q4, .slice b2 nb2 cb2, .slice b3 nb3 cb3, .slice b4 nb4 cb4, .slice b5 nb5 cb5, .slice b6 nb6 cb6, .slice b7 nb7 cb7, .slice b8 nb8 cb8, .int .i64 q12, .bool q13] 77 (0, 0))
      have hb1 := heap_alloc_new wr (.cells #[.int .i64 q0, .slice b0 nb0 cb0, .slice b1 nb1 cb1, .bool q3, .bool q4, .slice b2 nb2 cb2, .slice b3 nb3 cb3, .slice b4 nb4 cb4, .slice b5 nb5 cb5, .slice b6 nb6 cb6, .slice b7 nb7 cb7, .slice b8 nb8 cb8, .int .i64 q12, .bool q13] 77 (0, 0))
      have hgs : wr.heap.size < (wr.alloc (.cells #[.int .i64 q0, .slice b0 nb0 cb0, .slice b1 nb1 cb1, .bool q3, .bool q4, .slice b2 nb2 cb2, .slice b3 nb3 cb3, .slice b4 nb4 cb4, .slice b5 nb5 cb5, .slice b6 nb6 cb6, .slice b7 nb7 cb7, .slice b8 nb8 cb8, .int .i64 q12, .bool q13] 77 (0, 0))).heap.size := by simp
      have hc := implStageOk_d (wr.alloc (.cells #[.int .i64 q0, .slice b0 nb0 cb0, .slice b1 nb1 cb1, .bool q3, .bool q4, .slice b2 nb2 cb2, .slice b3 nb3 cb3, .slice b4 nb4 cb4, .slice b5 nb5 cb5, .slice b6 nb6 cb6, .slice b7 nb7 cb7, .slice b8 nb8 cb8, .int .i64 q12, .bool q13] 77 (0, 0))) _ x (shStage.le (shStage.below hs' hal (Nat.le_refl _)) (Nat.le_of_lt hgs)) hbx
      obtain ⟨OK, hOK⟩ : ∃ q, stageOkB x = q := ⟨_, rfl⟩
      rw [hOK] at hc
      have hbn : nb0 ≤ 1048576 := by
        rw [shStage_bulk, bulk_ins] at hbx
        have e1 : x.2.1.length = nb0 := pl.1
        omega
      obtain ⟨AL, hAL⟩ : ∃ q, (planS x).all (insInB n0) = q := ⟨_, rfl⟩
      have HAB := Lib.hid (hbw.trans (hal.mono hsz))
      have HPL := Lib.hid (pl.below hal (Nat.le_refl _))
      have HC := Lib.hid hc
      have HB1 := Lib.hid hb1
      have HX := Lib.hid hx
      have HIN : Hid (stageInB n1 n0 k x = (OK && ((q3 == decide (k + 1 = n1)) && AL))) := Lib.hid (by unfold stageInB; rw [hOK, show lastS x = q3 from hq3, hAL])
      have HAL := Lib.hid hAL
      have c100 := hr' 0 _ rfl
      have c101 := hr' 1 _ rfl
      have c102 := hr' 2 _ rfl
      have c103 := hr' 3 _ rfl
      have c104 := hr' 4 _ rfl
      have c105 := hr' 5 _ rfl
      have c106 := hr' 6 _ rfl
      have c107 := hr' 7 _ rfl
      have c108 := hr' 8 _ rfl
      have c109 := hr' 9 _ rfl
      have c110 := hr' 10 _ rfl
      have c111 := hr' 11 _ rfl
      have c112 := hr' 12 _ rfl
      have c113 := hr' 13 _ rfl
      simp only [Nat.add_zero] at c100
      clear hr hs hr' hs' hx hal hb1 hc hOK p0 r0 pl hbx hbB hbB' hAL hbw hq0 hq3 hq4 hq12 hq13
      go_upto_region 5 with fail
      clear c100 c101 c102 c103 c104 c105 c106 c107 c108 c109 c110 c111 c112 c113
      generalize wr.alloc (.cells #[.int .i64 q0, .slice b0 nb0 cb0, .slice b1 nb1 cb1, .bool q3, .bool q4, .slice b2 nb2 cb2, .slice b3 nb3 cb3, .slice b4 nb4 cb4, .slice b5 nb5 cb5, .slice b6 nb6 cb6, .slice b7 nb7 cb7, .slice b8 nb8 cb8, .int .i64 q12, .bool q13] 77 (0, 0)) = wb at HAB HPL HC HB1 hgs ⊢
      have BOX := Lib.hid fun (wx : World) (hx : Below wb.heap.size wb wx) => (show wx.heap[wr.heap.size]? = some (.cells #[.int .i64 q0, .slice b0 nb0 cb0, .slice b1 nb1 cb1, .bool q3, .bool q4, .slice b2 nb2 cb2, .slice b3 nb3 cb3, .slice b4 nb4 cb4, .slice b5 nb5 cb5, .slice b6 nb6 cb6, .slice b7 nb7 cb7, .slice b8 nb8 cb8, .int .i64 q12, .bool q13] 77 (0, 0)) from (hx.block wr.heap.size hgs).trans HB1.out)
      cases OK
      · obtain rfl : R = false := HNO.out k x HX.out (by rw [HIN.out]; rfl)
        have z0 := box14 HB1.out 0 _ rfl
        have z1 := box14 HB1.out 1 _ rfl
        have z2 := box14 HB1.out 2 _ rfl
        have z3 := box14 HB1.out 3 _ rfl
        have z4 := box14 HB1.out 4 _ rfl
        have z5 := box14 HB1.out 5 _ rfl
        have z6 := box14 HB1.out 6 _ rfl
        have z7 := box14 HB1.out 7 _ rfl
        have z8 := box14 HB1.out 8 _ rfl
        have z9 := box14 HB1.out 9 _ rfl
        have z10 := box14 HB1.out 10 _ rfl
        have z11 := box14 HB1.out 11 _ rfl
        have z12 := box14 HB1.out 12 _ rfl
        have z13 := box14 HB1.out 13 _ rfl
        go_wp2_with fail
        clear z0 z1 z2 z3 z4 z5 z6 z7 z8 z9 z10 z11 z12 z13
        refine HC.out.mono ?_
        rintro e w2 ⟨rfl, hb2⟩
        have HW2 := Lib.hid (HAB.out.trans (hb2.mono HAB.out.size))
        have HB2 := Lib.hid hb2
        clear hb2
        have HF := Lib.hid (HA.out.trans (HW2.out.mono HA.out.size))
        go_wp2_with fail
        go_ret
        exact ⟨rfl, HF.out⟩
      by_cases hkn : k + 1 = n1
      · skip
        have HE : Hid (decide (k + 1 = n1) = true) := Lib.hid (decide_eq_true hkn)
        have g1 : ((k : Int) == (n1 : Int) - 1) = true := by
          have h2 := of_decide_eq_true HE.out
          exact beq_iff_eq.2 (by omega)
        clear hkn
        cases q3
        · skip
          obtain rfl : R = false := HNO.out k x HX.out (by rw [HIN.out, HE.out]; rfl)
          have z0 := box14 HB1.out 0 _ rfl
          have z1 := box14 HB1.out 1 _ rfl
          have z2 := box14 HB1.out 2 _ rfl
          have z3 := box14 HB1.out 3 _ rfl
          have z4 := box14 HB1.out 4 _ rfl
          have z5 := box14 HB1.out 5 _ rfl
          have z6 := box14 HB1.out 6 _ rfl
          have z7 := box14 HB1.out 7 _ rfl
          have z8 := box14 HB1.out 8 _ rfl
          have z9 := box14 HB1.out 9 _ rfl
          have z10 := box14 HB1.out 10 _ rfl
          have z11 := box14 HB1.out 11 _ rfl
          have z12 := box14 HB1.out 12 _ rfl
          have z13 := box14 HB1.out 13 _ rfl
          go_wp2_with fail
          clear z0 z1 z2 z3 z4 z5 z6 z7 z8 z9 z10 z11 z12 z13
          refine HC.out.mono ?_
          rintro e w2 ⟨rfl, hb2⟩
          have HW2 := Lib.hid (HAB.out.trans (hb2.mono HAB.out.size))
          have HB2 := Lib.hid hb2
          clear hb2
          have z3 := box14 (BOX.out w2 HB2.out) 3 _ rfl
          obtain ⟨y0, y1, y2, y3⟩ := CELLS.out w2 HW2.out
          have HF := Lib.hid (HA.out.trans (HW2.out.mono HA.out.size))
          go_wp2_with fail
          go_ret
          exact ⟨rfl, HF.out⟩
        · skip
          have z0 := box14 HB1.out 0 _ rfl
          have z1 := box14 HB1.out 1 _ rfl
          have z2 := box14 HB1.out 2 _ rfl
          have z3 := box14 HB1.out 3 _ rfl
          have z4 := box14 HB1.out 4 _ rfl
          have z5 := box14 HB1.out 5 _ rfl
          have z6 := box14 HB1.out 6 _ rfl
          have z7 := box14 HB1.out 7 _ rfl
          have z8 := box14 HB1.out 8 _ rfl
          have z9 := box14 HB1.out 9 _ rfl
          have z10 := box14 HB1.out 10 _ rfl
          have z11 := box14 HB1.out 11 _ rfl
          have z12 := box14 HB1.out 12 _ rfl
          have z13 := box14 HB1.out 13 _ rfl
          go_wp2_with fail
          clear z0 z1 z2 z3 z4 z5 z6 z7 z8 z9 z10 z11 z12 z13
          refine HC.out.mono ?_
          rintro e w2 ⟨rfl, hb2⟩
          have HW2 := Lib.hid (HAB.out.trans (hb2.mono HAB.out.size))
          have HB2 := Lib.hid hb2
          clear hb2
          have z3 := box14 (BOX.out w2 HB2.out) 3 _ rfl
          obtain ⟨y0, y1, y2, y3⟩ := CELLS.out w2 HW2.out
          have z1 := box14 (BOX.out w2 HB2.out) 1 _ rfl
          have hcx := implAllOf_Ins w2 b0 nb0 cb0 (planS x) ((HPL.out.below HB2.out (Nat.le_of_lt hgs)).le (Nat.le_trans (Nat.le_of_lt hgs) HB2.out.size)) hbn w.heap.size a0 n0 c0 (Nat.lt_of_lt_of_le hs0 HW2.out.size) (CELLS.out w2 HW2.out).1
          rw [HAL.out] at hcx
          have HCX := Lib.hid hcx
          clear hcx
          cases AL
          · obtain rfl : R = false := HNO.out k x HX.out (by rw [HIN.out]; simp)
            go_wp2_with fail
            refine HCX.out.mono ?_
            rintro e w3 ⟨rfl, hb⟩
            have HW3 := Lib.hid (HW2.out.trans (hb.mono HW2.out.size))
            clear hb
            have HF := Lib.hid (HA.out.trans (HW3.out.mono HA.out.size))
            go_wp2_with fail
            go_ret
            exact ⟨rfl, HF.out⟩
          · go_wp2_with fail
            refine HCX.out.mono ?_
            rintro e w3 ⟨rfl, hb⟩
            have HW3 := Lib.hid (HW2.out.trans (hb.mono HW2.out.size))
            clear hb
            go_wp2_with fail
            go_roundw
            case rel =>
              refine ⟨k + 1, by omega, by go_num, Lib.hid fun t y ht hy => ?_, HW3.out⟩
              by_cases e : t = k
              · subst e
                have hxy : y = x := by have := HX.out; rw [hy] at this; exact Option.some.inj this
                subst hxy
                rw [HIN.out, HE.out]
                rfl
              · exact hall.out t y (by omega) hy
            case measure => simp [intOf]; omega
      · skip
        have HE : Hid (decide (k + 1 = n1) = false) := Lib.hid (decide_eq_false hkn)
        have g1 : ((k : Int) == (n1 : Int) - 1) = false := by
          have h2 := of_decide_eq_false HE.out
          exact beq_eq_false_iff_ne.2 (by omega)
        clear hkn
        cases q3
        · skip
          have z0 := box14 HB1.out 0 _ rfl
          have z1 := box14 HB1.out 1 _ rfl
          have z2 := box14 HB1.out 2 _ rfl
          have z3 := box14 HB1.out 3 _ rfl
          have z4 := box14 HB1.out 4 _ rfl
          have z5 := box14 HB1.out 5 _ rfl
          have z6 := box14 HB1.out 6 _ rfl
          have z7 := box14 HB1.out 7 _ rfl
          have z8 := box14 HB1.out 8 _ rfl
          have z9 := box14 HB1.out 9 _ rfl
          have z10 := box14 HB1.out 10 _ rfl
          have z11 := box14 HB1.out 11 _ rfl
          have z12 := box14 HB1.out 12 _ rfl
          have z13 := box14 HB1.out 13 _ rfl
          go_wp2_with fail
          clear z0 z1 z2 z3 z4 z5 z6 z7 z8 z9 z10 z11 z12 z13
          refine HC.out.mono ?_
          rintro e w2 ⟨rfl, hb2⟩
          have HW2 := Lib.hid (HAB.out.trans (hb2.mono HAB.out.size))
          have HB2 := Lib.hid hb2
          clear hb2
          have z3 := box14 (BOX.out w2 HB2.out) 3 _ rfl
          obtain ⟨y0, y1, y2, y3⟩ := CELLS.out w2 HW2.out
          have z1 := box14 (BOX.out w2 HB2.out) 1 _ rfl
          have hcx := implAllOf_Ins w2 b0 nb0 cb0 (planS x) ((HPL.out.below HB2.out (Nat.le_of_lt hgs)).le (Nat.le_trans (Nat.le_of_lt hgs) HB2.out.size)) hbn w.heap.size a0 n0 c0 (Nat.lt_of_lt_of_le hs0 HW2.out.size) (CELLS.out w2 HW2.out).1
          rw [HAL.out] at hcx
          have HCX := Lib.hid hcx
          clear hcx
          cases AL
          · obtain rfl : R = false := HNO.out k x HX.out (by rw [HIN.out]; simp)
            go_wp2_with fail
            refine HCX.out.mono ?_
            rintro e w3 ⟨rfl, hb⟩
            have HW3 := Lib.hid (HW2.out.trans (hb.mono HW2.out.size))
            clear hb
            have HF := Lib.hid (HA.out.trans (HW3.out.mono HA.out.size))
            go_wp2_with fail
            go_ret
            exact ⟨rfl, HF.out⟩
          · go_wp2_with fail
            refine HCX.out.mono ?_
            rintro e w3 ⟨rfl, hb⟩
            have HW3 := Lib.hid (HW2.out.trans (hb.mono HW2.out.size))
            clear hb
            go_wp2_with fail
            go_roundw
            case rel =>
              refine ⟨k + 1, by omega, by go_num, Lib.hid fun t y ht hy => ?_, HW3.out⟩
              by_cases e : t = k
              · subst e
                have hxy : y = x := by have := HX.out; rw [hy] at this; exact Option.some.inj this
                subst hxy
                rw [HIN.out, HE.out]
                rfl
              · exact hall.out t y (by omega) hy
            case measure => simp [intOf]; omega
        · skip
          obtain rfl : R = false := HNO.out k x HX.out (by rw [HIN.out, HE.out]; rfl)
          have z0 := box14 HB1.out 0 _ rfl
          have z1 := box14 HB1.out 1 _ rfl
          have z2 := box14 HB1.out 2 _ rfl
          have z3 := box14 HB1.out 3 _ rfl
          have z4 := box14 HB1.out 4 _ rfl
          have z5 := box14 HB1.out 5 _ rfl
          have z6 := box14 HB1.out 6 _ rfl
          have z7 := box14 HB1.out 7 _ rfl
          have z8 := box14 HB1.out 8 _ rfl
          have z9 := box14 HB1.out 9 _ rfl
          have z10 := box14 HB1.out 10 _ rfl
          have z11 := box14 HB1.out 11 _ rfl
          have z12 := box14 HB1.out 12 _ rfl
          have z13 := box14 HB1.out 13 _ rfl
          go_wp2_with fail
          clear z0 z1 z2 z3 z4 z5 z6 z7 z8 z9 z10 z11 z12 z13
          refine HC.out.mono ?_
          rintro e w2 ⟨rfl, hb2⟩
          have HW2 := Lib.hid (HAB.out.trans (hb2.mono HAB.out.size))
          have HB2 := Lib.hid hb2
          clear hb2
          have z3 := box14 (BOX.out w2 HB2.out) 3 _ rfl
          obtain ⟨y0, y1, y2, y3⟩ := CELLS.out w2 HW2.out
          have HF := Lib.hid (HA.out.trans (HW2.out.mono HA.out.size))
          go_wp2_with fail
          go_ret
          exact ⟨rfl, HF.out⟩
    · obtain rfl : k = n1 := by omega
      obtain rfl : R = true := HYES.out fun t x hx => hall.out t x (by rw [← L1.out.1]; exact (List.getElem?_eq_some_iff.1 hx).1) hx
      have HF := Lib.hid (HA.out.trans (hbw.mono HA.out.size))
      clear hbw
      go_wp2_with fail
      go_ret
      exact ⟨rfl, HF.out⟩
set_option maxRecDepth 100000 in
set_option maxHeartbeats 6400000 in
theorem implPipeOk_d (w : World) (es : List Value) (p : dPipe) (h : shPipe.reads (Under w.heap.size) w es p) (hb : shPipe.bulk p ≤ 1048576) :
    Calls Tryz.prog 21 #[.agg es.toArray] w fun e w' => e = .returned (.bool (pipeOkB p)) ∧ Below w.heap.size w w' := by
  obtain ⟨a0, n0, c0, a1, n1, c1, a2, n2, c2, a3, n3, c3, rfl, ⟨m0, l0, s0⟩, ⟨m1, l1, s1⟩, ⟨m2, l2, s2⟩, ⟨m3, l3, s3⟩⟩ := pipe_in h hb
  obtain ⟨R, hR⟩ : ∃ R, pipeOkB p = R := ⟨_, rfl⟩
  rw [hR]
  have HNO := Lib.hid fun (hn : ¬ PipeOkP p) => pipe_no hR hn
  have HYES := Lib.hid fun (hn : PipeOkP p) => pipe_yes hR hn
  obtain ⟨SB, hSB⟩ : ∃ q : Bool, q = true ↔ stagesB (stagesP p).length (batchP p).length (stagesP p) := by
    rcases Classical.em (stagesB (stagesP p).length (batchP p).length (stagesP p)) with hh | hh
    · exact ⟨true, by simp [hh]⟩
    · exact ⟨false, by simp [hh]⟩
  have hal := (Below.refl w.heap.size w).alloc (Nat.le_refl _) (.cells #[.slice a0 n0 c0, .slice a1 n1 c1, .slice a2 n2 c2, .slice a3 n3 c3] 36 (0, 0))
  have hb0 := heap_alloc_new w (.cells #[.slice a0 n0 c0, .slice a1 n1 c1, .slice a2 n2 c2, .slice a3 n3 c3] 36 (0, 0))
  have hs0 : w.heap.size < (w.alloc (.cells #[.slice a0 n0 c0, .slice a1 n1 c1, .slice a2 n2 c2, .slice a3 n3 c3] 36 (0, 0))).heap.size := by simp
  have HA := Lib.hid hal
  have HB0 := Lib.hid hb0
  obtain ⟨QA, hQA⟩ : ∃ q, (actsP p).all queueOkB = q := ⟨_, rfl⟩
  obtain ⟨QB, hQB⟩ : ∃ q, (backsP p).all queueOkB = q := ⟨_, rfl⟩
  obtain ⟨PA, hPA⟩ : ∃ q, (batchP p).all pairInB = q := ⟨_, rfl⟩
  have CA := Lib.hid fun (wx : World) (hx : Below w.heap.size w wx) => hQA ▸ implAllOf_Queue wx a2 n2 c2 (actsP p) ((l2.below hx (Nat.le_refl _)).le hx.size) m2 s2
  have CB := Lib.hid fun (wx : World) (hx : Below w.heap.size w wx) => hQB ▸ implAllOf_Queue wx a3 n3 c3 (backsP p) ((l3.below hx (Nat.le_refl _)).le hx.size) m3 s3
  have CP := Lib.hid fun (wx : World) (hx : Below w.heap.size w wx) => hPA ▸ implAllOf_Pair wx a0 n0 c0 (batchP p) ((l0.below hx (Nat.le_refl _)).le hx.size) m0 s0
  have CS := Lib.hid fun (wx : World) (hx : Below w.heap.size w wx) => implStagesOk_d wx _ p (shPipe.le (shPipe.below h hx (Nat.le_refl _)) hx.size) hb SB hSB
  have HQA := Lib.hid hQA
  have HQB := Lib.hid hQB
  have HPA := Lib.hid hPA
  have HSB := Lib.hid hSB
  have N0 := Lib.hid l0.1
  have N1 := Lib.hid l1.1
  have N2 := Lib.hid l2.1
  have N3 := Lib.hid l3.1
  have HSZ : Hid (PipeOkP p → 1 ≤ n1 ∧ n1 ≤ 4 ∧ n2 + 1 = n1 ∧ n3 + 1 = n1 ∧ 1 ≤ n0 ∧ n0 ≤ 5) := Lib.hid fun h => by
    have := of_decide_eq_true h.1
    rw [l0.1, l1.1, l2.1, l3.1] at this
    exact this
  clear h hb hR hal hb0 l0 l1 l2 l3 s0 s1 s2 s3 hQA hQB hPA hSB
  go_enter Tryz.func21, Tryz.ntmps21
  go_upto_region 1 with fail
  generalize w.alloc (.cells #[.slice a0 n0 c0, .slice a1 n1 c1, .slice a2 n2 c2, .slice a3 n3 c3] 36 (0, 0)) = wa at HA HB0 hs0 ⊢
  obtain ⟨z0, z1, z2, z3⟩ := boxp HB0.out
  go_quiet (fail)
  have hbn := below_drewN HA.out nq
  have k0 : (wa.drewN nq).heap[w.heap.size]? = _ := HB0.out
  have hsn : w.heap.size < (wa.drewN nq).heap.size := hs0
  clear HA HB0 hs0 z0 z1 z2 z3
  have HA := Lib.hid hbn
  have HB0 := Lib.hid k0
  have hs0 := hsn
  clear hbn k0 hsn
  generalize wa.drewN nq = wn at HA HB0 hs0 ⊢
  obtain ⟨z0, z1, z2, z3⟩ := boxp HB0.out
  have CELLS := Lib.hid fun (wx : World) (hx : Below wn.heap.size wn wx) => boxp ((hx.block w.heap.size hs0).trans HB0.out)
  by_cases t0 : n1 < 1
  case pos =>
    have g0 : decide ((n1 : Int) < 1) = true := decide_eq_true (by omega)
    obtain rfl : R = false := HNO.out fun h => by
      have h1 := HSZ.out h
      omega
    go_wp2_with fail
    go_ret
    exact ⟨rfl, HA.out⟩
  have g0 : decide ((n1 : Int) < 1) = false := decide_eq_false (by omega)
  by_cases t1 : 4 < n1
  case pos =>
    have g1 : decide ((n1 : Int) > 4) = true := decide_eq_true (by omega)
    obtain rfl : R = false := HNO.out fun h => by
      have h1 := HSZ.out h
      omega
    go_wp2_with fail
    go_ret
    exact ⟨rfl, HA.out⟩
  have g1 : decide ((n1 : Int) > 4) = false := decide_eq_false (by omega)
  by_cases t2 : n0 < 1
  case pos =>
    have g2 : decide ((n0 : Int) < 1) = true := decide_eq_true (by omega)
    obtain rfl : R = false := HNO.out fun h => by
      have h1 := HSZ.out h
      omega
    go_wp2_with fail
    go_ret
    exact ⟨rfl, HA.out⟩
  have g2 : decide ((n0 : Int) < 1) = false := decide_eq_false (by omega)
  by_cases t3 : 5 < n0
  case pos =>
    have g3 : decide ((n0 : Int) > 5) = true := decide_eq_true (by omega)
    obtain rfl : R = false := HNO.out fun h => by
      have h1 := HSZ.out h
      omega
    go_wp2_with fail
    go_ret
    exact ⟨rfl, HA.out⟩
  have g3 : decide ((n0 : Int) > 5) = false := decide_eq_false (by omega)
  have hw1 : wrap64 ((n1 : Int) - 1) = (n1 : Int) - 1 := IntWalk.wrap64_in _ (by omega)
  by_cases t4 : n2 + 1 = n1
  case neg =>
    have g4 : ((n2 : Int) == (n1 : Int) - 1) = false := beq_eq_false_iff_ne.2 (by omega)
    obtain rfl : R = false := HNO.out fun h => t4 (HSZ.out h).2.2.1
    go_wp2_with fail
    go_ret
    exact ⟨rfl, HA.out⟩
  have g4 : ((n2 : Int) == (n1 : Int) - 1) = true := beq_iff_eq.2 (by omega)
  cases QA
  · obtain rfl : R = false := HNO.out fun h => by
      have h1 := all_get.2 h.2.2.1
      rw [HQA.out] at h1
      cases h1
    go_wp2_with fail
    refine (CA.out _ HA.out).mono ?_
    rintro e w1 ⟨rfl, hb⟩
    have HW1 := Lib.hid (HA.out.trans (hb.mono HA.out.size))
    have HB1 := Lib.hid hb
    clear hb z0 z1 z2 z3
    obtain ⟨z0, z1, z2, z3⟩ := CELLS.out w1 HB1.out
    go_wp2_with fail
    go_ret
    exact ⟨rfl, HW1.out⟩
  by_cases t5 : n3 + 1 = n1
  case neg =>
    have g5 : ((n3 : Int) == (n1 : Int) - 1) = false := beq_eq_false_iff_ne.2 (by omega)
    obtain rfl : R = false := HNO.out fun h => t5 (HSZ.out h).2.2.2.1
    go_wp2_with fail
    refine (CA.out _ HA.out).mono ?_
    rintro e w1 ⟨rfl, hb⟩
    have HW1 := Lib.hid (HA.out.trans (hb.mono HA.out.size))
    have HB1 := Lib.hid hb
    clear hb z0 z1 z2 z3
    obtain ⟨z0, z1, z2, z3⟩ := CELLS.out w1 HB1.out
    go_wp2_with fail
    go_ret
    exact ⟨rfl, HW1.out⟩
  have g5 : ((n3 : Int) == (n1 : Int) - 1) = true := beq_iff_eq.2 (by omega)
  go_wp2_with fail
  refine (CA.out _ HA.out).mono ?_
  rintro e w1 ⟨rfl, hb⟩
  have HW1 := Lib.hid (HA.out.trans (hb.mono HA.out.size))
  have HB1 := Lib.hid hb
  clear hb z0 z1 z2 z3
  obtain ⟨z0, z1, z2, z3⟩ := CELLS.out w1 HB1.out
  cases QB
  · obtain rfl : R = false := HNO.out fun h => by
      have h1 := all_get.2 h.2.2.2.1
      rw [HQB.out] at h1
      cases h1
    go_wp2_with fail
    refine (CB.out _ HW1.out).mono ?_
    rintro e w2 ⟨rfl, hb⟩
    have HW2 := Lib.hid (HW1.out.trans (hb.mono HW1.out.size))
    have HB2 := Lib.hid (HB1.out.trans (hb.mono HB1.out.size))
    clear hb z0 z1 z2 z3
    obtain ⟨z0, z1, z2, z3⟩ := CELLS.out w2 HB2.out
    go_wp2_with fail
    go_ret
    exact ⟨rfl, HW2.out⟩
  go_wp2_with fail
  refine (CB.out _ HW1.out).mono ?_
  rintro e w2 ⟨rfl, hb⟩
  have HW2 := Lib.hid (HW1.out.trans (hb.mono HW1.out.size))
  have HB2 := Lib.hid (HB1.out.trans (hb.mono HB1.out.size))
  clear hb z0 z1 z2 z3
  obtain ⟨z0, z1, z2, z3⟩ := CELLS.out w2 HB2.out
  cases PA
  · obtain rfl : R = false := HNO.out fun h => by
      have h1 := all_get.2 h.2.2.2.2
      rw [HPA.out] at h1
      cases h1
    go_wp2_with fail
    refine (CP.out _ HW2.out).mono ?_
    rintro e w3 ⟨rfl, hb⟩
    have HW3 := Lib.hid (HW2.out.trans (hb.mono HW2.out.size))
    have HB3 := Lib.hid (HB2.out.trans (hb.mono HB2.out.size))
    clear hb z0 z1 z2 z3
    obtain ⟨z0, z1, z2, z3⟩ := CELLS.out w3 HB3.out
    go_wp2_with fail
    go_ret
    exact ⟨rfl, HW3.out⟩
  go_wp2_with fail
  refine (CP.out _ HW2.out).mono ?_
  rintro e w3 ⟨rfl, hb⟩
  have HW3 := Lib.hid (HW2.out.trans (hb.mono HW2.out.size))
  have HB3 := Lib.hid (HB2.out.trans (hb.mono HB2.out.size))
  clear hb z0 z1 z2 z3
  obtain ⟨z0, z1, z2, z3⟩ := CELLS.out w3 HB3.out
  cases SB
  · obtain rfl : R = false := HNO.out fun h => by
      have h1 := HSB.out.2 h.2.1
      cases h1
    go_wp2_with fail
    refine (CS.out _ HW3.out).mono ?_
    rintro e w4 ⟨rfl, hb⟩
    have HW4 := Lib.hid (HW3.out.trans (hb.mono HW3.out.size))
    clear hb
    go_wp2_with fail
    go_ret
    exact ⟨rfl, HW4.out⟩
  obtain rfl : R = true := HYES.out ⟨by rw [N0.out, N1.out, N2.out, N3.out]; exact decide_eq_true (by omega), HSB.out.1 rfl, all_get.1 HQA.out, all_get.1 HQB.out, all_get.1 HPA.out⟩
  go_wp2_with fail
  refine (CS.out _ HW3.out).mono ?_
  rintro e w4 ⟨rfl, hb⟩
  have HW4 := Lib.hid (HW3.out.trans (hb.mono HW3.out.size))
  clear hb
  go_wp2_with fail
  go_ret
  exact ⟨rfl, HW4.out⟩
end Go.Proofs.YtcooobnaocbdjaaGreat
