/-
  Queues: the program's itemOk, QueueOk and QueueWords.
-/
import Derived.Test.YtcooobnaocbdjaaGreatJoin40
namespace Go.Proofs.YtcooobnaocbdjaaGreat
open Go.RowKit Go.Sort
set_option linter.unusedVariables false
set_option linter.unusedSimpArgs false

theorem itemOk_low {m : Int} {ys : List Int} (h : m < 0) : itemOkB (m, ys) = false := by
  unfold itemOkB
  rw [inB_no (by show m < 0 ∨ 4 < m; omega), Bool.and_false]
theorem itemOk_high {m : Int} {ys : List Int} (h : 5 ≤ m) : itemOkB (m, ys) = false := by
  unfold itemOkB
  rw [inB_no (by show m < 0 ∨ 4 < m; omega), Bool.and_false]
theorem itemOk_in {m : Int} {ys : List Int} (h0 : 0 ≤ m) (h5 : m < 5) : itemOkB (m, ys) = vecOkB ys := by
  unfold itemOkB
  rw [inB_yes (show 0 ≤ m from h0) (show m ≤ 4 by omega), Bool.and_true]
set_option maxRecDepth 100000 in
theorem implItemOk_any (w : World) (m : Int) (ax : Option Addr) (nx cx : Nat) (ys : List Int) (h : IntsIn w.heap.size w ax nx ys) :
    Calls Tryz.prog 111 #[.agg #[.int .i64 m, .slice ax nx cx]] w fun e w' => e = .returned (.bool (itemOkB (m, ys))) ∧ Below w.heap.size w w' := by
  obtain ⟨R, hR⟩ : ∃ R, itemOkB (m, ys) = R := ⟨_, rfl⟩
  rw [hR]
  have hal : Below w.heap.size w (w.alloc (.cells #[.int .i64 m, .slice ax nx cx] 163 (0, 0))) := (Below.refl _ _).alloc (Nat.le_refl _) _
  have hb0 := heap_alloc_new w (.cells #[.int .i64 m, .slice ax nx cx] 163 (0, 0))
  have hC := implVecOk_any _ ax nx cx ys ((h.below hal (Nat.le_refl _)).le hal.size)
  have HA := Lib.hid hal
  have HB0 := Lib.hid hb0
  have HC := Lib.hid hC
  have HR := Lib.hid hR
  clear hal hb0 hC hR h
  by_cases h0 : 0 ≤ m
  · have d0 : decide (0 ≤ m) = true := decide_eq_true h0
    by_cases h5 : m < 5
    · have d5 : decide (m < 5) = true := decide_eq_true h5
      have hR2 : vecOkB ys = R := by rw [← HR.out, itemOk_in h0 h5]
      rw [hR2] at HC
      clear hR2
      go_enter Tryz.func111, Tryz.ntmps111
      go_upto_region 1 with fail
      generalize w.alloc (.cells #[.int .i64 m, .slice ax nx cx] 163 (0, 0)) = wa at HA HB0 HC ⊢
      obtain ⟨z0, z1⟩ := boxq HB0.out
      go_wp2_with fail
      refine HC.out.mono ?_
      rintro e w' ⟨rfl, rfl⟩
      cases R
      all_goals
        go_wp2_with fail
        go_ret
        exact ⟨rfl, HA.out⟩
    · have d5 : decide (m < 5) = false := decide_eq_false h5
      obtain rfl : R = false := by rw [← HR.out]; exact itemOk_high (by omega)
      go_enter Tryz.func111, Tryz.ntmps111
      go_upto_region 1 with fail
      generalize w.alloc (.cells #[.int .i64 m, .slice ax nx cx] 163 (0, 0)) = wa at HA HB0 HC ⊢
      obtain ⟨z0, z1⟩ := boxq HB0.out
      clear HC
      go_wp2_with fail
      go_ret
      exact ⟨rfl, HA.out⟩
  · have d0 : decide (0 ≤ m) = false := decide_eq_false h0
    obtain rfl : R = false := by rw [← HR.out]; exact itemOk_low (by omega)
    go_enter Tryz.func111, Tryz.ntmps111
    go_upto_region 1 with fail
    generalize w.alloc (.cells #[.int .i64 m, .slice ax nx cx] 163 (0, 0)) = wa at HA HB0 HC ⊢
    obtain ⟨z0, z1⟩ := boxq HB0.out
    clear HC
    go_wp2_with fail
    go_ret
    exact ⟨rfl, HA.out⟩

theorem queueOk_out {cap : Int} {l : List dItem} (h : cap < 1 ∨ 5 < cap ∨ cap < (l.length : Int)) : queueOkB (cap, l) = false := by
  cases e : queueOkB (cap, l) with
  | false => rfl
  | true =>
    obtain ⟨-, h1, h2, h3⟩ := queueOk_has e
    replace h1 : 1 ≤ cap := h1
    replace h2 : cap ≤ 5 := h2
    replace h3 : (l.length : Int) ≤ cap := h3
    omega
theorem queueOk_in {cap : Int} {l : List dItem} (h1 : 1 ≤ cap) (h5 : cap ≤ 5) (hl : (l.length : Int) ≤ cap) (h : ∀ (j : Nat) (x : dItem), l[j]? = some x → itemOkB x = true) : queueOkB (cap, l) = true := by
  rw [queueOk_all h]
  show (inB 1 5 cap && decide ((l.length : Int) ≤ cap)) = true
  rw [inB_yes h1 h5, decide_eq_true hl]
  rfl
set_option maxRecDepth 100000 in
set_option maxHeartbeats 3200000 in
theorem implQueueOk_c (w : World) (cap : Int) (a : Option Addr) (n c : Nat) (l : List dItem) (h : ListAt shItem (Under w.heap.size) w a n l) (hn : n ≤ 1048576) (hb : Shape.sum shItem.bulk l ≤ 1048576) :
    Calls Tryz.prog 65 #[.agg #[.int .i64 cap, .slice a n c]] w fun e w' => e = .returned (.bool (queueOkB (cap, l))) ∧ Below w.heap.size w w' := by
  obtain ⟨R, hR⟩ : ∃ R, queueOkB (cap, l) = R := ⟨_, rfl⟩
  rw [hR]
  have hal : Below w.heap.size w (w.alloc (.cells #[.int .i64 cap, .slice a n c] 82 (0, 0))) := (Below.refl _ _).alloc (Nat.le_refl _) _
  have hb0 := heap_alloc_new w (.cells #[.int .i64 cap, .slice a n c] 82 (0, 0))
  have hL := (h.below hal (Nat.le_refl _)).le hal.size
  have HA := Lib.hid hal
  have HB0 := Lib.hid hb0
  have HL := Lib.hid hL
  have HR := Lib.hid hR
  have HLEN := Lib.hid h.1
  have HBK := Lib.hid hb
  clear hal hb0 hL h hR hb
  go_enter Tryz.func65, Tryz.ntmps65
  go_upto_region 1 with fail
  generalize w.alloc (.cells #[.int .i64 cap, .slice a n c] 82 (0, 0)) = wa at HA HB0 HL ⊢
  obtain ⟨z0, z1⟩ := boxq HB0.out
  have hsa := HA.out.size
  have hqq : (cap < 1 ∨ 5 < cap ∨ cap < (n : Int)) → R = false := fun h => by rw [← HR.out]; exact queueOk_out (by rw [HLEN.out]; exact h)
  have HQQ := Lib.hid hqq
  clear hqq
  by_cases g1 : cap < 1
  · have d1 : decide (cap < 1) = true := decide_eq_true g1
    obtain rfl : R = false := HQQ.out (.inl g1)
    go_wp2_with fail
    go_ret
    exact ⟨rfl, HA.out⟩
  · have d1 : decide (cap < 1) = false := decide_eq_false g1
    by_cases g2 : 5 < cap
    · have d2 : decide (5 < cap) = true := decide_eq_true g2
      obtain rfl : R = false := HQQ.out (.inr (.inl g2))
      go_wp2_with fail
      go_ret
      exact ⟨rfl, HA.out⟩
    · have d2 : decide (5 < cap) = false := decide_eq_false g2
      by_cases g3 : cap < (n : Int)
      · have d3 : decide (cap < (n : Int)) = true := decide_eq_true g3
        obtain rfl : R = false := HQQ.out (.inr (.inr g3))
        go_wp2_with fail
        go_ret
        exact ⟨rfl, HA.out⟩
      · have d3 : decide (cap < (n : Int)) = false := decide_eq_false g3
        go_wp2_with fail
        go_loopw [24] (fun i wr => ∃ k : Nat, k ≤ n ∧ i = .int .i64 k ∧ Hid (∀ (j : Nat) (x : dItem), j < k → l[j]? = some x → itemOkB x = true) ∧ Below wa.heap.size wa wr) (fun i _ => n - (intOf i).toNat)
        case atStart => exact ⟨0, Nat.zero_le _, rfl, Lib.hid fun j x hj => absurd hj (Nat.not_lt_zero _), Below.refl _ _⟩
        case round =>
          obtain ⟨k, hk, rfl, hall, hbw⟩ := hrel
          have hsz := hbw.size
          by_cases hlt : k < n
          · obtain ⟨b, o, x, ax, nx, cx, hx, rfl, hbB, hc0, hc1, -, -, hlx⟩ := item_at HL.out k hlt
            have hbx := bulk_mem shItem.bulk l k x hx
            rw [shItem_bulk, bulk_ints, hlx.1] at hbx
            have hnx : nx ≤ 1048576 := by have := HBK.out; omega
            have hix := (hlx.ints hnx).below hbw (Nat.le_refl _)
            have e0 := (hbw.cell (p := ⟨b, o + k * 2, none⟩) hbB).trans hc0
            have e1 := (hbw.cell (p := ⟨b, o + k * 2 + 1, none⟩) hbB).trans hc1
            obtain ⟨M, hM⟩ : ∃ M, x.1 = M := ⟨_, rfl⟩
            rw [hM] at e0
            have hal := (Below.refl wr.heap.size wr).alloc (Nat.le_refl _) (.cells #[.int .i64 M, .slice ax nx cx] 163 (0, 0))
            have hbk := heap_alloc_new wr (.cells #[.int .i64 M, .slice ax nx cx] 163 (0, 0))
            have hC := implItemOk_any (wr.alloc (.cells #[.int .i64 M, .slice ax nx cx] 163 (0, 0))) M ax nx cx x.2 ((hix.below (hal.mono hsz) (Nat.le_refl _)).le (Nat.le_trans hsz hal.size))
            obtain ⟨q, hq⟩ : ∃ q, itemOkB x = q := ⟨_, rfl⟩
            have hxe : (M, x.2) = x := by rw [← hM]
            rw [hxe, hq] at hC
            have HC := Lib.hid hC
            have HX := Lib.hid hx
            have HIO := Lib.hid hq
            have HAL := Lib.hid hal
            have HBK2 := Lib.hid hbk
            have HBW := Lib.hid hbw
            clear hx hlx hix hM hxe hq hbx hC hal hbk hc0 hc1 hbw
            go_upto_region 6 with fail
            clear e0 e1 z0 z1
            generalize wr.alloc (.cells #[.int .i64 M, .slice ax nx cx] 163 (0, 0)) = wb at HC HAL HBK2 ⊢
            obtain ⟨y0, y1⟩ := boxq HBK2.out
            have hsb := HAL.out.size
            cases q
            · obtain rfl : R = false := by rw [← HR.out]; exact queueOk_at HX.out HIO.out
              go_wp2_with fail
              refine HC.out.mono ?_
              rintro e w' ⟨rfl, hb⟩
              have hfin := HA.out.trans ((HBW.out.trans ((HAL.out.trans (hb.mono hsb)).mono hsz)).mono hsa)
              have HF := Lib.hid hfin
              clear hfin hb y0 y1
              go_wp2_with fail
              go_ret
              exact ⟨rfl, HF.out⟩
            · go_wp2_with fail
              refine HC.out.mono ?_
              rintro e w' ⟨rfl, hb⟩
              have hfin := HBW.out.trans ((HAL.out.trans (hb.mono hsb)).mono hsz)
              have HF := Lib.hid hfin
              clear hfin hb y0 y1
              go_wp2_with fail
              go_roundw
              case rel =>
                refine ⟨k + 1, by omega, by go_num, Lib.hid fun j y hj hy => ?_, HF.out⟩
                by_cases e : j = k
                · subst e
                  rw [HX.out] at hy
                  cases hy
                  exact HIO.out
                · exact hall.out j y (by omega) hy
              case measure => simp [intOf]; omega
          · obtain rfl : k = n := by omega
            obtain rfl : R = true := by
              rw [← HR.out]
              exact queueOk_in (by omega) (by omega) (by rw [HLEN.out]; omega) fun j x hx => hall.out j x (by rw [← HLEN.out]; exact (List.getElem?_eq_some_iff.1 hx).1) hx
            have HF := Lib.hid (HA.out.trans (hbw.mono hsa))
            clear hbw
            go_wp2_with fail
            go_ret
            exact ⟨rfl, HF.out⟩
end Go.Proofs.YtcooobnaocbdjaaGreat
