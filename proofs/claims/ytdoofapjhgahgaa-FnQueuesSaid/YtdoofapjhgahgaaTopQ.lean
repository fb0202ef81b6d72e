import Derived.Test.YtdoofapjhgahgaaQueD
import Derived.Test.YtdoofapjhgahgaaQueC
import Derived.Test.YtdoofapjhgahgaaHeldK
import Derived.Test.YtdoofapjhgahgaaGrow
import Derived.ArgAppend
import Derived.Test.YtdoofapjhgahgaaQueP
import Derived.Test.YtdoofapjhgahgaaQueN
import Derived.Test.YtdoofapjhgahgaaQueR
import Derived.Test.YtdoofapjhgahgaaOwnQ
import Derived.Test.YtdoofapjhgahgaaDrawVec
import Derived.Test.YtdoofapjhgahgaaLaws
/-! YtdoofapjhgahgaaQueI -/
section

namespace Go.Proofs.Ytdoofapjhgahgaa
open Go.RowKit Go.Sort
set_option linter.unusedVariables false
set_option linter.unusedSimpArgs false

theorem itemOk_low {m : Int} {ys : List Int} (h : m < 0) : itemOkB (m, ys) = false := by
  unfold itemOkB
  rw [inB_no (by show m < 0 ∨ 4 < m; omega), Bool.and_false]
theorem itemOk_high {m : Int} {ys : List Int} (h : 5 ≤ m) : itemOkB (m, ys) = false := by
  unfold itemOkB
  rw [inB_no (by show m < 0 ∨ 4 < m; omega), Bool.and_false]
theorem itemOk_in {m : Int} {ys : List Int} (h0 : 0 ≤ m) (h5 : m < 5) : itemOkB (m, ys) = vecOkB ys := by
  unfold itemOkB
  rw [inB_yes (show 0 ≤ m from h0) (show m ≤ 4 by omega), Bool.and_true]
set_option maxRecDepth 100000 in
theorem implItemOk_any (w : World) (m : Int) (ax : Option Addr) (nx cx : Nat) (ys : List Int) (h : IntsIn w.heap.size w ax nx ys) :
    Calls Try.prog 34 #[.agg #[.int .i64 m, .slice ax nx cx]] w fun e w' => e = .returned (.bool (itemOkB (m, ys))) ∧ Below w.heap.size w w' := by
  obtain ⟨R, hR⟩ : ∃ R, itemOkB (m, ys) = R := ⟨_, rfl⟩
  rw [hR]
  have hal : Below w.heap.size w (w.alloc (.cells #[.int .i64 m, .slice ax nx cx] 29 (0, 0))) := (Below.refl _ _).alloc (Nat.le_refl _) _
  have hb0 := heap_alloc_new w (.cells #[.int .i64 m, .slice ax nx cx] 29 (0, 0))
  have hC := implVecOk_any _ ax nx cx ys ((h.below hal (Nat.le_refl _)).le hal.size)
  have HA := Lib.hid hal
  have HB0 := Lib.hid hb0
  have HC := Lib.hid hC
  have HR := Lib.hid hR
  clear hal hb0 hC hR h
  by_cases h0 : 0 ≤ m
  · have d0 : decide (0 ≤ m) = true := decide_eq_true h0
    by_cases h5 : m < 5
    · have d5 : decide (m < 5) = true := decide_eq_true h5
      have hR2 : vecOkB ys = R := by rw [← HR.out, itemOk_in h0 h5]
      rw [hR2] at HC
      clear hR2
      go_enter Try.func34, Try.ntmps34
      go_upto_region 1 with fail
      generalize w.alloc (.cells #[.int .i64 m, .slice ax nx cx] 29 (0, 0)) = wa at HA HB0 HC ⊢
      obtain ⟨z0, z1⟩ := boxq HB0.out
      go_wp2_with fail
      refine HC.out.mono ?_
      rintro e w' ⟨rfl, rfl⟩
      cases R
      all_goals
        go_wp2_with fail
        go_ret
        exact ⟨rfl, HA.out⟩
    · have d5 : decide (m < 5) = false := decide_eq_false h5
      obtain rfl : R = false := by rw [← HR.out]; exact itemOk_high (by omega)
      go_enter Try.func34, Try.ntmps34
      go_upto_region 1 with fail
      generalize w.alloc (.cells #[.int .i64 m, .slice ax nx cx] 29 (0, 0)) = wa at HA HB0 HC ⊢
      obtain ⟨z0, z1⟩ := boxq HB0.out
      clear HC
      go_wp2_with fail
      go_ret
      exact ⟨rfl, HA.out⟩
  · have d0 : decide (0 ≤ m) = false := decide_eq_false h0
    obtain rfl : R = false := by rw [← HR.out]; exact itemOk_low (by omega)
    go_enter Try.func34, Try.ntmps34
    go_upto_region 1 with fail
    generalize w.alloc (.cells #[.int .i64 m, .slice ax nx cx] 29 (0, 0)) = wa at HA HB0 HC ⊢
    obtain ⟨z0, z1⟩ := boxq HB0.out
    clear HC
    go_wp2_with fail
    go_ret
    exact ⟨rfl, HA.out⟩

theorem queueOk_out {cap : Int} {l : List dItem} (h : cap < 1 ∨ 5 < cap ∨ cap < (l.length : Int)) : queueOkB (cap, l) = false := by
  cases e : queueOkB (cap, l) with
  | false => rfl
  | true =>
    obtain ⟨-, h1, h2, h3⟩ := queueOk_has e
    replace h1 : 1 ≤ cap := h1
    replace h2 : cap ≤ 5 := h2
    replace h3 : (l.length : Int) ≤ cap := h3
    omega
theorem queueOk_in {cap : Int} {l : List dItem} (h1 : 1 ≤ cap) (h5 : cap ≤ 5) (hl : (l.length : Int) ≤ cap) (h : ∀ (j : Nat) (x : dItem), l[j]? = some x → itemOkB x = true) : queueOkB (cap, l) = true := by
  rw [queueOk_all h]
  show (inB 1 5 cap && decide ((l.length : Int) ≤ cap)) = true
  rw [inB_yes h1 h5, decide_eq_true hl]
  rfl
set_option maxRecDepth 100000 in
set_option maxHeartbeats 3200000 in
theorem implQueueOk_c (w : World) (cap : Int) (a : Option Addr) (n c : Nat) (l : List dItem) (h : ListAt shItem (Under w.heap.size) w a n l) (hn : n ≤ 1048576) (hb : Shape.sum shItem.bulk l ≤ 1048576) :
    Calls Try.prog 18 #[.agg #[.int .i64 cap, .slice a n c]] w fun e w' => e = .returned (.bool (queueOkB (cap, l))) ∧ Below w.heap.size w w' := by
  obtain ⟨R, hR⟩ : ∃ R, queueOkB (cap, l) = R := ⟨_, rfl⟩
  rw [hR]
  have hal : Below w.heap.size w (w.alloc (.cells #[.int .i64 cap, .slice a n c] 26 (0, 0))) := (Below.refl _ _).alloc (Nat.le_refl _) _
  have hb0 := heap_alloc_new w (.cells #[.int .i64 cap, .slice a n c] 26 (0, 0))
  have hL := (h.below hal (Nat.le_refl _)).le hal.size
  have HA := Lib.hid hal
  have HB0 := Lib.hid hb0
  have HL := Lib.hid hL
  have HR := Lib.hid hR
  have HLEN := Lib.hid h.1
  have HBK := Lib.hid hb
  clear hal hb0 hL h hR hb
  go_enter Try.func18, Try.ntmps18
  go_upto_region 1 with fail
  generalize w.alloc (.cells #[.int .i64 cap, .slice a n c] 26 (0, 0)) = wa at HA HB0 HL ⊢
  obtain ⟨z0, z1⟩ := boxq HB0.out
  have hsa := HA.out.size
  have hqq : (cap < 1 ∨ 5 < cap ∨ cap < (n : Int)) → R = false := fun h => by rw [← HR.out]; exact queueOk_out (by rw [HLEN.out]; exact h)
  have HQQ := Lib.hid hqq
  clear hqq
  by_cases g1 : cap < 1
  · have d1 : decide (cap < 1) = true := decide_eq_true g1
    obtain rfl : R = false := HQQ.out (.inl g1)
    go_wp2_with fail
    go_ret
    exact ⟨rfl, HA.out⟩
  · have d1 : decide (cap < 1) = false := decide_eq_false g1
    by_cases g2 : 5 < cap
    · have d2 : decide (5 < cap) = true := decide_eq_true g2
      obtain rfl : R = false := HQQ.out (.inr (.inl g2))
      go_wp2_with fail
      go_ret
      exact ⟨rfl, HA.out⟩
    · have d2 : decide (5 < cap) = false := decide_eq_false g2
      by_cases g3 : cap < (n : Int)
      · have d3 : decide (cap < (n : Int)) = true := decide_eq_true g3
        obtain rfl : R = false := HQQ.out (.inr (.inr g3))
        go_wp2_with fail
        go_ret
        exact ⟨rfl, HA.out⟩
      · have d3 : decide (cap < (n : Int)) = false := decide_eq_false g3
        go_wp2_with fail
        go_loopw [24] (fun i wr => ∃ k : Nat, k ≤ n ∧ i = .int .i64 k ∧ Hid (∀ (j : Nat) (x : dItem), j < k → l[j]? = some x → itemOkB x = true) ∧ Below wa.heap.size wa wr) (fun i _ => n - (intOf i).toNat)
        case atStart => exact ⟨0, Nat.zero_le _, rfl, Lib.hid fun j x hj => absurd hj (Nat.not_lt_zero _), Below.refl _ _⟩
        case round =>
          obtain ⟨k, hk, rfl, hall, hbw⟩ := hrel
          have hsz := hbw.size
          by_cases hlt : k < n
          · obtain ⟨b, o, x, ax, nx, cx, hx, rfl, hbB, hc0, hc1, -, -, hlx⟩ := item_at HL.out k hlt
            have hbx := bulk_mem shItem.bulk l k x hx
            rw [shItem_bulk, bulk_ints, hlx.1] at hbx
            have hnx : nx ≤ 1048576 := by have := HBK.out; omega
            have hix := (hlx.ints hnx).below hbw (Nat.le_refl _)
            have e0 := (hbw.cell (p := ⟨b, o + k * 2, none⟩) hbB).trans hc0
            have e1 := (hbw.cell (p := ⟨b, o + k * 2 + 1, none⟩) hbB).trans hc1
            obtain ⟨M, hM⟩ : ∃ M, x.1 = M := ⟨_, rfl⟩
            rw [hM] at e0
            have hal := (Below.refl wr.heap.size wr).alloc (Nat.le_refl _) (.cells #[.int .i64 M, .slice ax nx cx] 29 (0, 0))
            have hbk := heap_alloc_new wr (.cells #[.int .i64 M, .slice ax nx cx] 29 (0, 0))
            have hC := implItemOk_any (wr.alloc (.cells #[.int .i64 M, .slice ax nx cx] 29 (0, 0))) M ax nx cx x.2 ((hix.below (hal.mono hsz) (Nat.le_refl _)).le (Nat.le_trans hsz hal.size))
            obtain ⟨q, hq⟩ : ∃ q, itemOkB x = q := ⟨_, rfl⟩
            have hxe : (M, x.2) = x := by rw [← hM]
            rw [hxe, hq] at hC
            have HC := Lib.hid hC
            have HX := Lib.hid hx
            have HIO := Lib.hid hq
            have HAL := Lib.hid hal
            have HBK2 := Lib.hid hbk
            have HBW := Lib.hid hbw
            clear hx hlx hix hM hxe hq hbx hC hal hbk hc0 hc1 hbw
            go_upto_region 6 with fail
            clear e0 e1 z0 z1
            generalize wr.alloc (.cells #[.int .i64 M, .slice ax nx cx] 29 (0, 0)) = wb at HC HAL HBK2 ⊢
            obtain ⟨y0, y1⟩ := boxq HBK2.out
            have hsb := HAL.out.size
            cases q
            · obtain rfl : R = false := by rw [← HR.out]; exact queueOk_at HX.out HIO.out
              go_wp2_with fail
              refine HC.out.mono ?_
              rintro e w' ⟨rfl, hb⟩
              have hfin := HA.out.trans ((HBW.out.trans ((HAL.out.trans (hb.mono hsb)).mono hsz)).mono hsa)
              have HF := Lib.hid hfin
              clear hfin hb y0 y1
              go_wp2_with fail
              go_ret
              exact ⟨rfl, HF.out⟩
            · go_wp2_with fail
              refine HC.out.mono ?_
              rintro e w' ⟨rfl, hb⟩
              have hfin := HBW.out.trans ((HAL.out.trans (hb.mono hsb)).mono hsz)
              have HF := Lib.hid hfin
              clear hfin hb y0 y1
              go_wp2_with fail
              go_roundw
              case rel =>
                refine ⟨k + 1, by omega, by go_num, Lib.hid fun j y hj hy => ?_, HF.out⟩
                by_cases e : j = k
                · subst e
                  rw [HX.out] at hy
                  cases hy
                  exact HIO.out
                · exact hall.out j y (by omega) hy
              case measure => simp [intOf]; omega
          · obtain rfl : k = n := by omega
            obtain rfl : R = true := by
              rw [← HR.out]
              exact queueOk_in (by omega) (by omega) (by rw [HLEN.out]; omega) fun j x hx => hall.out j x (by rw [← HLEN.out]; exact (List.getElem?_eq_some_iff.1 hx).1) hx
            have HF := Lib.hid (HA.out.trans (hbw.mono hsa))
            clear hbw
            go_wp2_with fail
            go_ret
            exact ⟨rfl, HF.out⟩
end Go.Proofs.Ytdoofapjhgahgaa

end

/-! YtdoofapjhgahgaaQueJ -/
section

namespace Go.Proofs.Ytdoofapjhgahgaa
open Go.RowKit Go.Sort
set_option linter.unusedVariables false
set_option linter.unusedSimpArgs false

theorem clone_some (ad : Addr) (n c : Nat) (w : World) : (binOp .eql 27 (.slice (some ad) n c) (.slice none 0 0)).run Try.prog w = .ok (.bool false) w := by kernel_rfl
theorem clone_none (n c : Nat) (w : World) : (binOp .eql 27 (.slice none n c) (.slice none 0 0)).run Try.prog w = .ok (.bool true) w := by kernel_rfl
theorem owns_emptyQ (w : World) : (w.alloc (.cells #[] 3 (0, 0))).ownsRow w.heap.size 3 1 (.slice (some ⟨w.heap.size, 0, none⟩) 0 0) 0 [] :=
  ⟨by simp, .inr ⟨w.heap.size, 0, #[], rfl, Nat.le_refl _, heap_alloc_new w _, Nat.le_refl _, Nat.zero_le _, by simp, by simp⟩⟩
theorem row_firstQ {base : Nat} {w : World} {v : Value} {n : Nat} {ds : List Int} (h : w.ownsRow base 3 1 v (0 + n) ([] ++ icells ds)) : Row base w v ds := by
  rw [List.nil_append, Nat.zero_add] at h
  have hn : n = ds.length := by have := h.1; rw [icells_length] at this; omega
  subst hn
  exact h
set_option maxRecDepth 100000 in
/-- A copy of numbers, of a nil row too. -/
theorem implCloneAll_o (w : World) (a : Option Addr) (n c : Nat) (ds : List Int) (h : IntsIn w.heap.size w a n ds) :
    Calls Try.prog 55 #[.slice a n c] w fun e w' => ∃ ar cr, e = .returned (.slice ar n cr) ∧ Row w.heap.size w' (.slice ar n cr) ds ∧ Below w.heap.size w w' := by
  obtain ⟨i0, hi0, hz0, hz1, hz2⟩ := info_parts Try.infoI64
  have hl := h.len
  have hroom := h.room
  cases a with
  | none =>
    obtain rfl : n = 0 := by
      rcases Nat.eq_zero_or_pos n with e | e
      · exact e
      · obtain ⟨b, o', e', -⟩ := h.cells 0 e
        cases e'
    obtain rfl : ds = [] := List.eq_nil_of_length_eq_zero hl
    have hnn := clone_none 0 c
    clear h hl
    go_enter Try.func55, Try.ntmps55
    go_wp2_with fail
    go_ret
    exact ⟨none, 0, rfl, Row.nil _ _, Below.refl _ _⟩
  | some ad =>
    have hnn := clone_some ad n c
    have HY := Lib.hid h
    have HL := Lib.hid hl
    clear h hl
    go_enter Try.func55, Try.ntmps55
    go_wp2_with (at_builtin; refine wpList_append_own _ rfl _ _ 27 rfl w.heap.size 3 i0 (.int .i64 0) 1 8 Try.underlying27 hi0 hz0 hz1 hz2 rfl (by decide) _ _ _ rfl (owns_emptyQ w) ad n c (icells ds) rfl (by rw [icells_length, HL.out, Nat.mul_one]) (ints_cellsAt (HY.out.below ((Below.refl w.heap.size w).alloc (Nat.le_refl _) _) (by omega))) ints_oneCell (by unfold maxLen; omega) (by omega) (by simp) ?_; intro v2 w2 hown hgrow _; have hr := row_firstQ hown; have hb := ((Below.refl w.heap.size w).alloc (Nat.le_refl _) (.cells #[] 3 (0, 0))).grown hgrow (by simp) (fun k e => by cases e; exact Nat.le_refl _); have HR := Lib.hid hr; have HB := Lib.hid hb; clear hown hgrow hr hb)
    go_ret
    obtain ⟨ar, cr, rfl, -⟩ := HR.out.form
    have hr := HR.out
    rw [HL.out] at hr
    exact ⟨ar, cr, by rw [HL.out]; rfl, hr, HB.out⟩
set_option maxRecDepth 100000 in
set_option maxHeartbeats 3200000 in
theorem implCopyItem_o (w : World) (m : Int) (ax : Option Addr) (nx cx : Nat) (ys : List Int) (h : IntsIn w.heap.size w ax nx ys) :
    Calls Try.prog 37 #[.agg #[.int .i64 m, .slice ax nx cx]] w fun e w' => ∃ ar cr, e = .returned (.agg #[.int .i64 m, .slice ar nx cr]) ∧ Row w.heap.size w' (.slice ar nx cr) ys ∧ Below w.heap.size w w' := by
  have h2 : ((w.alloc (.cells #[.int .i64 m, .slice ax nx cx] 29 (0, 0))).alloc (.cells #[.int .i64 0, .slice none 0 0] 29 (0, 0))).heap.size = w.heap.size + 2 := by simp
  have hb0 : ((w.alloc (.cells #[.int .i64 m, .slice ax nx cx] 29 (0, 0))).alloc (.cells #[.int .i64 0, .slice none 0 0] 29 (0, 0))).heap[w.heap.size]? = some (.cells #[.int .i64 m, .slice ax nx cx] 29 (0, 0)) := by
    rw [Below.heap_alloc _ _ _ (by simp)]
    exact heap_alloc_new w _
  have hb1 : ((w.alloc (.cells #[.int .i64 m, .slice ax nx cx] 29 (0, 0))).alloc (.cells #[.int .i64 0, .slice none 0 0] 29 (0, 0))).heap[w.heap.size + 1]? = some (.cells #[.int .i64 0, .slice none 0 0] 29 (0, 0)) := by
    have := heap_alloc_new (w.alloc (.cells #[.int .i64 m, .slice ax nx cx] 29 (0, 0))) (.cells #[.int .i64 0, .slice none 0 0] 29 (0, 0))
    simpa using this
  have hal : Below w.heap.size w ((w.alloc (.cells #[.int .i64 m, .slice ax nx cx] 29 (0, 0))).alloc (.cells #[.int .i64 0, .slice none 0 0] 29 (0, 0))) := ((Below.refl _ _).alloc (Nat.le_refl _) _).alloc (by simp) _
  have HX := Lib.hid h
  have HB0 := Lib.hid hb0
  have HB1 := Lib.hid hb1
  have HA := Lib.hid hal
  have HS := Lib.hid h2
  clear h hb0 hb1 hal h2
  go_enter Try.func37, Try.ntmps37
  go_upto_region 1 with fail
  generalize (w.alloc (.cells #[.int .i64 m, .slice ax nx cx] 29 (0, 0))).alloc (.cells #[.int .i64 0, .slice none 0 0] 29 (0, 0)) = W0 at HB0 HB1 HA HS ⊢
  have hs := HS.out
  obtain ⟨z0, z1⟩ := boxq HB0.out
  have HC := Lib.hid fun (wx : World) (hx : Below W0.heap.size W0 wx) => implCloneAll_o wx ax nx cx ys (((HX.out.below HA.out (Nat.le_refl _)).le (by omega)).below hx (Nat.le_refl _) |>.le hx.size)
  have hd : Below W0.heap.size W0 W0.drew := (Below.refl _ _).drew
  have HD := Lib.hid hd
  clear hd
  go_region_held3 (fun w' => w'.cell? ⟨w.heap.size, 0, none⟩ = some (.int .i64 m) ∧ w'.cell? ⟨w.heap.size, 1, none⟩ = some (.slice ax nx cx))
    (first | go_keep | (go_split_ands; refine ⟨?_, ?_⟩ <;> with_reducible assumption))
    (first
      | (go_simp
         go_at_call 55
         refine (HC.out _ HD.out).mono ?_
         rintro e w2 ⟨ar, cr, rfl, hr, hb⟩
         have hb2 : Below W0.heap.size W0 w2 := HD.out.trans hb
         obtain ⟨s0, s1⟩ : w2.cell? ⟨w.heap.size, 0, none⟩ = some (.int .i64 m) ∧ w2.cell? ⟨w.heap.size, 1, none⟩ = some (.slice ax nx cx) := boxq ((hb2.block _ (by omega)).trans HB0.out)
         obtain ⟨r0, r1⟩ := boxq ((hb2.block _ (by omega)).trans HB1.out)
         have f0 : w2.frozen? ⟨w.heap.size + 1, 0, none⟩ = false := frozen_of_row _ _ _ _ _ ((hb2.block _ (by omega)).trans HB1.out)
         have f1 : w2.frozen? ⟨w.heap.size + 1, 1, none⟩ = false := frozen_of_row _ _ _ _ _ ((hb2.block _ (by omega)).trans HB1.out)
         have HR2 := Lib.hid hr
         have HB2 := Lib.hid hb2
         clear hr hb hb2))
  all_goals
    have hk := (HB2.out.block _ (by omega)).trans HB1.out
    have e1 := heap_setCell_same _ _ 1 _ _ (.slice ar nx cr) (heap_setCell_same _ _ 0 _ _ (.int .i64 m) hk)
    have hne : ∀ k, (Value.slice ar nx cr).ownBlock = some k → k ≠ w.heap.size + 1 := fun k hk => by have := (Row.lt HR2.out k hk).1; have e : W0.drew.heap.size = W0.heap.size := rfl; omega
    have hrr : Row w.heap.size ((w2.setCell ⟨w.heap.size + 1, 0, none⟩ (.int .i64 m)).setCell ⟨w.heap.size + 1, 1, none⟩ (.slice ar nx cr)) (.slice ar nx cr) ys := Row.le (ownsRow_set (ownsRow_set HR2.out 0 (.int .i64 m) hne) 1 (.slice ar nx cr) hne) HA.out.size
    have hbb : Below w.heap.size w ((w2.setCell ⟨w.heap.size + 1, 0, none⟩ (.int .i64 m)).setCell ⟨w.heap.size + 1, 1, none⟩ (.slice ar nx cr)) := ((HA.out.trans (HB2.out.mono HA.out.size)).setCell (p := ⟨w.heap.size + 1, 0, none⟩) (Nat.le_add_right _ _) _).setCell (p := ⟨w.heap.size + 1, 1, none⟩) (Nat.le_add_right _ _) _
    have HRR := Lib.hid hrr
    have HBB := Lib.hid hbb
    clear hrr hbb hne hk
    go_wp2_with fail
    refine bodyPost_ret (results_cell_row rfl _ _ (w.heap.size + 1) 29 #[.int .i64 m, .slice ar nx cr] (0, 0) _ rfl e1 Try.underlying29 rfl (by kernel_rfl)) rfl ?_
    exact ⟨ar, cr, rfl, HRR.out, HBB.out⟩
set_option maxRecDepth 100000 in
set_option maxHeartbeats 3200000 in
theorem implQueueWords_c (w : World) (cap : Int) (a : Option Addr) (n c : Nat) (l : List dItem) (h : ListAt shItem (Under w.heap.size) w a n l) (hn : n ≤ 1048576) (hb : Shape.sum shItem.bulk l ≤ 1048576) :
    Calls Try.prog 14 #[.agg #[.int .i64 cap, .slice a n c]] w fun e w' => e = .returned (.int .i64 (queueWordsN (cap, l))) ∧ Below w.heap.size w w' := by
  obtain ⟨R, hR⟩ : ∃ R, queueWordsN (cap, l) = R := ⟨_, rfl⟩
  rw [hR]
  obtain ⟨p, hp⟩ : ∃ p, queueOkB (cap, l) = p := ⟨_, rfl⟩
  have hal : Below w.heap.size w (w.alloc (.cells #[.int .i64 cap, .slice a n c] 26 (0, 0))) := (Below.refl _ _).alloc (Nat.le_refl _) _
  have hb0 := heap_alloc_new w (.cells #[.int .i64 cap, .slice a n c] 26 (0, 0))
  have hs0 : (w.alloc (.cells #[.int .i64 cap, .slice a n c] 26 (0, 0))).heap.size = w.heap.size + 1 := by simp
  have HA := Lib.hid hal
  have HB0 := Lib.hid hb0
  have HL := Lib.hid h
  have HLEN := Lib.hid h.1
  have HBK := Lib.hid hb
  have HQ := Lib.hid fun (wx : World) (hx : Below w.heap.size w wx) => hp ▸ implQueueOk_c wx cap a n c l ((h.below hx (Nat.le_refl _)).le hx.size) hn hb
  have hnb : ∀ k, k ≤ n → numsTo l k ≤ 1048576 := fun k hk => Nat.le_trans (numsTo_bulk l k (by rw [h.1]; exact hk)) hb
  have HNB := Lib.hid hnb
  have HRR : Hid (R = if p = true then (numsTo l n : Int) else 0) := Lib.hid (by rw [← hR, ← hp, ← h.1]; rfl)
  clear hal hb0 h hR hb hp hnb
  go_enter Try.func14, Try.ntmps14
  go_upto_region 1 with fail
  generalize w.alloc (.cells #[.int .i64 cap, .slice a n c] 26 (0, 0)) = wa at HA HB0 hs0 ⊢
  obtain ⟨z0, z1⟩ := boxq HB0.out
  cases p
  · obtain rfl : R = 0 := by rw [HRR.out]; rfl
    go_wp2_with fail
    refine (HQ.out wa HA.out).mono ?_
    rintro e w1 ⟨rfl, hb⟩
    have HF := Lib.hid (HA.out.trans (hb.mono HA.out.size))
    clear hb z0 z1
    go_wp2_with fail
    go_ret
    exact ⟨rfl, HF.out⟩
  · obtain rfl : R = (numsTo l n : Int) := by rw [HRR.out, if_pos rfl]
    go_wp2_with fail
    refine (HQ.out wa HA.out).mono ?_
    rintro e w1 ⟨rfl, hb⟩
    have HF := Lib.hid (HA.out.trans (hb.mono HA.out.size))
    obtain ⟨y0, y1⟩ := boxq ((hb.block w.heap.size (by omega)).trans HB0.out)
    have hs1 := hb.size
    clear hb z0 z1
    go_wp2_with fail
    go_loopw [3, 12] (fun s i wr => ∃ k : Nat, k ≤ n ∧ i = .int .i64 k ∧ s = .int .i64 (numsTo l k : Int) ∧ Below w.heap.size w wr ∧ w1.heap.size ≤ wr.heap.size) (fun _ i _ => n - (intOf i).toNat)
    case atStart => exact ⟨0, Nat.zero_le _, rfl, rfl, HF.out, Nat.le_refl _⟩
    case round =>
      obtain ⟨k, hk, rfl, rfl, hbw, hsz⟩ := hrel
      have hsb := HNB.out k hk
      by_cases hlt : k < n
      · obtain ⟨b, o, x, ax, nx, cx, hx, rfl, hbB, hc0, hc1, -, -, hlx⟩ := item_at HL.out k hlt
        have e0 := (hbw.cell (p := ⟨b, o + k * 2, none⟩) hbB).trans hc0
        have e1 := (hbw.cell (p := ⟨b, o + k * 2 + 1, none⟩) hbB).trans hc1
        obtain ⟨M, hM⟩ : ∃ M, x.1 = M := ⟨_, rfl⟩
        rw [hM] at e0
        have hnum : numsTo l (k + 1) = numsTo l k + nx := by
          rw [numsTo]
          have : l.getD k (0, []) = x := by rw [List.getD_eq_getElem?_getD, hx]; rfl
          rw [this, hlx.1]
        have hsb1 := HNB.out (k + 1) (by omega)
        rw [hnum] at hsb1
        obtain ⟨s, hs⟩ : ∃ s, numsTo l k = s := ⟨_, rfl⟩
        rw [hs] at hsb hsb1 hnum ⊢
        have HNUM := Lib.hid hnum
        have hal := hbw.trans ((Below.refl wr.heap.size wr).alloc (Nat.le_refl _) (.cells #[.int .i64 M, .slice ax nx cx] 29 (0, 0)) |>.mono hbw.size)
        have hbk := heap_alloc_new wr (.cells #[.int .i64 M, .slice ax nx cx] 29 (0, 0))
        have hsk : w1.heap.size ≤ (wr.alloc (.cells #[.int .i64 M, .slice ax nx cx] 29 (0, 0))).heap.size := by simp; omega
        have HAL := Lib.hid hal
        have HBK2 := Lib.hid hbk
        have HSK := Lib.hid hsk
        clear hx hlx hc0 hc1 hnum hM hs hal hbk hsk hbw y0 y1
        go_upto_region 7 with fail
        clear e0 e1
        generalize wr.alloc (.cells #[.int .i64 M, .slice ax nx cx] 29 (0, 0)) = wb at HAL HBK2 HSK ⊢
        obtain ⟨x0, x1⟩ := boxq HBK2.out
        go_wp2_with fail
        go_roundw
        case rel => exact ⟨k + 1, by omega, by go_num, by rw [HNUM.out]; simp, HAL.out, HSK.out⟩
        case measure => simp [intOf]; omega
      · obtain rfl : k = n := by omega
        have HG := Lib.hid hbw
        clear hbw y0 y1
        go_wp2_with fail
        go_ret
        exact ⟨rfl, HG.out⟩
end Go.Proofs.Ytdoofapjhgahgaa

end

/-! YtdoofapjhgahgaaQueK -/
section

namespace Go.Proofs.Ytdoofapjhgahgaa
open Go.RowKit Go.Sort
set_option linter.unusedVariables false
set_option linter.unusedSimpArgs false

set_option maxRecDepth 100000 in
set_option maxHeartbeats 6400000 in
theorem implCopyQueue_o (w : World) (cap : Int) (a : Option Addr) (n c : Nat) (l : List dItem) (h : ListAt shItem (Under w.heap.size) w a n l) (hn : n ≤ 1048576) (hb : Shape.sum shItem.bulk l ≤ 1048576) :
    Calls Try.prog 35 #[.agg #[.int .i64 cap, .slice a n c]] w fun e w' => ∃ v, e = .returned (.agg #[.int .i64 cap, v]) ∧ ListL ownItem 29 w.heap.size w'.heap.size w' v l ∧ Below w.heap.size w w' := by
  obtain ⟨i0, hi, hz0, hz1, hz2⟩ := info_parts infoItem
  have hb0 : (((w.alloc (.cells #[.int .i64 cap, .slice a n c] 26 (0, 0))).alloc (.cells #[.int .i64 0, .slice none 0 0] 26 (0, 0))).alloc (.cells #[.int .i64 cap, .slice none 0 0] 26 (0, 0))).heap[w.heap.size]? = some (.cells #[.int .i64 cap, .slice a n c] 26 (0, 0)) := by
    rw [Below.heap_alloc _ _ _ (by simp; omega), Below.heap_alloc _ _ _ (by simp)]
    exact heap_alloc_new w _
  have hb1 : (((w.alloc (.cells #[.int .i64 cap, .slice a n c] 26 (0, 0))).alloc (.cells #[.int .i64 0, .slice none 0 0] 26 (0, 0))).alloc (.cells #[.int .i64 cap, .slice none 0 0] 26 (0, 0))).heap[w.heap.size + 1]? = some (.cells #[.int .i64 0, .slice none 0 0] 26 (0, 0)) := by
    rw [Below.heap_alloc _ _ _ (by simp)]
    have := heap_alloc_new (w.alloc (.cells #[.int .i64 cap, .slice a n c] 26 (0, 0))) (.cells #[.int .i64 0, .slice none 0 0] 26 (0, 0))
    simpa using this
  have hb2 : (((w.alloc (.cells #[.int .i64 cap, .slice a n c] 26 (0, 0))).alloc (.cells #[.int .i64 0, .slice none 0 0] 26 (0, 0))).alloc (.cells #[.int .i64 cap, .slice none 0 0] 26 (0, 0))).heap[w.heap.size + 1 + 1]? = some (.cells #[.int .i64 cap, .slice none 0 0] 26 (0, 0)) := by
    have := heap_alloc_new ((w.alloc (.cells #[.int .i64 cap, .slice a n c] 26 (0, 0))).alloc (.cells #[.int .i64 0, .slice none 0 0] 26 (0, 0))) (.cells #[.int .i64 cap, .slice none 0 0] 26 (0, 0))
    simpa using this
  have hal : Below w.heap.size w (((w.alloc (.cells #[.int .i64 cap, .slice a n c] 26 (0, 0))).alloc (.cells #[.int .i64 0, .slice none 0 0] 26 (0, 0))).alloc (.cells #[.int .i64 cap, .slice none 0 0] 26 (0, 0))) := (((Below.refl _ _).alloc (Nat.le_refl _) _).alloc (by simp) _).alloc (by simp; omega) _
  have hs3 : (((w.alloc (.cells #[.int .i64 cap, .slice a n c] 26 (0, 0))).alloc (.cells #[.int .i64 0, .slice none 0 0] 26 (0, 0))).alloc (.cells #[.int .i64 cap, .slice none 0 0] 26 (0, 0))).heap.size = w.heap.size + 3 := by simp
  have HL := Lib.hid h
  have HLEN := Lib.hid h.1
  have HBK := Lib.hid hb
  have HB0 := Lib.hid hb0
  have HB1 := Lib.hid hb1
  have HB2 := Lib.hid hb2
  have HA := Lib.hid hal
  have HS3 := Lib.hid hs3
  clear h hb hb0 hb1 hb2 hal hs3
  go_enter Try.func35, Try.ntmps35
  go_upto_region 2 with fail
  generalize (((w.alloc (.cells #[.int .i64 cap, .slice a n c] 26 (0, 0))).alloc (.cells #[.int .i64 0, .slice none 0 0] 26 (0, 0))).alloc (.cells #[.int .i64 cap, .slice none 0 0] 26 (0, 0))) = W0 at HB0 HB1 HB2 HA HS3 ⊢
  obtain ⟨z0, z1⟩ := boxq HB0.out
  have hs3 := HS3.out
  go_wp2_with fail
  clear z0 z1
  go_loopw [12] (fun i wr => ∃ (k : Nat) (v : Value), k ≤ n ∧ i = .int .i64 k ∧ ListL ownItem 29 (w.heap.size + 3) wr.heap.size wr v (l.take k) ∧ wr.heap[w.heap.size + 1 + 1]? = some (.cells #[.int .i64 cap, v] 26 (0, 0)) ∧ Below (w.heap.size + 2) W0 wr) (fun i _ => n - (intOf i).toNat)
  case atStart => exact ⟨0, .slice none 0 0, Nat.zero_le _, rfl, ListL.nil _ _ (Nat.le_refl _), HB2.out, Below.refl _ _⟩
  case round =>
    obtain ⟨k, v, hk, rfl, hl, hmk, hb⟩ := hrel
    have hsz := hb.size
    have hww : Below w.heap.size w wr := HA.out.trans (hb.mono (Nat.le_add_right _ _))
    by_cases hlt : k < n
    · obtain ⟨b, o, x, ax, nx, cx, hx, rfl, hbB, hc0, hc1, -, -, hlx⟩ := item_at HL.out k hlt
      have hbx := bulk_mem shItem.bulk l k x hx
      rw [shItem_bulk, bulk_ints, hlx.1] at hbx
      have hnx : nx ≤ 1048576 := by have := HBK.out; omega
      have hix := hlx.ints hnx
      obtain ⟨M, hM⟩ : ∃ M, x.1 = M := ⟨_, rfl⟩
      rw [hM] at hc0
      have htk : l.take (k + 1) = l.take k ++ [x] := by rw [List.take_add_one, hx]; rfl
      have hxe : x = (M, x.2) := by rw [← hM]
      obtain ⟨av, cv, rfl, -, -⟩ := hl.form
      have htl : (l.take k).length = k := by rw [List.length_take, HLEN.out]; omega
      rw [htl] at hl hmk
      have d0 := (hww.cell (p := ⟨b, o + k * 2, none⟩) hbB).trans hc0
      have d1 := (hww.cell (p := ⟨b, o + k * 2 + 1, none⟩) hbB).trans hc1
      have hal := (Below.refl wr.heap.size wr).alloc (Nat.le_refl _) (.cells #[.int .i64 M, .slice ax nx cx] 29 (0, 0))
      have hbk := heap_alloc_new wr (.cells #[.int .i64 M, .slice ax nx cx] 29 (0, 0))
      have hs1 : (wr.alloc (.cells #[.int .i64 M, .slice ax nx cx] 29 (0, 0))).heap.size = wr.heap.size + 1 := by simp
      have HIX := Lib.hid hix
      have HLK := Lib.hid hl
      have HMK := Lib.hid hmk
      have HTK := Lib.hid htk
      have HXE := Lib.hid hxe
      have HBW := Lib.hid hb
      have HWW := Lib.hid hww
      have HAL := Lib.hid hal
      have HBN := Lib.hid hbk
      have HS1 := Lib.hid hs1
      clear hx hlx hix hc0 hc1 hM htk hxe hl hmk hb hww hbx hal hbk hs1
      go_upto_region 5 with fail
      clear d0 d1
      generalize wr.alloc (.cells #[.int .i64 M, .slice ax nx cx] 29 (0, 0)) = wb at HAL HBN HS1 ⊢
      have hs1 := HS1.out
      -- whatever comes behind wb
      have KEEP := Lib.hid fun (wx : World) (hx : Below wb.heap.size wb wx) => (show wx.cell? ⟨w.heap.size + 1 + 1, 1, none⟩ = some (.slice av k cv) ∧ wx.cell? ⟨wr.heap.size, 0, none⟩ = some (.int .i64 M) ∧ wx.cell? ⟨wr.heap.size, 1, none⟩ = some (.slice ax nx cx) from
        ⟨(boxq ((hx.block _ (by omega)).trans ((HAL.out.block _ (by omega)).trans HMK.out))).2, boxq ((hx.block _ (by omega)).trans HBN.out)⟩)
      have hd : Below wb.heap.size wb wb.drew := (Below.refl _ _).drew
      have HD := Lib.hid hd
      have hS0 := KEEP.out _ hd
      clear hd
      refine wp_region_K (S := fun wx => wx.cell? ⟨w.heap.size + 1 + 1, 1, none⟩ = some (.slice av k cv) ∧ wx.cell? ⟨wr.heap.size, 0, none⟩ = some (.int .i64 M) ∧ wx.cell? ⟨wr.heap.size, 1, none⟩ = some (.slice ax nx cx)) (by kernel_rfl) ?_
      refine anyK_take (i := 0) (v := ?_) rfl (by kernel_rfl) (by kernel_rfl) (by kernel_rfl) (fun _ _ _ h => h) (Or.inl ⟨by rfl, ?_⟩) hS0 ?_
      rotate_left
      · (intro wS hS; obtain ⟨sA, sB, sC⟩ := hS; go_simp; try with_reducible rfl)
      simp only [Act.put, List.setIfInBounds_toArray, List.set_cons_zero, List.set_cons_succ]
      refine anyK_take (i := 1) (v := ?_) rfl (by kernel_rfl) (by kernel_rfl) (by kernel_rfl) (fun _ _ _ h => h) (Or.inl ⟨by rfl, ?_⟩) hS0 ?_
      rotate_left
      · (intro wS hS; obtain ⟨sA, sB, sC⟩ := hS; go_simp; try with_reducible rfl)
      simp only [Act.put, List.setIfInBounds_toArray, List.set_cons_zero, List.set_cons_succ]
      refine anyK_take (i := 2) (v := ?_) rfl (by kernel_rfl) (by kernel_rfl) (by kernel_rfl) (fun _ _ _ h => h) (Or.inl ⟨by rfl, ?_⟩) hS0 ?_
      rotate_left
      · (intro wS hS; obtain ⟨sA, sB, sC⟩ := hS; go_simp; try with_reducible rfl)
      simp only [Act.put, List.setIfInBounds_toArray, List.set_cons_zero, List.set_cons_succ]
      refine anyK_step (i := 3) (by kernel_rfl) rfl (by rfl) (fun K hK => ?_)
      go_simp
      refine (implCopyItem_o wb.drew M ax nx cx x.2 (((HIX.out.below HWW.out (Nat.le_refl _)).below ((HAL.out.mono HWW.out.size).drew) (Nat.le_refl _)).le (by have := HWW.out.size; show w.heap.size ≤ wb.heap.size; omega))).mono ?_
      rintro e w2 ⟨ar, cr, rfl, hr, hb⟩
      have hb2 : Below wb.heap.size wb w2 := HD.out.trans hb
      have hS2 := KEEP.out _ hb2
      have hs2 : wb.heap.size ≤ w2.heap.size := hb2.size
      have HR2 := Lib.hid (show Row wb.heap.size w2 (.slice ar nx cr) x.2 from hr)
      have HB2' := Lib.hid hb2
      clear hr hb hb2
      go_wp2_with fail
      refine hK _ _ (.inr hS2) ?_
      try simp only [Act.put, List.setIfInBounds_toArray, List.set_cons_zero, List.set_cons_succ]
      clear hK
      refine anyK_step (i := 4) (by kernel_rfl) rfl (by rfl) (fun K hK => ?_)
      go_simp
      have HB3 := Lib.hid (HB2'.out.alloc hs2 (.cells #[.int .i64 M, .slice ar nx cr] 29 (0, 0)))
      refine hK _ _ (.inr (KEEP.out _ HB3.out)) ?_
      try simp only [Act.put, List.setIfInBounds_toArray, List.set_cons_zero, List.set_cons_succ]
      clear hK
      refine anyK_step (i := 5) (by kernel_rfl) rfl (by rfl) (fun K hK => ?_)
      refine of_step rfl (step_append_one (ops := #[]) w2 (S := ownItem) (T := 29) (Ts := 24) (by rfl) _ _ (by rfl) i0 (.agg #[.int .i64 0, .slice none 0 0]) 32 Try.underlying24 hi hz0 hz1 hz2 rfl (by decide) (by decide) (w.heap.size + 3) wr.heap.size (by omega) _ (l.take k) (M, x.2) [.int .i64 M, .slice ar nx cr] (FromB wb.heap.size w2.heap.size) (by rfl) ((HLK.out.below HAL.out (Nat.le_refl _)).below HB2'.out (by omega)) (HR2.out.ownItem M) (fun b o f => ⟨by have := f.1; omega, f.2⟩) item_one (by rfl) (by rw [List.length_take]; omega) ?_)
      intro ar' nr' cr' w4 hl4 hb4 hg4 hset
      have hk4 : w4.heap[w.heap.size + 1 + 1]? = some (.cells #[.int .i64 cap, .slice av k cv] 26 (0, 0)) := (hb4.block _ (by omega)).trans ((HB2'.out.block _ (by omega)).trans ((HAL.out.block _ (by omega)).trans HMK.out))
      have hb04 : Below (w.heap.size + 2) W0 w4 := ((HBW.out.trans (HAL.out.mono (by omega))).trans (HB2'.out.mono (by omega))).trans (hb4.mono (by omega))
      have hne : some wr.heap.size ≠ (Value.slice av k cv).ownBlock := fun e => by
        obtain ⟨us, G, p1, p2, -⟩ := HLK.out.all
        have := p2 _ e.symm
        omega
      have hitem : w4.heap[wr.heap.size]? = some (.cells #[.int .i64 M, .slice ax nx cx] 29 (0, 0)) := (hg4.block _ (by omega) hne).trans ((HB2'.out.block _ (by omega)).trans HBN.out)
      have hS4 : w4.cell? ⟨w.heap.size + 1 + 1, 1, none⟩ = some (.slice av k cv) ∧ w4.cell? ⟨wr.heap.size, 0, none⟩ = some (.int .i64 M) ∧ w4.cell? ⟨wr.heap.size, 1, none⟩ = some (.slice ax nx cx) := ⟨(boxq hk4).2, boxq hitem⟩
      have hs4 := hb4.size
      have HL4 := Lib.hid hl4
      have HB4 := Lib.hid hb04
      have HK4 := Lib.hid hk4
      clear hset hl4 hb4 hg4 hb04 hk4 hne hitem
      refine hK _ _ (.inr hS4) ?_
      try simp only [Act.put, List.setIfInBounds_toArray, List.set_cons_zero, List.set_cons_succ]
      clear hK
      refine anyK_take (i := 6) (v := ?_) rfl (by kernel_rfl) (by kernel_rfl) (by kernel_rfl) (fun _ _ _ h => h) (Or.inl ⟨by rfl, ?_⟩) hS4 ?_
      rotate_left
      · (intro wS hS; obtain ⟨sA, sB, sC⟩ := hS; go_simp; try with_reducible rfl)
      simp only [Act.put, List.setIfInBounds_toArray, List.set_cons_zero, List.set_cons_succ]
      obtain ⟨s4, -, -⟩ := hS4
      have s5 : w4.frozen? ⟨w.heap.size + 1 + 1, 1, none⟩ = false := frozen_of_row _ _ _ _ _ HK4.out
      refine anyK_step (i := 7) (by kernel_rfl) rfl (by rfl) (fun K hK => ?_)
      go_simp
      refine hK _ _ (.inl (last_of (by kernel_rfl))) ?_
      clear hK s4 s5
      refine anyK_done (by kernel_rfl) ?_ _
      have k5 := heap_setCell_same w4 (w.heap.size + 1 + 1) 1 _ _ (.slice ar' nr' cr') HK4.out
      have hl5 := (HL4.out.storedQ (w.heap.size + 1 + 1) 1 (.slice ar' nr' cr') (by omega))
      have b5 := HB4.out.setCell (p := ⟨w.heap.size + 1 + 1, 1, none⟩) (Nat.le_refl _) (.slice ar' nr' cr')
      have hs5 : (w4.setCell ⟨w.heap.size + 1 + 1, 1, none⟩ (.slice ar' nr' cr')).heap.size = w4.heap.size := by simp
      rw [← hs5] at hl5
      have K5 := Lib.hid k5
      have HL5 := Lib.hid hl5
      have HB5 := Lib.hid b5
      clear k5 hl5 b5 hs5 hS0 hS2
      generalize w4.setCell ⟨w.heap.size + 1 + 1, 1, none⟩ (.slice ar' nr' cr') = W5 at K5 HL5 HB5 ⊢
      go_wp2_with fail
      go_roundw
      case rel =>
        refine ⟨k + 1, _, by omega, by go_num, ?_, K5.out, HB5.out⟩
        rw [HTK.out]
        have h5 := HL5.out
        rw [← HXE.out] at h5
        exact h5
      case measure => simp [intOf]; omega
    · obtain rfl : k = n := by omega
      rw [List.take_of_length_le (Nat.le_of_eq HLEN.out)] at hl
      obtain ⟨y0, y1⟩ := boxq hmk
      have hb1 := (hb.block (w.heap.size + 1) (by omega)).trans HB1.out
      obtain ⟨x0, x1⟩ := boxq hb1
      have x2 : wr.frozen? ⟨w.heap.size + 1, 0, none⟩ = false := frozen_of_row _ _ _ _ _ hb1
      have x3 : wr.frozen? ⟨w.heap.size + 1, 1, none⟩ = false := frozen_of_row _ _ _ _ _ hb1
      have e1 := heap_setCell_same _ _ 1 _ _ v (heap_setCell_same _ _ 0 _ _ (.int .i64 cap) hb1)
      have hl2 := (hl.storedQ (w.heap.size + 1) 0 (.int .i64 cap) (by omega)).storedQ (w.heap.size + 1) 1 v (by omega)
      have hl3 := hl2.wide (lo' := w.heap.size) (hi' := ((wr.setCell ⟨w.heap.size + 1, 0, none⟩ (.int .i64 cap)).setCell ⟨w.heap.size + 1, 1, none⟩ v).heap.size) (by omega) (by simp) (Nat.le_refl _)
      have hbb := (hww.setCell (p := ⟨w.heap.size + 1, 0, none⟩) (Nat.le_add_right _ _) (.int .i64 cap)).setCell (p := ⟨w.heap.size + 1, 1, none⟩) (Nat.le_add_right _ _) v
      obtain ⟨av, cv, rfl, -, -⟩ := hl.form
      have HL3 := Lib.hid hl3
      have HBB := Lib.hid hbb
      have E1 := Lib.hid e1
      clear hl hl2 hl3 hbb e1 hmk hb hww hb1
      go_wp2_with fail
      refine bodyPost_ret (results_cell_row rfl _ _ (w.heap.size + 1) 26 #[.int .i64 cap, .slice av l.length cv] (0, 0) _ rfl E1.out Try.underlying26 rfl (by kernel_rfl)) rfl ?_
      exact ⟨_, rfl, HL3.out, HBB.out⟩
end Go.Proofs.Ytdoofapjhgahgaa

end

/-! YtdoofapjhgahgaaGrows -/
section

namespace Go.Proofs.Ytdoofapjhgahgaa
open Go.RowKit
set_option linter.unusedVariables false

theorem op_append_grows {P : Program} (w : World) {o : Oper} {a : Act} {K : Act → World → Prop} {Q : Exit → Act → World → Prop} (s x : Operand) (t : TypeId)
    (hop : o.op = Op.call { callee := Callee.builtin Builtin.append, args := #[s, x], argTypes := #[t, t] })
    (e : TypeId) (i : TypeInfo) (z : Value) (size bytes : Nat) (h1 : P.underlying t = some (.slice e)) (h2 : P.info? e = some i) (h3 : i.zero = some z) (h4 : i.size = size) (h5 : i.bytes = bytes) (h6 : z.cells.size = size) (h7 : 0 < size)
    (ao : Option Addr) (n cap : Nat) (olds : List Value) (hs : a.eval s = .slice ao n cap) (hnone : ao = none → n = 0 ∧ cap = 0) (hlo : olds.length = n * size) (holds : ∀ b, ao = some b → ∀ j u, olds[j]? = some u → w.cell? (b.add j) = some u)
    (ad : Addr) (m c : Nat) (news : List Value) (hx : a.eval x = .slice (some ad) m c) (hn : news.length = m * size) (hc : ∀ j u, news[j]? = some u → w.cell? (ad.add j) = some u) (h1c : ∀ u ∈ news, u.oneCell' = true)
    (hfull : cap < n + m) (b1 : n + m ≤ maxLen) (b2 : (n + m) * bytes ≤ 140737488355328)
    (hK : ∀ v' w', w'.ownsRow w.heap.size e size v' (n + m) (olds ++ news) → w.grownBy w' none → K (a.put o.dst v') w') :
    Oper.wp P o a w K Q := by
  cases ao with
  | some b =>
    obtain ⟨v', w', hrun, r1, r2⟩ := run_append_arg_grows (P := P) w t o.type e i z size bytes h1 h2 h3 h4 h5 h6 h7 b n cap olds hlo (holds b rfl) ad m c news hn hc hfull b1 b2
    unfold Oper.wp
    simp [execOp, hop, resolve, invoke, builtin, hs, hx, hrun, Result.andThen]
    exact hK v' w' r1 r2
  | none =>
    obtain ⟨rfl, rfl⟩ := hnone rfl
    obtain rfl : olds = [] := List.eq_nil_of_length_eq_zero (by simpa using hlo)
    obtain ⟨v', w', hrun, r1, r2, _⟩ := run_append_own (P := P) w w.heap.size t o.type e i z size bytes h1 h2 h3 h4 h5 h6 h7 (.slice none 0 0) 0 [] (World.ownsRow_nil w _ e size) ad m c news hn hc h1c b1 b2 (Nat.le_refl _)
    unfold Oper.wp
    simp [execOp, hop, resolve, invoke, builtin, hs, hx, hrun, Result.andThen]
    exact hK v' w' r1 r2
section
variable {α : Type} {S : Shape α} {I : Nat → Prop} {w w' : World} {a : Option Addr} {n : Nat} {xs : List α}
/-- A list that has a place lies somewhere. -/
theorem ListAt.none (h : ListAt S I w none n xs) : n = 0 := by
  rcases Nat.eq_zero_or_pos n with e | e
  · exact e
  · have hx : xs[0]? = some (xs[0]'(by rw [h.1]; exact e)) := List.getElem?_eq_getElem _
    obtain ⟨b, o, es, e', -⟩ := h.2 0 _ hx
    cases e'
/-- The cells of a list. -/
theorem ListAt.olds (h : ListAt S I w a n xs) (hS : 0 < S.size) : ∃ us : List Value, us.length = n * S.size ∧ (∀ b, a = some b → ∀ j u, us[j]? = some u → w.cell? (b.add j) = some u) ∧
    ∀ b o, a = some ⟨b, o, .none⟩ → ∀ j, j < n * S.size → ∃ u, us[j]? = some u ∧ w.cell? ⟨b, o + j, .none⟩ = some u := by
  cases a with
  | none =>
    obtain rfl := h.none
    exact ⟨[], by simp, fun b e => (by cases e), fun b o e => (by cases e)⟩
  | some ad =>
    rcases Nat.eq_zero_or_pos n with e | hp
    · subst e
      exact ⟨[], by simp, fun b e j u hu => (by simp at hu), fun b o e j hj => (by omega)⟩
    · have hcell : ∀ j, j < n * S.size → ∃ u, w.cell? (ad.add j) = some u := fun j hj => by
        have hq : j / S.size < n := Nat.div_lt_of_lt_mul (by rwa [Nat.mul_comm])
        have hx : xs[j / S.size]? = some (xs[j / S.size]'(by rw [h.1]; exact hq)) := List.getElem?_eq_getElem _
        obtain ⟨b, o, es, e, -, hr, hs⟩ := h.2 _ _ hx
        cases e
        have hl := S.len hs
        have hm := Nat.mod_lt j hS
        have hu : es[j % S.size]? = some (es[j % S.size]'(by rw [hl]; exact hm)) := List.getElem?_eq_getElem _
        have := hr _ _ hu
        rw [Addr.add_mid]
        have hj2 : o + j / S.size * S.size + j % S.size = o + j := by
          have := Nat.div_add_mod j S.size
          rw [Nat.mul_comm] at this
          omega
        rw [hj2] at this
        exact ⟨_, this⟩
      have hg : ∀ j, ((List.range (n * S.size)).map fun j => (w.cell? (ad.add j)).getD undef)[j]? = if j < n * S.size then some ((w.cell? (ad.add j)).getD undef) else .none := fun j => by
        by_cases hj : j < n * S.size
        · simp [hj]
        · rw [if_neg hj, List.getElem?_eq_none (by simpa using hj)]
      refine ⟨(List.range (n * S.size)).map fun j => (w.cell? (ad.add j)).getD undef, by simp, fun b e j u hu => ?_, fun b o e j hj => ?_⟩
      · cases e
        rw [hg] at hu
        by_cases hj : j < n * S.size
        · rw [if_pos hj] at hu
          obtain ⟨u', hu'⟩ := hcell j hj
          rw [hu'] at hu ⊢
          exact hu
        · rw [if_neg hj] at hu
          cases hu
      · cases e
        obtain ⟨u', hu'⟩ := hcell j hj
        refine ⟨u', ?_, ?_⟩
        · rw [hg, if_pos hj, hu']
          rfl
        · rwa [Addr.add_mid] at hu'
/-- An element more, in new memory. -/
theorem ListAt.pushed {B base : Nat} {T : TypeId} {us es : List Value} {x : α} {v' : Value} (h : ListAt S (Under B) w a n xs)
    (hlo : us.length = n * S.size) (hat : ∀ b o, a = some ⟨b, o, .none⟩ → ∀ j, j < n * S.size → ∃ u, us[j]? = some u ∧ w.cell? ⟨b, o + j, .none⟩ = some u)
    (hx : S.reads (Under B) w es x) (hown : w'.ownsRow base T S.size v' (n + 1) (us ++ es)) (hw : Kept (Under B) w w') :
    ∃ g cap, v' = .slice (some ⟨g, 0, .none⟩) (n + 1) cap ∧ base ≤ g ∧ g < w'.heap.size ∧ n + 1 ≤ cap ∧ cap ≤ 9223372036854775807 ∧ ListAt S (fun k => k < B ∨ k = g) w' (some ⟨g, 0, .none⟩) (n + 1) (xs ++ [x]) := by
  have hl := S.len hx
  rcases hown.2 with ⟨e, hn⟩ | ⟨g, cap, cur, rfl, e1, e2, e3, e4, -⟩
  · omega
  · have hgl := World.ownsRow.lt hown g rfl
    unfold maxLen at e4
    refine ⟨g, cap, rfl, e1, hgl.2, e3, by omega, by rw [List.length_append, h.1]; rfl, fun j y hy => ?_⟩
    by_cases hj : j < n
    · rw [List.getElem?_append_left (by rw [h.1]; exact hj)] at hy
      obtain ⟨b, o, ys, e, hb, hr, hs⟩ := h.2 j y hy
      refine ⟨g, 0, ys, rfl, .inr rfl, fun i u hu => ?_, S.sub (S.keep hs hw) fun k hk => .inl hk⟩
      have hi : i < S.size := by rw [← S.len hs]; exact (List.getElem?_eq_some_iff.1 hu).1
      have hp := place_le (s := S.size) hj
      have hlt : j * S.size + i < n * S.size := by omega
      obtain ⟨u', hu1, hu2⟩ := hat b o e (j * S.size + i) hlt
      have h3 := hr i u hu
      rw [show o + (j * S.size + i) = o + j * S.size + i by omega, h3] at hu2
      cases hu2
      rw [Nat.zero_add, World.ownsRow.cellAt hown _ (by have := place_le (s := S.size) (show n < n + 1 by omega); omega), List.getElem?_append_left (by rw [hlo]; exact hlt)]
      exact hu1
    · have hjn : j = n := by
        have := (List.getElem?_eq_some_iff.1 hy).1
        rw [List.length_append, h.1] at this
        simp at this
        omega
      subst hjn
      rw [List.getElem?_append_right (by rw [h.1]; exact Nat.le_refl _), h.1, Nat.sub_self] at hy
      simp at hy
      subst hy
      refine ⟨g, 0, es, rfl, .inr rfl, fun i u hu => ?_, S.sub (S.keep hx hw) fun k hk => .inl hk⟩
      have hi : i < S.size := by rw [← hl]; exact (List.getElem?_eq_some_iff.1 hu).1
      rw [Nat.zero_add, World.ownsRow.cellAt hown _ (by rw [Nat.add_mul, Nat.one_mul]; omega), List.getElem?_append_right (by rw [hlo]; exact Nat.le_add_right _ _), hlo, Nat.add_sub_cancel_left]
      exact hu
end
end Go.Proofs.Ytdoofapjhgahgaa

end

/-! YtdoofapjhgahgaaQueU -/
section

namespace Go.Proofs.Ytdoofapjhgahgaa
open Go.RowKit Go.Sort
set_option linter.unusedVariables false
set_option linter.unusedSimpArgs false

/-- What the program answers, written into the box of its answer. -/
theorem queue_boxed {w wx : World} {g lo hi : Nat} {cap : Int} {v : Value} {l : List dItem} {T : TypeId} {p q : Value} (hl : ListL ownItem 29 lo hi wx v l) (hg : g < lo) (hw : w.heap.size ≤ g) (hk : wx.heap[g]? = some (.cells #[p, q] T (0, 0))) (hb : Below w.heap.size w wx) :
    ((wx.setCell ⟨g, 0, none⟩ (.int .i64 cap)).setCell ⟨g, 1, none⟩ v).heap[g]? = some (.cells #[.int .i64 cap, v] T (0, 0)) ∧
    ownQueue.owns (FromB lo hi) ((wx.setCell ⟨g, 0, none⟩ (.int .i64 cap)).setCell ⟨g, 1, none⟩ v) [.int .i64 cap, v] (cap, l) ∧
    (∀ b o, FromB lo hi b o → w.heap.size ≤ b ∧ b < ((wx.setCell ⟨g, 0, none⟩ (.int .i64 cap)).setCell ⟨g, 1, none⟩ v).heap.size) ∧
    Below w.heap.size w ((wx.setCell ⟨g, 0, none⟩ (.int .i64 cap)).setCell ⟨g, 1, none⟩ v) := by
  refine ⟨heap_setCell_same _ _ 1 _ _ _ (heap_setCell_same _ _ 0 _ _ _ hk), ?_, fun b o f => ⟨by have := f.1; omega, ?_⟩, (hb.setCell (p := ⟨g, 0, none⟩) hw _).setCell (p := ⟨g, 1, none⟩) hw _⟩
  · have hl2 := (hl.storedQ g 0 (.int .i64 cap) hg).storedQ g 1 v hg
    obtain ⟨a', cap', e1, e2, e3, e4⟩ := hl2.list (by decide)
    exact ownQueue_owns.2 ⟨a', l.length, cap', by rw [e1], e2, e3, e4⟩
  · have h1 := f.2
    have h2 := hl.top
    simp only [World.size_setCell]
    omega
set_option maxRecDepth 100000 in
set_option maxHeartbeats 6400000 in
theorem implPush_o (w : World) (es0 : List Value) (x0 : dQueue) (h0 : shQueue.reads (Under w.heap.size) w es0 x0) (hb0 : shQueue.bulk x0 ≤ 1048576) (es1 : List Value) (x1 : dItem) (h1 : shItem.reads (Under w.heap.size) w es1 x1) (hb1 : shItem.bulk x1 ≤ 1048576) :
    Calls Try.prog 10 #[.agg es0.toArray, .agg es1.toArray] w fun e w' => ∃ es' F, e = .returned (.tuple #[.agg (es' : List Value).toArray, .bool (pushB x0 x1)]) ∧ ownQueue.owns F w' es' (pushN x0 x1) ∧ (∀ b o, F b o → w.heap.size ≤ b ∧ b < w'.heap.size) ∧ Below w.heap.size w w' := by
  obtain ⟨i0, hi, hz0, hz1, hz2⟩ := info_parts infoItem
  obtain ⟨a, n, c, rfl, hc1, hc2, hl, hn, hbl⟩ := queue_open h0 hb0
  obtain ⟨ax, nx, cx, rfl, hx1, hx2, hlx⟩ := shItem_reads.1 h1
  obtain ⟨cap, l⟩ := x0
  obtain ⟨m, ys⟩ := x1
  replace hl : ListAt shItem (Under w.heap.size) w a n l := hl
  replace hbl : Shape.sum shItem.bulk l ≤ 1048576 := hbl
  replace hlx : ListAt Shape.int (Under w.heap.size) w ax nx ys := hlx
  replace hb1 : nx ≤ 1048576 := by rw [shItem_bulk, bulk_ints] at hb1; rw [← hlx.1]; exact hb1
  have hix := hlx.ints hb1
  have hlen : l.length = n := hl.1
  have hpn := push_bulk (cap, l) (m, ys) hb0
  have hk0 : (((w.alloc (.cells #[.int .i64 cap, .slice a n c] 26 (0, 0))).alloc (.cells #[.int .i64 m, .slice ax nx cx] 29 (0, 0))).alloc (.cells #[.int .i64 0, .slice none 0 0] 26 (0, 0))).heap[w.heap.size]? = some (.cells #[.int .i64 cap, .slice a n c] 26 (0, 0)) := by
    rw [Below.heap_alloc _ _ _ (by simp; omega), Below.heap_alloc _ _ _ (by simp)]
    exact heap_alloc_new w _
  have hk1 : (((w.alloc (.cells #[.int .i64 cap, .slice a n c] 26 (0, 0))).alloc (.cells #[.int .i64 m, .slice ax nx cx] 29 (0, 0))).alloc (.cells #[.int .i64 0, .slice none 0 0] 26 (0, 0))).heap[w.heap.size + 1]? = some (.cells #[.int .i64 m, .slice ax nx cx] 29 (0, 0)) := by
    rw [Below.heap_alloc _ _ _ (by simp)]
    have := heap_alloc_new (w.alloc (.cells #[.int .i64 cap, .slice a n c] 26 (0, 0))) (.cells #[.int .i64 m, .slice ax nx cx] 29 (0, 0))
    simpa using this
  have hk2 : (((w.alloc (.cells #[.int .i64 cap, .slice a n c] 26 (0, 0))).alloc (.cells #[.int .i64 m, .slice ax nx cx] 29 (0, 0))).alloc (.cells #[.int .i64 0, .slice none 0 0] 26 (0, 0))).heap[w.heap.size + 2]? = some (.cells #[.int .i64 0, .slice none 0 0] 26 (0, 0)) := by
    have := heap_alloc_new ((w.alloc (.cells #[.int .i64 cap, .slice a n c] 26 (0, 0))).alloc (.cells #[.int .i64 m, .slice ax nx cx] 29 (0, 0))) (.cells #[.int .i64 0, .slice none 0 0] 26 (0, 0))
    simpa using this
  have hal : Below w.heap.size w (((w.alloc (.cells #[.int .i64 cap, .slice a n c] 26 (0, 0))).alloc (.cells #[.int .i64 m, .slice ax nx cx] 29 (0, 0))).alloc (.cells #[.int .i64 0, .slice none 0 0] 26 (0, 0))) := (((Below.refl _ _).alloc (Nat.le_refl _) _).alloc (by simp) _).alloc (by simp; omega) _
  have hs3 : (((w.alloc (.cells #[.int .i64 cap, .slice a n c] 26 (0, 0))).alloc (.cells #[.int .i64 m, .slice ax nx cx] 29 (0, 0))).alloc (.cells #[.int .i64 0, .slice none 0 0] 26 (0, 0))).heap.size = w.heap.size + 3 := by simp
  have HL := Lib.hid hl
  have HLX := Lib.hid hlx
  have HIX := Lib.hid hix
  have HLEN := Lib.hid hlen
  have HPN := Lib.hid hpn
  have K0 := Lib.hid hk0
  have K1 := Lib.hid hk1
  have K2 := Lib.hid hk2
  have HA := Lib.hid hal
  clear hl hlx hix hk0 hk1 hk2 hal h0 h1 hlen hpn hb0
  go_enter Try.func10, Try.ntmps10
  go_upto_region 1 with fail
  generalize (((w.alloc (.cells #[.int .i64 cap, .slice a n c] 26 (0, 0))).alloc (.cells #[.int .i64 m, .slice ax nx cx] 29 (0, 0))).alloc (.cells #[.int .i64 0, .slice none 0 0] 26 (0, 0))) = W0 at K0 K1 K2 HA hs3 ⊢
  have CELLS := Lib.hid fun (wx : World) (hx : Below W0.heap.size W0 wx) => (show (wx.cell? ⟨w.heap.size, 0, none⟩ = some (.int .i64 cap) ∧ wx.cell? ⟨w.heap.size, 1, none⟩ = some (.slice a n c)) ∧ (wx.cell? ⟨w.heap.size + 1, 0, none⟩ = some (.int .i64 m) ∧ wx.cell? ⟨w.heap.size + 1, 1, none⟩ = some (.slice ax nx cx)) ∧ (wx.cell? ⟨w.heap.size + 2, 0, none⟩ = some (.int .i64 0) ∧ wx.cell? ⟨w.heap.size + 2, 1, none⟩ = some (.slice none 0 0)) ∧ wx.frozen? ⟨w.heap.size + 2, 0, none⟩ = false ∧ wx.frozen? ⟨w.heap.size + 2, 1, none⟩ = false from
    ⟨boxq ((hx.block _ (by omega)).trans K0.out), boxq ((hx.block _ (by omega)).trans K1.out), boxq ((hx.block _ (by omega)).trans K2.out), frozen_of_row _ _ _ _ _ ((hx.block _ (by omega)).trans K2.out), frozen_of_row _ _ _ _ _ ((hx.block _ (by omega)).trans K2.out)⟩)
  have HOK := Lib.hid fun (wx : World) (hx : Below W0.heap.size W0 wx) => implQueueOk_c wx cap a n c l ((HL.out.below (HA.out.trans (hx.mono HA.out.size)) (Nat.le_refl _)).le (Nat.le_trans HA.out.size hx.size)) hn hbl
  have HIO := Lib.hid fun (wx : World) (hx : Below W0.heap.size W0 wx) => implItemOk_any wx m ax nx cx ys ((HIX.out.below (HA.out.trans (hx.mono HA.out.size)) (Nat.le_refl _)).le (Nat.le_trans HA.out.size hx.size))
  have HCP := Lib.hid fun (wx : World) (hx : Below W0.heap.size W0 wx) => implCopyQueue_o wx cap a n c l ((HL.out.below (HA.out.trans (hx.mono HA.out.size)) (Nat.le_refl _)).le (Nat.le_trans HA.out.size hx.size)) hn hbl
  obtain ⟨A, hA⟩ : ∃ A, queueOkB (cap, l) = A := ⟨_, rfl⟩
  obtain ⟨q, hq⟩ : ∃ q, itemOkB (m, ys) = q := ⟨_, rfl⟩
  have hpb : pushB (cap, l) (m, ys) = (A && (decide ((n : Int) < cap) && q)) := by
    unfold pushB
    rw [hA, hq]
    show (A && (decide ((l.length : Int) < cap) && _)) = _
    rw [HLEN.out]
  have hle : A = true → (n : Int) ≤ cap := fun e => by
    have h3 := (queueOk_has (hA.trans e)).2.2.2
    rw [← HLEN.out]
    exact h3
  simp only [hA] at HOK
  simp only [hq] at HIO
  have HPB := Lib.hid hpb
  have HLE := Lib.hid hle
  clear hA hq hpb hle
  obtain ⟨⟨z0, z1⟩, ⟨x0, x1⟩, ⟨r0, r1⟩, f0, f1⟩ := CELLS.out W0 (Below.refl _ _)
  -- the end where nothing is put in
  have END : Hid (pushB (cap, l) (m, ys) = false → ∀ (wx : World) (lo : Nat) (v : Value), Below W0.heap.size W0 wx → W0.heap.size ≤ lo → ListL ownItem 29 lo wx.heap.size wx v l →
      ((wx.setCell ⟨w.heap.size + 2, 0, none⟩ (.int .i64 cap)).setCell ⟨w.heap.size + 2, 1, none⟩ v).heap[w.heap.size + 2]? = some (.cells #[.int .i64 cap, v] 26 (0, 0)) ∧
      ∃ es' F, Ending.returned (.tuple #[.agg #[.int .i64 cap, v], .bool false]) = .returned (.tuple #[.agg (es' : List Value).toArray, .bool (pushB (cap, l) (m, ys))]) ∧
        ownQueue.owns F ((wx.setCell ⟨w.heap.size + 2, 0, none⟩ (.int .i64 cap)).setCell ⟨w.heap.size + 2, 1, none⟩ v) es' (pushN (cap, l) (m, ys)) ∧
        (∀ b o, F b o → w.heap.size ≤ b ∧ b < ((wx.setCell ⟨w.heap.size + 2, 0, none⟩ (.int .i64 cap)).setCell ⟨w.heap.size + 2, 1, none⟩ v).heap.size) ∧
        Below w.heap.size w ((wx.setCell ⟨w.heap.size + 2, 0, none⟩ (.int .i64 cap)).setCell ⟨w.heap.size + 2, 1, none⟩ v)) := Lib.hid fun hR wx lo v hx hlo hll => by
    obtain ⟨e1, e2, e3, e4⟩ := queue_boxed (w := w) (cap := cap) hll (show w.heap.size + 2 < lo by omega) (by omega) ((hx.block (w.heap.size + 2) (by omega)).trans K2.out) (HA.out.trans (hx.mono HA.out.size))
    refine ⟨e1, [.int .i64 cap, v], FromB lo wx.heap.size, by rw [hR], ?_, e3, e4⟩
    unfold pushN
    rw [hR]
    exact e2
  cases A
  · go_wp2_with fail
    refine (HOK.out W0 (Below.refl _ _)).mono ?_
    rintro e w1 ⟨rfl, hb⟩
    have HB := Lib.hid hb
    obtain ⟨⟨z0, z1⟩, ⟨x0, x1⟩, ⟨r0, r1⟩, f0, f1⟩ := CELLS.out w1 hb
    clear hb
    go_wp2_with fail
    refine (HCP.out w1 HB.out).mono ?_
    rintro e w2 ⟨v, rfl, hll, hb⟩
    have hb2 := HB.out.trans (hb.mono HB.out.size)
    obtain ⟨e1, e2⟩ := END.out (by rw [HPB.out]; rfl) w2 w1.heap.size v hb2 HB.out.size hll
    obtain ⟨⟨z0, z1⟩, ⟨x0, x1⟩, ⟨r0, r1⟩, f0, f1⟩ := CELLS.out w2 hb2
    obtain ⟨av, cv, rfl, -, -⟩ := hll.form
    have E1 := Lib.hid e1
    have E2 := Lib.hid e2
    clear hll hb hb2 e1 e2
    go_wp2_with fail
    exact bodyPost_ret (results_cell_slot rfl _ _ (w.heap.size + 2) 26 #[.int .i64 cap, .slice av l.length cv] (0, 0) _ rfl (.bool false) rfl E1.out Try.underlying26 rfl (by kernel_rfl)) rfl E2.out
  · have hle := HLE.out rfl
    cases q
    · go_wp2_with fail
      refine (HOK.out W0 (Below.refl _ _)).mono ?_
      rintro e w1 ⟨rfl, hb⟩
      have HB := Lib.hid hb
      obtain ⟨⟨z0, z1⟩, ⟨x0, x1⟩, ⟨r0, r1⟩, f0, f1⟩ := CELLS.out w1 hb
      clear hb
      go_wp2_with fail
      refine (HIO.out w1 HB.out).mono ?_
      rintro e w3 ⟨rfl, hb⟩
      have hb3 := HB.out.trans (hb.mono HB.out.size)
      have HB3 := Lib.hid hb3
      obtain ⟨⟨z0, z1⟩, ⟨x0, x1⟩, ⟨r0, r1⟩, f0, f1⟩ := CELLS.out w3 hb3
      clear hb hb3
      go_wp2_with fail
      refine (HCP.out w3 HB3.out).mono ?_
      rintro e w2 ⟨v, rfl, hll, hb⟩
      have hb2 := HB3.out.trans (hb.mono HB3.out.size)
      obtain ⟨e1, e2⟩ := END.out (by rw [HPB.out]; simp) w2 w3.heap.size v hb2 HB3.out.size hll
      obtain ⟨⟨z0, z1⟩, ⟨x0, x1⟩, ⟨r0, r1⟩, f0, f1⟩ := CELLS.out w2 hb2
      obtain ⟨av, cv, rfl, -, -⟩ := hll.form
      have E1 := Lib.hid e1
      have E2 := Lib.hid e2
      clear hll hb hb2 e1 e2
      go_wp2_with fail
      exact bodyPost_ret (results_cell_slot rfl _ _ (w.heap.size + 2) 26 #[.int .i64 cap, .slice av l.length cv] (0, 0) _ rfl (.bool false) rfl E1.out Try.underlying26 rfl (by kernel_rfl)) rfl E2.out
    · by_cases hlt : (n : Int) = cap
      · have g0 : ((n : Int) == cap) = true := beq_iff_eq.2 hlt
        have hpf : pushB (cap, l) (m, ys) = false := by
          rw [HPB.out, decide_eq_false (by omega)]
          rfl
        have HPF := Lib.hid hpf
        have HLT := Lib.hid hlt
        clear hlt hpf
        go_wp2_with fail
        refine (HOK.out W0 (Below.refl _ _)).mono ?_
        rintro e w1 ⟨rfl, hb⟩
        have HB := Lib.hid hb
        obtain ⟨⟨z0, z1⟩, ⟨x0, x1⟩, ⟨r0, r1⟩, f0, f1⟩ := CELLS.out w1 hb
        clear hb
        go_wp2_with fail
        refine (HIO.out w1 HB.out).mono ?_
        rintro e w3 ⟨rfl, hb⟩
        have hb3 := HB.out.trans (hb.mono HB.out.size)
        have HB3 := Lib.hid hb3
        obtain ⟨⟨z0, z1⟩, ⟨x0, x1⟩, ⟨r0, r1⟩, f0, f1⟩ := CELLS.out w3 hb3
        clear hb hb3
        go_wp2_with fail
        refine (HCP.out w3 HB3.out).mono ?_
        rintro e w2 ⟨v, rfl, hll, hb⟩
        have hb2 := HB3.out.trans (hb.mono HB3.out.size)
        obtain ⟨e1, e2⟩ := END.out HPF.out w2 w3.heap.size v hb2 HB3.out.size hll
        obtain ⟨⟨z0, z1⟩, ⟨x0, x1⟩, ⟨r0, r1⟩, f0, f1⟩ := CELLS.out w2 hb2
        obtain ⟨av, cv, rfl, -, -⟩ := hll.form
        have E1 := Lib.hid e1
        have E2 := Lib.hid e2
        clear hll hb hb2 e1 e2
        go_wp2_with fail
        exact bodyPost_ret (results_cell_slot rfl _ _ (w.heap.size + 2) 26 #[.int .i64 cap, .slice av l.length cv] (0, 0) _ rfl (.bool false) rfl E1.out Try.underlying26 rfl (by kernel_rfl)) rfl E2.out
      · have g0 : ((n : Int) == cap) = false := beq_eq_false_iff_ne.2 hlt
        have hpf : pushB (cap, l) (m, ys) = true := by
          rw [HPB.out, decide_eq_true (by omega)]
          rfl
        have hpn2 : pushN (cap, l) (m, ys) = (cap, l ++ [(m, ys)]) := by unfold pushN; rw [hpf]; rfl
        have HPF := Lib.hid hpf
        have HP2 := Lib.hid hpn2
        clear hpf hpn2
        go_wp2_with fail
        refine (HOK.out W0 (Below.refl _ _)).mono ?_
        rintro e w1 ⟨rfl, hb⟩
        have HB := Lib.hid hb
        obtain ⟨⟨z0, z1⟩, ⟨x0, x1⟩, ⟨r0, r1⟩, f0, f1⟩ := CELLS.out w1 hb
        clear hb
        go_wp2_with fail
        refine (HIO.out w1 HB.out).mono ?_
        rintro e w3 ⟨rfl, hb⟩
        have hb3 := HB.out.trans (hb.mono HB.out.size)
        have HB3 := Lib.hid hb3
        obtain ⟨⟨z0, z1⟩, ⟨x0, x1⟩, ⟨r0, r1⟩, f0, f1⟩ := CELLS.out w3 hb3
        clear hb hb3
        go_upto_region 4 with fail
        clear z0 z1 x0 x1 r0 r1 f0 f1 g0
        have KEEP := Lib.hid fun (wx : World) (hx : Below w3.heap.size w3 wx) => (show wx.cell? ⟨w.heap.size, 1, none⟩ = some (.slice a n c) ∧ wx.cell? ⟨w.heap.size + 1, 0, none⟩ = some (.int .i64 m) ∧ wx.cell? ⟨w.heap.size + 1, 1, none⟩ = some (.slice ax nx cx) from
          ⟨(CELLS.out wx (HB3.out.trans (hx.mono HB3.out.size))).1.2, (CELLS.out wx (HB3.out.trans (hx.mono HB3.out.size))).2.1⟩)
        have hS0 := KEEP.out w3.drew (Below.refl _ _).drew
        refine wp_region_K (S := fun wx => wx.cell? ⟨w.heap.size, 1, none⟩ = some (.slice a n c) ∧ wx.cell? ⟨w.heap.size + 1, 0, none⟩ = some (.int .i64 m) ∧ wx.cell? ⟨w.heap.size + 1, 1, none⟩ = some (.slice ax nx cx)) (by kernel_rfl) ?_
        refine anyK_take (i := 0) (v := ?_) rfl (by kernel_rfl) (by kernel_rfl) (by kernel_rfl) (fun _ _ _ h => h) (Or.inl ⟨by rfl, ?_⟩) hS0 ?_
        rotate_left
        · (intro wS hS; obtain ⟨sA, sB, sC⟩ := hS; go_simp; try with_reducible rfl)
        simp only [Act.put, List.setIfInBounds_toArray, List.set_cons_zero, List.set_cons_succ]
        refine anyK_take (i := 1) (v := ?_) rfl (by kernel_rfl) (by kernel_rfl) (by kernel_rfl) (fun _ _ _ h => h) (Or.inl ⟨by rfl, ?_⟩) hS0 ?_
        rotate_left
        · (intro wS hS; obtain ⟨sA, sB, sC⟩ := hS; go_simp; try with_reducible rfl)
        simp only [Act.put, List.setIfInBounds_toArray, List.set_cons_zero, List.set_cons_succ]
        refine anyK_take (i := 2) (v := ?_) rfl (by kernel_rfl) (by kernel_rfl) (by kernel_rfl) (fun _ _ _ h => h) (Or.inl ⟨by rfl, ?_⟩) hS0 ?_
        rotate_left
        · (intro wS hS; obtain ⟨sA, sB, sC⟩ := hS; go_simp; try with_reducible rfl)
        simp only [Act.put, List.setIfInBounds_toArray, List.set_cons_zero, List.set_cons_succ]
        refine anyK_take (i := 3) (v := ?_) rfl (by kernel_rfl) (by kernel_rfl) (by kernel_rfl) (fun _ _ _ h => h) (Or.inl ⟨by rfl, ?_⟩) hS0 ?_
        rotate_left
        · (intro wS hS; obtain ⟨sA, sB, sC⟩ := hS; go_simp; try with_reducible rfl)
        simp only [Act.put, List.setIfInBounds_toArray, List.set_cons_zero, List.set_cons_succ]
        refine anyK_take (i := 4) (v := ?_) rfl (by kernel_rfl) (by kernel_rfl) (by kernel_rfl) (fun _ _ _ h => h) (Or.inl ⟨by rfl, ?_⟩) hS0 ?_
        rotate_left
        · (intro wS hS; obtain ⟨sA, sB, sC⟩ := hS; go_simp; try with_reducible rfl)
        simp only [Act.put, List.setIfInBounds_toArray, List.set_cons_zero, List.set_cons_succ]
        refine anyK_take (i := 5) (v := ?_) rfl (by kernel_rfl) (by kernel_rfl) (by kernel_rfl) (fun _ _ _ h => h) (Or.inl ⟨by rfl, ?_⟩) hS0 ?_
        rotate_left
        · (intro wS hS; obtain ⟨sA, sB, sC⟩ := hS; go_simp; try with_reducible rfl)
        simp only [Act.put, List.setIfInBounds_toArray, List.set_cons_zero, List.set_cons_succ]
        have hbA : Below w3.heap.size w3 ((w3.alloc (.cells #[.int .i64 m, .slice ax nx cx] 29 (0, 0))).drew) := ((Below.refl _ _).alloc (Nat.le_refl _) _).drew
        have hSA := KEEP.out _ hbA
        have hkA : ((w3.alloc (.cells #[.int .i64 m, .slice ax nx cx] 29 (0, 0))).drew).heap[w3.heap.size]? = some (.cells #[.int .i64 m, .slice ax nx cx] 29 (0, 0)) := heap_alloc_new w3 _
        have hsA : ((w3.alloc (.cells #[.int .i64 m, .slice ax nx cx] 29 (0, 0))).drew).heap.size = w3.heap.size + 1 := by show (w3.alloc _).heap.size = _; simp
        refine anyK_step (i := 6) (by kernel_rfl) rfl (by rfl) (fun K hK => ?_)
        go_simp
        refine hK _ _ (.inr hSA) ?_
        try simp only [Act.put, List.setIfInBounds_toArray, List.set_cons_zero, List.set_cons_succ]
        clear hK
        generalize (w3.alloc (.cells #[.int .i64 m, .slice ax nx cx] 29 (0, 0))).drew = wA at hbA hSA hkA hsA ⊢
        have hs3' := HB3.out.size
        have hwA : Below w.heap.size w wA := HA.out.trans ((HB3.out.trans (hbA.mono hs3')).mono HA.out.size)
        have hlA := HL.out.below hwA (Nat.le_refl _)
        obtain ⟨us, hus, holds, hat⟩ := hlA.olds (show 0 < shItem.size by decide)
        have hrA : shItem.reads (Under w.heap.size) wA [.int .i64 m, .slice ax nx cx] (m, ys) := shItem_reads.2 ⟨ax, nx, cx, rfl, hx1, hx2, HLX.out.below hwA (Nat.le_refl _)⟩
        refine anyK_step (i := 7) (by kernel_rfl) rfl (by rfl) (fun K hK => ?_)
        refine op_append_grows wA _ _ 24 (by rfl) 29 i0 (.agg #[.int .i64 0, .slice none 0 0]) 2 32 Try.underlying24 hi hz0 hz1 hz2 rfl (by decide) a n n us (by rfl)
          (fun e => by
            have := (e ▸ hlA : ListAt shItem (Under w.heap.size) wA none n l).none
            exact ⟨this, this⟩) hus holds ⟨w3.heap.size, 0, none⟩ 1 1 [.int .i64 m, .slice ax nx cx] (by rfl) rfl
          (fun j u hu => by
            rw [Addr.add_lit, cell_of_row _ _ _ _ _ _ hkA]
            simpa using hu) item_one (by omega) (by unfold maxLen; omega) (by omega) ?_
        intro v' w4 hown hg4
        have hb4 : Below wA.heap.size wA w4 := (Below.refl _ _).grown hg4 (Nat.le_refl _) (fun k e => by cases e)
        obtain ⟨g, cap', rfl, hgl, hgh, hgc, hgm, hl4⟩ := hlA.pushed hus hat hrA hown (Kept.of_below hb4 fun k hk => by have h1 : k < w.heap.size := hk; have h2 := HA.out.size; omega)
        have hb34 : Below w3.heap.size w3 w4 := hbA.trans (hb4.mono (by omega))
        have hS4 := KEEP.out _ hb34
        have HB34 := Lib.hid hb34
        have HL4 := Lib.hid hl4
        clear hl4 hb34 hb4 hg4 hown hrA holds hat hus hlA hwA hkA hSA hbA
        refine hK _ _ (.inr hS4) ?_
        try simp only [Act.put, List.setIfInBounds_toArray, List.set_cons_zero, List.set_cons_succ]
        clear hK
        refine anyK_take (i := 8) (v := ?_) rfl (by kernel_rfl) (by kernel_rfl) (by kernel_rfl) (fun _ _ _ h => h) (Or.inl ⟨by rfl, ?_⟩) hS4 ?_
        rotate_left
        · (intro wS hS; obtain ⟨sA, sB, sC⟩ := hS; go_simp; try with_reducible rfl)
        simp only [Act.put, List.setIfInBounds_toArray, List.set_cons_zero, List.set_cons_succ]
        have hb04 := HB3.out.trans (HB34.out.mono hs3')
        have hq4 := (hb04.block w.heap.size (by omega)).trans K0.out
        obtain ⟨s4, -, -⟩ := hS4
        have s5 : w4.frozen? ⟨w.heap.size, 1, none⟩ = false := frozen_of_row _ _ _ _ _ hq4
        refine anyK_step (i := 9) (by kernel_rfl) rfl (by rfl) (fun K hK => ?_)
        go_simp
        refine hK _ _ (.inl (last_of (by kernel_rfl))) ?_
        clear hK s4 s5
        refine anyK_done (by kernel_rfl) ?_ _
        have k5 := heap_setCell_same w4 w.heap.size 1 _ _ (.slice (some ⟨g, 0, none⟩) (n + 1) cap') hq4
        have b5 := (HA.out.trans (hb04.mono HA.out.size)).setCell (p := ⟨w.heap.size, 1, none⟩) (Nat.le_refl _) (.slice (some ⟨g, 0, none⟩) (n + 1) cap')
        have r5 := (heap_setCell_other w4 ⟨w.heap.size, 1, none⟩ (w.heap.size + 2) (.slice (some ⟨g, 0, none⟩) (n + 1) cap') (by show w.heap.size + 2 ≠ w.heap.size; omega)).trans ((hb04.block (w.heap.size + 2) (by omega)).trans K2.out)
        have hs5 : (w4.setCell ⟨w.heap.size, 1, none⟩ (.slice (some ⟨g, 0, none⟩) (n + 1) cap')).heap.size = w4.heap.size := by simp
        have hl5 : ListAt shItem (Under w4.heap.size) (w4.setCell ⟨w.heap.size, 1, none⟩ (.slice (some ⟨g, 0, none⟩) (n + 1) cap')) (some ⟨g, 0, none⟩) (n + 1) (l ++ [(m, ys)]) :=
          (HL4.out.keep fun k hk => heap_setCell_other _ _ _ _ (by show k ≠ w.heap.size; rcases hk with h | h <;> omega)).sub fun k hk => (by have hsz4 := hb04.size; show k < w4.heap.size; rcases hk with h | h <;> omega)
        rw [← hs5] at hl5
        have hpn := HPN.out
        rw [HP2.out, queue_bulk] at hpn
        have hln : (l ++ [(m, ys)]).length = n + 1 := hl5.1
        replace hpn : (l ++ [(m, ys)]).length + Shape.sum shItem.bulk (l ++ [(m, ys)]) ≤ 1048576 := hpn
        have HLN := Lib.hid hln
        have K5 := Lib.hid k5
        have B5 := Lib.hid b5
        have R5 := Lib.hid r5
        have HC5 := Lib.hid (implCopyQueue_o _ cap _ (n + 1) cap' _ hl5 (by omega) (by omega))
        have hsz5 := hb04.size
        rw [← hs5] at hsz5
        clear k5 b5 r5 hl5 hpn hln hs5 hb04 hq4 hS0
        generalize w4.setCell ⟨w.heap.size, 1, none⟩ (.slice (some ⟨g, 0, none⟩) (n + 1) cap') = W5 at K5 B5 R5 HC5 hsz5 ⊢
        obtain ⟨y0, y1⟩ := boxq K5.out
        go_wp2_with fail
        refine HC5.out.mono ?_
        rintro e w6 ⟨v, rfl, hll, hb⟩
        have hr6 := (hb.block (w.heap.size + 2) (by omega)).trans R5.out
        obtain ⟨e1, e2, e3, e4⟩ := queue_boxed (w := w) (cap := cap) hll (show w.heap.size + 2 < W5.heap.size by omega) (by omega) hr6 (B5.out.trans (hb.mono B5.out.size))
        obtain ⟨r0, r1⟩ := boxq hr6
        have f0 : w6.frozen? ⟨w.heap.size + 2, 0, none⟩ = false := frozen_of_row _ _ _ _ _ hr6
        have f1 : w6.frozen? ⟨w.heap.size + 2, 1, none⟩ = false := frozen_of_row _ _ _ _ _ hr6
        obtain ⟨av, cv, rfl, -, -⟩ := hll.form
        rw [HLN.out] at e1 e2 e3 e4 ⊢
        have E1 := Lib.hid e1
        have E2 := Lib.hid e2
        have E3 := Lib.hid e3
        have E4 := Lib.hid e4
        clear hll hb hr6 e1 e2 e3 e4 y0 y1
        go_wp2_with fail
        refine bodyPost_ret (results_cell_slot rfl _ _ (w.heap.size + 2) 26 #[.int .i64 cap, .slice av (n + 1) cv] (0, 0) _ rfl (.bool true) rfl E1.out Try.underlying26 rfl (by kernel_rfl)) rfl ?_
        exact ⟨[.int .i64 cap, .slice av (n + 1) cv], _, by rw [HPF.out], by rw [HP2.out]; exact E2.out, E3.out, E4.out⟩
end Go.Proofs.Ytdoofapjhgahgaa

end

/-! YtdoofapjhgahgaaQueV -/
section

namespace Go.Proofs.Ytdoofapjhgahgaa
open Go.RowKit Go.Sort
set_option linter.unusedVariables false
set_option linter.unusedSimpArgs false

set_option maxRecDepth 100000 in
set_option maxHeartbeats 6400000 in
theorem implPop_o (w : World) (es0 : List Value) (x0 : dQueue) (h0 : shQueue.reads (Under w.heap.size) w es0 x0) (hb0 : shQueue.bulk x0 ≤ 1048576) :
    Calls Try.prog 12 #[.agg es0.toArray] w fun e w' => ∃ es' fs' F G, e = .returned (.tuple #[.agg (es' : List Value).toArray, .agg (fs' : List Value).toArray, .bool (popB x0)]) ∧ ownQueue.owns F w' es' (popN x0) ∧ ownItem.owns G w' fs' (popX x0) ∧ (∀ b o, F b o → w.heap.size ≤ b ∧ b < w'.heap.size) ∧ (∀ b o, G b o → w.heap.size ≤ b ∧ b < w'.heap.size) ∧ Apart F G ∧ Below w.heap.size w w' := by
  obtain ⟨a, n, c, rfl, hc1, hc2, hl, hn, hbl⟩ := queue_open h0 hb0
  obtain ⟨cap, l⟩ := x0
  replace hl : ListAt shItem (Under w.heap.size) w a n l := hl
  replace hbl : Shape.sum shItem.bulk l ≤ 1048576 := hbl
  have hlen : l.length = n := hl.1
  have hk0 : (((w.alloc (.cells #[.int .i64 cap, .slice a n c] 26 (0, 0))).alloc (.cells #[.int .i64 0, .slice none 0 0] 26 (0, 0))).alloc (.cells #[.int .i64 0, .slice none 0 0] 29 (0, 0))).heap[w.heap.size]? = some (.cells #[.int .i64 cap, .slice a n c] 26 (0, 0)) := by
    rw [Below.heap_alloc _ _ _ (by simp; omega), Below.heap_alloc _ _ _ (by simp)]
    exact heap_alloc_new w _
  have hk1 : (((w.alloc (.cells #[.int .i64 cap, .slice a n c] 26 (0, 0))).alloc (.cells #[.int .i64 0, .slice none 0 0] 26 (0, 0))).alloc (.cells #[.int .i64 0, .slice none 0 0] 29 (0, 0))).heap[w.heap.size + 1]? = some (.cells #[.int .i64 0, .slice none 0 0] 26 (0, 0)) := by
    rw [Below.heap_alloc _ _ _ (by simp)]
    have := heap_alloc_new (w.alloc (.cells #[.int .i64 cap, .slice a n c] 26 (0, 0))) (.cells #[.int .i64 0, .slice none 0 0] 26 (0, 0))
    simpa using this
  have hk2 : (((w.alloc (.cells #[.int .i64 cap, .slice a n c] 26 (0, 0))).alloc (.cells #[.int .i64 0, .slice none 0 0] 26 (0, 0))).alloc (.cells #[.int .i64 0, .slice none 0 0] 29 (0, 0))).heap[w.heap.size + 2]? = some (.cells #[.int .i64 0, .slice none 0 0] 29 (0, 0)) := by
    have := heap_alloc_new ((w.alloc (.cells #[.int .i64 cap, .slice a n c] 26 (0, 0))).alloc (.cells #[.int .i64 0, .slice none 0 0] 26 (0, 0))) (.cells #[.int .i64 0, .slice none 0 0] 29 (0, 0))
    simpa using this
  have hal : Below w.heap.size w (((w.alloc (.cells #[.int .i64 cap, .slice a n c] 26 (0, 0))).alloc (.cells #[.int .i64 0, .slice none 0 0] 26 (0, 0))).alloc (.cells #[.int .i64 0, .slice none 0 0] 29 (0, 0))) := (((Below.refl _ _).alloc (Nat.le_refl _) _).alloc (by simp) _).alloc (by simp; omega) _
  have hs3 : (((w.alloc (.cells #[.int .i64 cap, .slice a n c] 26 (0, 0))).alloc (.cells #[.int .i64 0, .slice none 0 0] 26 (0, 0))).alloc (.cells #[.int .i64 0, .slice none 0 0] 29 (0, 0))).heap.size = w.heap.size + 3 := by simp
  have HL := Lib.hid hl
  have HLEN := Lib.hid hlen
  have K0 := Lib.hid hk0
  have K1 := Lib.hid hk1
  have K2 := Lib.hid hk2
  have HA := Lib.hid hal
  clear hl hlen hk0 hk1 hk2 hal h0 hb0
  go_enter Try.func12, Try.ntmps12
  go_upto_region 1 with fail
  generalize (((w.alloc (.cells #[.int .i64 cap, .slice a n c] 26 (0, 0))).alloc (.cells #[.int .i64 0, .slice none 0 0] 26 (0, 0))).alloc (.cells #[.int .i64 0, .slice none 0 0] 29 (0, 0))) = W0 at K0 K1 K2 HA hs3 ⊢
  have CELLS := Lib.hid fun (wx : World) (hx : Below W0.heap.size W0 wx) => (show (wx.cell? ⟨w.heap.size, 0, none⟩ = some (.int .i64 cap) ∧ wx.cell? ⟨w.heap.size, 1, none⟩ = some (.slice a n c)) ∧ (wx.cell? ⟨w.heap.size + 1, 0, none⟩ = some (.int .i64 0) ∧ wx.cell? ⟨w.heap.size + 1, 1, none⟩ = some (.slice none 0 0)) ∧ (wx.cell? ⟨w.heap.size + 1 + 1, 0, none⟩ = some (.int .i64 0) ∧ wx.cell? ⟨w.heap.size + 1 + 1, 1, none⟩ = some (.slice none 0 0)) ∧ wx.frozen? ⟨w.heap.size + 1, 0, none⟩ = false ∧ wx.frozen? ⟨w.heap.size + 1, 1, none⟩ = false ∧ wx.frozen? ⟨w.heap.size + 1 + 1, 0, none⟩ = false ∧ wx.frozen? ⟨w.heap.size + 1 + 1, 1, none⟩ = false ∧ wx.frozen? ⟨w.heap.size, 1, none⟩ = false from
    ⟨boxq ((hx.block _ (by omega)).trans K0.out), boxq ((hx.block _ (by omega)).trans K1.out), boxq ((hx.block _ (by omega)).trans K2.out), frozen_of_row _ _ _ _ _ ((hx.block _ (by omega)).trans K1.out), frozen_of_row _ _ _ _ _ ((hx.block _ (by omega)).trans K1.out), frozen_of_row _ _ _ _ _ ((hx.block _ (by omega)).trans K2.out), frozen_of_row _ _ _ _ _ ((hx.block _ (by omega)).trans K2.out), frozen_of_row _ _ _ _ _ ((hx.block _ (by omega)).trans K0.out)⟩)
  have HOK := Lib.hid (implQueueOk_c W0 cap a n c l ((HL.out.below HA.out (Nat.le_refl _)).le HA.out.size) hn hbl)
  have HCP := Lib.hid fun (wx : World) (hx : Below W0.heap.size W0 wx) => implCopyQueue_o wx cap a n c l ((HL.out.below (HA.out.trans (hx.mono HA.out.size)) (Nat.le_refl _)).le (Nat.le_trans HA.out.size hx.size)) hn hbl
  obtain ⟨A, hA⟩ : ∃ A, queueOkB (cap, l) = A := ⟨_, rfl⟩
  have hpb : popB (cap, l) = (A && decide (0 < n)) := by
    unfold popB
    rw [hA]
    show (A && decide (0 < l.length)) = _
    rw [HLEN.out]
  rw [hA] at HOK
  have HPB := Lib.hid hpb
  clear hA hpb
  obtain ⟨⟨z0, z1⟩, ⟨x0, x1⟩, ⟨r0, r1⟩, f0, f1, f2, f3, f4⟩ := CELLS.out W0 (Below.refl _ _)
  -- the end where nothing is taken out
  have END : Hid (popB (cap, l) = false → ∀ (wx : World) (lo : Nat) (v : Value), Below W0.heap.size W0 wx → W0.heap.size ≤ lo → ListL ownItem 29 lo wx.heap.size wx v l →
      ∃ es' fs' F G, Ending.returned (.tuple #[.agg #[.int .i64 cap, v], .agg #[.int .i64 0, .slice none 0 0], .bool false]) = .returned (.tuple #[.agg (es' : List Value).toArray, .agg (fs' : List Value).toArray, .bool (popB (cap, l))]) ∧
        ownQueue.owns F ((((wx.setCell ⟨w.heap.size + 1, 0, none⟩ (.int .i64 cap)).setCell ⟨w.heap.size + 1, 1, none⟩ v).setCell ⟨w.heap.size + 1 + 1, 0, none⟩ (.int .i64 0)).setCell ⟨w.heap.size + 1 + 1, 1, none⟩ (.slice none 0 0)) es' (popN (cap, l)) ∧
        ownItem.owns G ((((wx.setCell ⟨w.heap.size + 1, 0, none⟩ (.int .i64 cap)).setCell ⟨w.heap.size + 1, 1, none⟩ v).setCell ⟨w.heap.size + 1 + 1, 0, none⟩ (.int .i64 0)).setCell ⟨w.heap.size + 1 + 1, 1, none⟩ (.slice none 0 0)) fs' (popX (cap, l)) ∧
        (∀ b o, F b o → w.heap.size ≤ b ∧ b < ((((wx.setCell ⟨w.heap.size + 1, 0, none⟩ (.int .i64 cap)).setCell ⟨w.heap.size + 1, 1, none⟩ v).setCell ⟨w.heap.size + 1 + 1, 0, none⟩ (.int .i64 0)).setCell ⟨w.heap.size + 1 + 1, 1, none⟩ (.slice none 0 0)).heap.size) ∧
        (∀ b o, G b o → w.heap.size ≤ b ∧ b < ((((wx.setCell ⟨w.heap.size + 1, 0, none⟩ (.int .i64 cap)).setCell ⟨w.heap.size + 1, 1, none⟩ v).setCell ⟨w.heap.size + 1 + 1, 0, none⟩ (.int .i64 0)).setCell ⟨w.heap.size + 1 + 1, 1, none⟩ (.slice none 0 0)).heap.size) ∧ Apart F G ∧
        Below w.heap.size w ((((wx.setCell ⟨w.heap.size + 1, 0, none⟩ (.int .i64 cap)).setCell ⟨w.heap.size + 1, 1, none⟩ v).setCell ⟨w.heap.size + 1 + 1, 0, none⟩ (.int .i64 0)).setCell ⟨w.heap.size + 1 + 1, 1, none⟩ (.slice none 0 0))) := Lib.hid fun hR wx lo v hx hlo hll => by
    obtain ⟨-, -, hsz, hot, hbe⟩ := two_stored (g1 := w.heap.size + 1) (g2 := w.heap.size + 1 + 1) (by omega) ((hx.block _ (by omega)).trans K1.out) ((hx.block _ (by omega)).trans K2.out) (.int .i64 cap) v (.int .i64 0) (.slice none 0 0)
    have hbw := hbe w.heap.size w (by omega) (by omega) (HA.out.trans (hx.mono HA.out.size))
    have hl2 := (((hll.storedQ (w.heap.size + 1) 0 (.int .i64 cap) (by omega)).storedQ (w.heap.size + 1) 1 v (by omega)).storedQ (w.heap.size + 1 + 1) 0 (.int .i64 0) (by omega)).storedQ (w.heap.size + 1 + 1) 1 (.slice none 0 0) (by omega)
    generalize ((((wx.setCell ⟨w.heap.size + 1, 0, none⟩ (.int .i64 cap)).setCell ⟨w.heap.size + 1, 1, none⟩ v).setCell ⟨w.heap.size + 1 + 1, 0, none⟩ (.int .i64 0)).setCell ⟨w.heap.size + 1 + 1, 1, none⟩ (.slice none 0 0)) = wf at hsz hot hbw hl2 ⊢
    obtain ⟨a', cap', e1, e2, e3, e4⟩ := hl2.list (by decide)
    refine ⟨[.int .i64 cap, v], [.int .i64 0, .slice none 0 0], FromB lo wx.heap.size, fun _ _ => False, by rw [hR], ?_, ?_, fun b o f => ⟨by have := f.1; omega, by have := f.2; omega⟩, fun b o f => f.elim, fun b o f g => g.elim, hbw⟩
    · unfold popN
      rw [hR]
      exact ownQueue_owns.2 ⟨a', l.length, cap', by rw [e1]; rfl, e2, e3, e4⟩
    · unfold popX
      rw [hR]
      exact ownItem_owns.2 ⟨none, 0, 0, rfl, Nat.le_refl _, by omega, rfl, .inl rfl⟩
  cases A
  · go_wp2_with fail
    refine HOK.out.mono ?_
    rintro e w1 ⟨rfl, hb⟩
    have HB := Lib.hid hb
    obtain ⟨⟨z0, z1⟩, ⟨x0, x1⟩, ⟨r0, r1⟩, f0, f1, f2, f3, f4⟩ := CELLS.out w1 hb
    clear hb
    go_wp2_with fail
    refine (HCP.out w1 HB.out).mono ?_
    rintro e w2 ⟨v, rfl, hll, hb⟩
    have hb2 := HB.out.trans (hb.mono HB.out.size)
    have E2 := Lib.hid (END.out (by rw [HPB.out]; rfl) w2 w1.heap.size v hb2 HB.out.size hll)
    obtain ⟨⟨z0, z1⟩, ⟨x0, x1⟩, ⟨r0, r1⟩, f0, f1, f2, f3, f4⟩ := CELLS.out w2 hb2
    obtain ⟨av, cv, rfl, -, -⟩ := hll.form
    obtain ⟨e0, e1, -, -, -⟩ := two_stored (g1 := w.heap.size + 1) (g2 := w.heap.size + 1 + 1) (by omega) ((hb2.block _ (by omega)).trans K1.out) ((hb2.block _ (by omega)).trans K2.out) (.int .i64 cap) (.slice av l.length cv) (.int .i64 0) (.slice none 0 0)
    have E0 := Lib.hid e0
    have E1 := Lib.hid e1
    clear hll hb hb2 e0 e1
    go_wp2_with fail
    exact bodyPost_ret (results_two_slot rfl _ _ (w.heap.size + 1) (w.heap.size + 1 + 1) 26 29 #[.int .i64 cap, .slice av l.length cv] #[.int .i64 0, .slice none 0 0] (0, 0) (0, 0) _ _ rfl rfl (.bool false) rfl E0.out E1.out Try.underlying26 rfl (by kernel_rfl) Try.underlying29 rfl (by kernel_rfl)) rfl E2.out
  · by_cases hp : 0 < n
    · have g0 : decide ((n : Int) = 0) = false := decide_eq_false (by omega)
      have hR : popB (cap, l) = true := by rw [HPB.out, decide_eq_true hp]; rfl
      obtain ⟨b, o, x, ax, nx, cx, hx, rfl, hbB, k0, k1, -, -, hlx⟩ := item_at HL.out 0 hp
      have hbx := bulk_mem shItem.bulk l 0 x hx
      rw [shItem_bulk, bulk_ints, hlx.1] at hbx
      have hnx : nx ≤ 1048576 := by omega
      have hix := hlx.ints hnx
      have hpx : popX (cap, l) = x := by
        unfold popX
        rw [hR]
        show l.getD 0 (0, []) = x
        rw [List.getD_eq_getElem?_getD, hx]
        rfl
      have hpn : popN (cap, l) = (cap, l.drop 1) := by unfold popN; rw [hR]; rfl
      obtain ⟨M, hM⟩ : ∃ M, x.1 = M := ⟨_, rfl⟩
      rw [hM] at k0
      rw [Nat.zero_mul, Nat.add_zero] at k0 k1
      have HR := Lib.hid hR
      have HPX := Lib.hid hpx
      have HPN := Lib.hid hpn
      have HM := Lib.hid hM
      have HK0 := Lib.hid k0
      have HK1 := Lib.hid k1
      have HIX := Lib.hid hix
      clear hx hlx hix k0 k1 hR hpx hpn hM hbx
      go_wp2_with fail
      refine HOK.out.mono ?_
      rintro e w1 ⟨rfl, hb⟩
      have HB := Lib.hid hb
      obtain ⟨⟨z0, z1⟩, ⟨x0, x1⟩, ⟨r0, r1⟩, f0, f1, f2, f3, f4⟩ := CELLS.out w1 hb
      have A1 := Lib.hid (HA.out.trans (hb.mono HA.out.size))
      have d0 := (A1.out.cell (p := ⟨b, o, none⟩) hbB).trans HK0.out
      have d1 := (A1.out.cell (p := ⟨b, o + 1, none⟩) hbB).trans HK1.out
      have HCI := Lib.hid (implCopyItem_o w1 M ax nx cx x.2 ((HIX.out.below A1.out (Nat.le_refl _)).le A1.out.size))
      clear hb HOK g0
      go_wp2_with fail
      refine HCI.out.mono ?_
      rintro e w2 ⟨ar, cr, rfl, hr, hb⟩
      have hb2 := HB.out.trans (hb.mono HB.out.size)
      have hs1 := HB.out.size
      have hs2 := hb.size
      have hb3 := hb2.alloc (by omega) (.cells #[.int .i64 M, .slice ar nx cr] 29 (0, 0))
      have hk3 := heap_alloc_new w2 (.cells #[.int .i64 M, .slice ar nx cr] 29 (0, 0))
      have hz3 : (w2.alloc (.cells #[.int .i64 M, .slice ar nx cr] 29 (0, 0))).heap.size = w2.heap.size + 1 := by simp
      have HRR := Lib.hid (hr.below ((Below.refl w2.heap.size w2).alloc (Nat.le_refl _) (.cells #[.int .i64 M, .slice ar nx cr] 29 (0, 0))))
      have HB3 := Lib.hid hb3
      have HK3 := Lib.hid hk3
      have HZ3 := Lib.hid hz3
      clear hr hb hb2 hb3 hk3 hz3 d0 d1 HCI z0 z1 x0 x1 r0 r1 f0 f1 f2 f3 f4
      go_upto_region 4 with fail
      generalize w2.alloc (.cells #[.int .i64 M, .slice ar nx cr] 29 (0, 0)) = w3 at HB3 HK3 HZ3 HRR ⊢
      have hz3 := HZ3.out
      have A3 := Lib.hid (HA.out.trans (HB3.out.mono HA.out.size))
      have hq3 := (HB3.out.block w.heap.size (by omega)).trans K0.out
      obtain ⟨⟨z0, z1⟩, -, -, -, -, -, -, f4⟩ := CELLS.out w3 HB3.out
      have hl3 := HL.out.below A3.out (Nat.le_refl _)
      have hdr1 := hl3.drop1
      have hlh : ∀ hc : c = 1, ListAt shItem (Under w.heap.size) w3 (some ⟨b, o, none⟩) (n - 1) (l.drop 1) := fun hc => ⟨hdr1.1, fun j x hx => by
        have := (List.getElem?_eq_some_iff.1 hx).1
        rw [hdr1.1] at this
        omega⟩
      have HD1 := Lib.hid hdr1
      have HLH := Lib.hid hlh
      clear hdr1 hlh hl3
      go_upto_region 5 with fail
      obtain ⟨AA, hAA⟩ : ∃ AA : Option Addr, (if c = 1 then some ⟨b, o, none⟩ else some ⟨b, o + 2, none⟩) = AA := ⟨_, rfl⟩
      have hlv : ListAt shItem (Under w.heap.size) w3 AA (n - 1) (l.drop 1) := by
        by_cases hc : c = 1
        · rw [← hAA, if_pos hc]
          exact HLH.out hc
        · rw [← hAA, if_neg hc]
          exact HD1.out
      rw [hAA]
      have k4 := heap_setCell_same w3 w.heap.size 1 _ _ (.slice AA (n - 1) (c - 1)) hq3
      have o4 : ∀ k, k ≠ w.heap.size → (w3.setCell ⟨w.heap.size, 1, none⟩ (.slice AA (n - 1) (c - 1))).heap[k]? = w3.heap[k]? := fun k hk => heap_setCell_other w3 ⟨w.heap.size, 1, none⟩ k (.slice AA (n - 1) (c - 1)) hk
      have z4 : (w3.setCell ⟨w.heap.size, 1, none⟩ (.slice AA (n - 1) (c - 1))).heap.size = w2.heap.size + 1 := by simpa using hz3
      have b4 := A3.out.setCell (p := ⟨w.heap.size, 1, none⟩) (Nat.le_refl _) (.slice AA (n - 1) (c - 1))
      have hl4 : ListAt shItem (Under w.heap.size) (w3.setCell ⟨w.heap.size, 1, none⟩ (.slice AA (n - 1) (c - 1))) AA (n - 1) (l.drop 1) := hlv.keep fun k hk => o4 k (by have h1 : k < w.heap.size := hk; omega)
      have hne : ∀ k, (Value.slice ar nx cr).ownBlock = some k → k ≠ w.heap.size := fun k hk => by have := (Row.lt HRR.out k hk).1; omega
      have hr4 : Row w1.heap.size (w3.setCell ⟨w.heap.size, 1, none⟩ (.slice AA (n - 1) (c - 1))) (.slice ar nx cr) x.2 := ownsRow_set HRR.out 1 (.slice AA (n - 1) (c - 1)) hne
      have q4 := (o4 w2.heap.size (by omega)).trans HK3.out
      have r4 := (o4 (w.heap.size + 1) (by omega)).trans ((HB3.out.block _ (by omega)).trans K1.out)
      have t4 := (o4 (w.heap.size + 1 + 1) (by omega)).trans ((HB3.out.block _ (by omega)).trans K2.out)
      clear z0 z1 f4 hq3 hlv HD1 HLH END HCP CELLS HK0 HK1 HIX o4 hne
      generalize w3.setCell ⟨w.heap.size, 1, none⟩ (.slice AA (n - 1) (c - 1)) = W4 at k4 z4 b4 hl4 hr4 q4 r4 t4 ⊢
      have hoi := hr4.ownItem M
      rw [show (M, x.2) = x by rw [← HM.out]] at hoi
      have K4 := Lib.hid k4
      have Q4 := Lib.hid q4
      have R4 := Lib.hid r4
      have T4 := Lib.hid t4
      have B4 := Lib.hid b4
      have HOI := Lib.hid hoi
      have hbd : Shape.sum shItem.bulk (l.drop 1) ≤ 1048576 := Nat.le_trans (sum_drop_le _ _) hbl
      have HCP := Lib.hid (implCopyQueue_o W4.drew cap AA (n - 1) (c - 1) (l.drop 1) ((hl4.below ((Below.refl W4.heap.size W4).drew) (by omega)).le (by show w.heap.size ≤ W4.heap.size; omega)) (by omega) hbd)
      have KEEP := Lib.hid fun (wx : World) (hx : Below W4.heap.size W4 wx) => (show wx.cell? ⟨w.heap.size, 0, none⟩ = some (.int .i64 cap) ∧ wx.cell? ⟨w.heap.size, 1, none⟩ = some (.slice AA (n - 1) (c - 1)) ∧ wx.cell? ⟨w2.heap.size, 0, none⟩ = some (.int .i64 M) ∧ wx.cell? ⟨w2.heap.size, 1, none⟩ = some (.slice ar nx cr) from
        ⟨(boxq ((hx.block _ (by omega)).trans K4.out)).1, (boxq ((hx.block _ (by omega)).trans K4.out)).2, (boxq ((hx.block _ (by omega)).trans Q4.out)).1, (boxq ((hx.block _ (by omega)).trans Q4.out)).2⟩)
      have RES := Lib.hid fun (wx : World) (hx : Below W4.heap.size W4 wx) => (show (wx.cell? ⟨w.heap.size + 1, 0, none⟩ = some (.int .i64 0) ∧ wx.cell? ⟨w.heap.size + 1, 1, none⟩ = some (.slice none 0 0)) ∧ (wx.cell? ⟨w.heap.size + 1 + 1, 0, none⟩ = some (.int .i64 0) ∧ wx.cell? ⟨w.heap.size + 1 + 1, 1, none⟩ = some (.slice none 0 0)) ∧ wx.frozen? ⟨w.heap.size + 1, 0, none⟩ = false ∧ wx.frozen? ⟨w.heap.size + 1, 1, none⟩ = false ∧ wx.frozen? ⟨w.heap.size + 1 + 1, 0, none⟩ = false ∧ wx.frozen? ⟨w.heap.size + 1 + 1, 1, none⟩ = false from
        ⟨boxq ((hx.block _ (by omega)).trans R4.out), boxq ((hx.block _ (by omega)).trans T4.out), frozen_of_row _ _ _ _ _ ((hx.block _ (by omega)).trans R4.out), frozen_of_row _ _ _ _ _ ((hx.block _ (by omega)).trans R4.out), frozen_of_row _ _ _ _ _ ((hx.block _ (by omega)).trans T4.out), frozen_of_row _ _ _ _ _ ((hx.block _ (by omega)).trans T4.out)⟩)
      have DR : Hid (Below W4.heap.size W4 W4.drew) := Lib.hid (Below.refl _ _).drew
      obtain ⟨y1, y2, y3, y4⟩ := KEEP.out _ DR.out
      have Z4 := Lib.hid z4
      have z6 : w2.heap.size < W4.heap.size := by omega
      have hdl : (l.drop 1).length = n - 1 := by rw [List.length_drop, HLEN.out]
      have HDL := Lib.hid hdl
      obtain ⟨g2, hg2⟩ : ∃ g, w.heap.size + 1 + 1 = g := ⟨_, rfl⟩
      rw [hg2] at RES T4 ⊢
      have HG2 := Lib.hid hg2
      have n1 : ¬ w.heap.size = w.heap.size + 1 := by omega
      have n2 : ¬ w.heap.size = g2 := by omega
      have n9 : ¬ g2 = w.heap.size := by omega
      have n5 : ¬ w.heap.size + 1 = g2 := by omega
      have n6 : ¬ g2 = w.heap.size + 1 := by omega
      have n3 : ¬ w2.heap.size = w.heap.size + 1 := by omega
      have n4 : ¬ w2.heap.size = g2 := by omega
      have n7 : ¬ w.heap.size + 1 = w2.heap.size := by omega
      have n8 : ¬ g2 = w2.heap.size := by omega
      clear k4 q4 r4 t4 b4 hoi hl4 hr4 hbd z4 hdl hg2
      go_region_held3 (fun w' => w'.cell? ⟨w.heap.size, 0, none⟩ = some (.int .i64 cap) ∧ w'.cell? ⟨w.heap.size, 1, none⟩ = some (.slice AA (n - 1) (c - 1)) ∧ w'.cell? ⟨w2.heap.size, 0, none⟩ = some (.int .i64 M) ∧ w'.cell? ⟨w2.heap.size, 1, none⟩ = some (.slice ar nx cr))
        (first | (go_split_ands; refine ⟨?_, ?_, ?_, ?_⟩ <;> with_reducible assumption) | (go_keep; done))
        (first
          | (go_simp
             go_at_call 35
             refine HCP.out.mono ?_
             rintro e w5 ⟨v, rfl, hll, hb⟩
             have hb5 : Below W4.heap.size W4 w5 := DR.out.trans hb
             obtain ⟨s1, s2, s3, s4⟩ := KEEP.out _ hb5
             obtain ⟨⟨u1, u2⟩, ⟨u3, u4⟩, u5, u6, u7, u8⟩ := RES.out _ hb5
             obtain ⟨av, cv, rfl, -, -⟩ := hll.form
             rw [HDL.out] at hll ⊢
             have HL5 := Lib.hid (show ListL ownItem 29 W4.heap.size w5.heap.size w5 (.slice av (n - 1) cv) (l.drop 1) from hll)
             have HB5 := Lib.hid hb5
             clear hll hb hb5))
      have hs5 := HB5.out.size
      have hg2 := HG2.out
      obtain ⟨e0, e1, hsz, hot, hbe⟩ := two_stored (wx := w5) (g1 := w.heap.size + 1) (g2 := g2) (by omega) ((HB5.out.block _ (by omega)).trans R4.out) ((HB5.out.block _ (by omega)).trans T4.out) (.int .i64 cap) (.slice av (n - 1) cv) (.int .i64 M) (.slice ar nx cr)
      have hbw := hbe w.heap.size w (by omega) (by omega) (B4.out.trans (HB5.out.mono (by omega)))
      have hl2 := (((HL5.out.storedQ (w.heap.size + 1) 0 (.int .i64 cap) (by omega)).storedQ (w.heap.size + 1) 1 (.slice av (n - 1) cv) (by omega)).storedQ g2 0 (.int .i64 M) (by omega)).storedQ g2 1 (.slice ar nx cr) (by omega)
      have E0 := Lib.hid e0
      have E1 := Lib.hid e1
      have HSZ := Lib.hid hsz
      have HOT := Lib.hid hot
      have HBW := Lib.hid hbw
      have HL2 := Lib.hid hl2
      clear hg2 e0 e1 hsz hot hbw hbe hl2
      go_wp2_with fail
      refine bodyPost_ret (results_two_slot rfl _ _ (w.heap.size + 1) g2 26 29 #[.int .i64 cap, .slice av (n - 1) cv] #[.int .i64 M, .slice ar nx cr] (0, 0) (0, 0) _ _ rfl rfl (.bool true) rfl E0.out E1.out Try.underlying26 rfl (by kernel_rfl) Try.underlying29 rfl (by kernel_rfl)) rfl ?_
      have hg2 := HG2.out
      refine ⟨[.int .i64 cap, .slice av (n - 1) cv], [.int .i64 M, .slice ar nx cr], FromB W4.heap.size w5.heap.size, FromB w1.heap.size W4.heap.size, by rw [HR.out], ?_, ?_, fun b o f => ⟨by have := f.1; omega, by rw [HSZ.out]; exact f.2⟩, fun b o f => ⟨by have := f.1; omega, by rw [HSZ.out]; have := f.2; omega⟩, fun b o f g => by have h1 := f.1; have h2 := g.2; omega, HBW.out⟩
      · obtain ⟨a', cap', e1, e2, e3, e4⟩ := HL2.out.list (by decide)
        rw [HDL.out] at e1 e2 e4
        rw [HPN.out]
        exact ownQueue_owns.2 ⟨a', n - 1, cap', by rw [e1], e2, e3, e4⟩
      · rw [HPX.out]
        refine ownItem.owns_keep HOI.out fun k oo f => ?_
        have e := (HOT.out k (by have := f.1; omega) (by have := f.1; omega)).trans (HB5.out.block k f.2)
        exact ⟨World.cell?_of_block (a := ⟨k, oo, none⟩) e, World.frozen?_of_block (a := ⟨k, oo, none⟩) e⟩
    · have g0 : decide ((n : Int) = 0) = true := decide_eq_true (by omega)
      obtain rfl : n = 0 := by omega
      go_wp2_with fail
      refine HOK.out.mono ?_
      rintro e w1 ⟨rfl, hb⟩
      have HB := Lib.hid hb
      obtain ⟨⟨z0, z1⟩, ⟨x0, x1⟩, ⟨r0, r1⟩, f0, f1, f2, f3, f4⟩ := CELLS.out w1 hb
      clear hb
      go_wp2_with fail
      refine (HCP.out w1 HB.out).mono ?_
      rintro e w2 ⟨v, rfl, hll, hb⟩
      have hb2 := HB.out.trans (hb.mono HB.out.size)
      have E2 := Lib.hid (END.out (by rw [HPB.out]; rfl) w2 w1.heap.size v hb2 HB.out.size hll)
      obtain ⟨⟨z0, z1⟩, ⟨x0, x1⟩, ⟨r0, r1⟩, f0, f1, f2, f3, f4⟩ := CELLS.out w2 hb2
      obtain ⟨av, cv, rfl, -, -⟩ := hll.form
      rw [HLEN.out] at E2 ⊢
      obtain ⟨e0, e1, -, -, -⟩ := two_stored (g1 := w.heap.size + 1) (g2 := w.heap.size + 1 + 1) (by omega) ((hb2.block _ (by omega)).trans K1.out) ((hb2.block _ (by omega)).trans K2.out) (.int .i64 cap) (.slice av 0 cv) (.int .i64 0) (.slice none 0 0)
      have E0 := Lib.hid e0
      have E1 := Lib.hid e1
      clear hll hb hb2 e0 e1
      go_wp2_with fail
      exact bodyPost_ret (results_two_slot rfl _ _ (w.heap.size + 1) (w.heap.size + 1 + 1) 26 29 #[.int .i64 cap, .slice av 0 cv] #[.int .i64 0, .slice none 0 0] (0, 0) (0, 0) _ _ rfl rfl (.bool false) rfl E0.out E1.out Try.underlying26 rfl (by kernel_rfl) Try.underlying29 rfl (by kernel_rfl)) rfl E2.out
end Go.Proofs.Ytdoofapjhgahgaa

end

/-! YtdoofapjhgahgaaQueW -/
section

namespace Go.Proofs.Ytdoofapjhgahgaa
open Go.RowKit
set_option linter.unusedVariables false

section
variable (w : World) (es : List Value) (m : dQueue) (h : shQueue.reads (Under w.heap.size) w es m) (hb : shQueue.bulk m ≤ 1048576)
include h hb
theorem implQueueOk_d : Calls Try.prog 18 #[.agg es.toArray] w fun e w' => e = .returned (.bool (queueOkB m)) ∧ Below w.heap.size w w' := by
  obtain ⟨a, n, c, rfl, h1, h2, h3, h4, h5⟩ := queue_open h hb
  exact implQueueOk_c w m.1 a n c m.2 h3 h4 h5
theorem implQueueWords_d : Calls Try.prog 14 #[.agg es.toArray] w fun e w' => e = .returned (.int .i64 (queueWordsN m)) ∧ Below w.heap.size w w' := by
  obtain ⟨a, n, c, rfl, h1, h2, h3, h4, h5⟩ := queue_open h hb
  exact implQueueWords_c w m.1 a n c m.2 h3 h4 h5
end
end Go.Proofs.Ytdoofapjhgahgaa

end

/-! YtdoofapjhgahgaaQueLawM -/
section

namespace Go.Proofs.Ytdoofapjhgahgaa
open Go.RowKit
set_option linter.unusedVariables false

theorem queueOk_iff {q : dQueue} : queueOkB q = true ↔ (∀ x ∈ q.2, itemOkB x = true) ∧ 1 ≤ q.1 ∧ q.1 ≤ 5 ∧ (q.2.length : Int) ≤ q.1 := by
  refine ⟨queueOk_has, fun ⟨h1, h2, h3, h4⟩ => ?_⟩
  unfold queueOkB inB
  simp only [Bool.and_eq_true, List.all_eq_true, decide_eq_true_eq]
  exact ⟨h1, ⟨h2, h3⟩, h4⟩
theorem queueOk_drop {cap : Int} {l : List dItem} (h : queueOkB (cap, l) = true) (k : Nat) : queueOkB (cap, l.drop k) = true := by
  obtain ⟨h1, h2, h3, h4⟩ := queueOk_iff.1 h
  refine queueOk_iff.2 ⟨fun x hx => h1 x (List.mem_of_mem_drop hx), h2, h3, ?_⟩
  show ((l.drop k).length : Int) ≤ cap
  have h5 : (l.length : Int) ≤ cap := h4
  rw [List.length_drop]
  omega
theorem push_is {q : dQueue} {x : dItem} (h : pushB q x = true) : queueOkB q = true ∧ (q.2.length : Int) < q.1 ∧ itemOkB x = true := by
  unfold pushB at h
  simp only [Bool.and_eq_true, decide_eq_true_eq] at h
  exact h
theorem queueOk_push {q : dQueue} {x : dItem} (h : pushB q x = true) : queueOkB (q.1, q.2 ++ [x]) = true := by
  obtain ⟨h1, h2, h3⟩ := push_is h
  obtain ⟨g1, g2, g3, g4⟩ := queueOk_iff.1 h1
  refine queueOk_iff.2 ⟨fun y hy => ?_, g2, g3, ?_⟩
  · rcases List.mem_append.1 hy with hy | hy
    · exact g1 y hy
    · rw [List.mem_singleton.1 hy]
      exact h3
  · show ((q.2 ++ [x]).length : Int) ≤ q.1
    rw [List.length_append, List.length_singleton]
    omega
theorem push_yes {q : dQueue} {x : dItem} (h : pushB q x = true) : pushN q x = (q.1, q.2 ++ [x]) := by
  unfold pushN
  rw [h]
  rfl
theorem push_no {q : dQueue} {x : dItem} (h : pushB q x = false) : pushN q x = q := by
  unfold pushN
  rw [h]
  rfl
theorem numsTo_append (l r : List dItem) : ∀ k, k ≤ l.length → numsTo (l ++ r) k = numsTo l k
  | 0, _ => rfl
  | k + 1, h => by
    rw [numsTo, numsTo, numsTo_append l r k (by omega)]
    congr 1
    rw [List.getD_eq_getElem?_getD, List.getD_eq_getElem?_getD, List.getElem?_append_left (by omega)]
/-- The numbers that lie in a queue, with one item more. -/
theorem words_push {q : dQueue} {x : dItem} (h : pushB q x = true) : queueWordsN (pushN q x) = queueWordsN q + x.2.length := by
  rw [push_yes h]
  unfold queueWordsN
  rw [queueOk_push h, (push_is h).1]
  simp only [if_true]
  show ((numsTo (q.2 ++ [x]) (q.2 ++ [x]).length : Nat) : Int) = _
  rw [List.length_append, List.length_singleton, numsTo, numsTo_append q.2 [x] q.2.length (Nat.le_refl _), List.getD_eq_getElem?_getD, List.getElem?_append_right (Nat.le_refl _), Nat.sub_self]
  simp
/-- One item after the other. -/
theorem pop_at {cap : Int} {l : List dItem} (h : queueOkB (cap, l) = true) {k : Nat} (hk : k < l.length) :
    popB (cap, l.drop k) = true ∧ popX (cap, l.drop k) = l.getD k (0, []) ∧ popN (cap, l.drop k) = (cap, l.drop (k + 1)) := by
  have hb : popB (cap, l.drop k) = true := by
    unfold popB
    rw [queueOk_drop h k]
    simp
    omega
  refine ⟨hb, ?_, ?_⟩
  · unfold popX
    rw [hb]
    show (l.drop k).getD 0 (0, []) = _
    rw [List.getD_eq_getElem?_getD, List.getD_eq_getElem?_getD, List.getElem?_drop, Nat.add_zero]
  · unfold popN
    rw [hb]
    show (cap, (l.drop k).drop 1) = _
    rw [List.drop_drop]
theorem pop_none (cap : Int) : popB (cap, []) = false := by
  unfold popB
  simp
theorem pop_wrong {q : dQueue} (h : queueOkB q = false) : popB q = false := by
  unfold popB
  rw [h]
  rfl
theorem push_wrong {q : dQueue} {x : dItem} (h : queueOkB q = false) : pushB q x = false := by
  unfold pushB
  rw [h]
  rfl
end Go.Proofs.Ytdoofapjhgahgaa

end

/-! YtdoofapjhgahgaaDrawQ -/
section

namespace Go.Proofs.Ytdoofapjhgahgaa
open Go.RowKit Go.Sort
set_option linter.unusedVariables false
set_option linter.unusedSimpArgs false

theorem results_cells_two {P : Program} {fn : Func} {p q : Tmp} {ty ty' : TypeId} (h : fn.results = #[.cell p ty, .cell q ty']) (tmps : Array Value) (w : World) (g g' : Nat) (t t' : TypeId) (cs cs' : Array Value) (fr fr' : Nat × Nat) (d d' : TypeDesc)
    (hp : tmps.getD p undef = .pointer (some ⟨g, 0, none⟩)) (hq : tmps.getD q undef = .pointer (some ⟨g', 0, none⟩)) (hg : w.heap[g]? = some (.cells cs t fr)) (hg' : w.heap[g']? = some (.cells cs' t' fr'))
    (hu : P.underlying ty = some d) (hd : (match d with | .struct _ | .array _ _ => true | _ => false) = true) (hi : (P.info? ty).map (·.size) = some cs.size)
    (hu' : P.underlying ty' = some d') (hd' : (match d' with | .struct _ | .array _ _ => true | _ => false) = true) (hi' : (P.info? ty').map (·.size) = some cs'.size) :
    (results fn tmps).run P w = .ok (.tuple #[.agg cs, .agg cs']) w := by
  have e : (results fn tmps).run P w = ((asAddr (tmps.getD p undef)).run P w).andThen fun a w₁ => ((loadVar ty a).run P w₁).andThen fun v w₂ => ((asAddr (tmps.getD q undef)).run P w₂).andThen fun a' w₃ => ((loadVar ty' a').run P w₃).andThen fun v' w₄ => .ok (.tuple #[v, v']) w₄ := by
    simp only [results, h]
    simp [Sem.run_bind, Result.andThen]
  rw [e, hp, hq]
  simp [asAddr, run_loadVar_row w g t ty cs fr d hg hu hd hi, run_loadVar_row w g' t' ty' cs' fr' d' hg' hu' hd' hi', Result.andThen]
theorem Turned.blockQ {B : Nat} {w w1 : World} {C : Nat} (h : Turned B w w1 C) {k : Nat} (hk : k < w.heap.size) (hne : k ≠ C) : w1.heap[k]? = w.heap[k]? := h.2.block k hk (fun e => hne (Option.some.inj e))
theorem Turned.poke {B : Nat} {w w1 : World} {C : Nat} (h : Turned B w w1 C) (hC : C < w.heap.size) (a : Addr) (u : Value) (ha : w.heap.size ≤ a.block) : Turned B w (w1.setCell a u) C :=
  h.store hC (⟨rfl, rfl, rfl, by simp [World.setCell], fun k _ hk => heap_setCell_other w1 a k u (fun e => hk (by rw [e]))⟩ : w1.grownBy (w1.setCell a u) (some a.block)) ha
theorem ListL.turned {α : Type} {S : Owned α} {T : TypeId} {lo hi B C : Nat} {w w' : World} {v : Value} {xs : List α} (h : ListL S T lo hi w v xs) (ht : Turned B w w' C) (hC : C < lo) : ListL S T lo hi w' v xs := by
  obtain ⟨us, G, h1, h2, h3, h4, h5⟩ := h.all
  have hk : ∀ b, b < hi → lo ≤ b → w'.heap[b]? = w.heap[b]? := fun b hb hl => ht.blockQ (Nat.lt_of_lt_of_le hb h.top) (by omega)
  refine ⟨Nat.le_trans h.top ht.size, us, G, ⟨h1.1, h1.2.imp id ?_⟩, h2, fun j x hx => ?_, h4, h5⟩
  · rintro ⟨g, cap, cur, rfl, e1, e2, e3⟩
    exact ⟨g, cap, cur, rfl, e1, (hk g (h2 g rfl) e1).trans e2, e3⟩
  · obtain ⟨es, q1, q2⟩ := h3 j x hx
    refine ⟨es, q1, S.owns_keep q2 fun b o f => ?_⟩
    have q := h4 j b o f
    have e := hk b q.2.1 q.1
    exact ⟨World.cell?_of_block (a := ⟨b, o, none⟩) e, World.frozen?_of_block (a := ⟨b, o, none⟩) e⟩
/-- Numbers of a drawn length. -/
theorem l3Vec_q (B : Nat) (w : World) (C : Nat) (n : Int) (h0 : 0 ≤ n) (h1 : n ≤ 6) (hc : Cu B w C) :
    Calls Try.prog 50 #[.pointer (some ⟨C, 0, none⟩), .int .i64 n] w (DrewV (fun xs => xs.length ≤ 7) B w C) := by
  obtain ⟨m, rfl⟩ : ∃ m : Nat, n = m := ⟨n.toNat, by omega⟩
  exact (l3Vec_e B w C m (by omega) hc).mono fun e w' ⟨v, xs, he, hl, hr, ht⟩ => ⟨v, xs, he, by show xs.length ≤ 7; omega, hr, ht⟩
/-- Items that are small. -/
def SmallI (l : List dItem) : Prop := ∀ x ∈ l, x.2.length ≤ 7
theorem SmallI.put {l : List dItem} (h : SmallI l) {x : dItem} (hx : x.2.length ≤ 7) : SmallI (l ++ [x]) := fun y hy => by
  rcases List.mem_append.1 hy with hy | hy
  · exact h y hy
  · rw [List.mem_singleton.1 hy]
    exact hx
theorem SmallI.push {q : dQueue} {x : dItem} (h : SmallI q.2) (hx : x.2.length ≤ 7) : SmallI (pushN q x).2 ∧ (pushN q x).2.length ≤ q.2.length + 1 := by
  unfold pushN
  split
  · exact ⟨h.put hx, by simp⟩
  · exact ⟨h, Nat.le_succ _⟩
theorem SmallI.bulk {c : Int} {l : List dItem} (h : SmallI l) (hl : l.length ≤ 10) : shQueue.bulk (c, l) ≤ 80 := by
  rw [queue_bulk]
  have := sum_each shItem.bulk 7 l fun x hx => by rw [shItem_bulk, bulk_ints]; exact h x hx
  show l.length + Shape.sum shItem.bulk l ≤ 80
  have : 7 * l.length ≤ 70 := by omega
  omega
/-- The model's Push over a list of a call's own and a row of its own. -/
theorem specPush_q {lo hi base : Nat} (w : World) (cap : Int) (a : Option Addr) (n c : Nat) (l : List dItem) (h : ListL ownItem 29 lo hi w (.slice a n c) l) (hs : SmallI l) (hl : l.length ≤ 10) (m : Int) (ax : Option Addr) (nx cx : Nat) (ys : List Int) (hx : Row base w (.slice ax nx cx) ys) (hy : ys.length ≤ 7) :
    Calls Try.prog 21 #[.agg #[.int .i64 cap, .slice a n c], .agg #[.int .i64 m, .slice ax nx cx]] w fun e w' => ∃ av cv q, e = .returned (.tuple #[.agg #[.int .i64 cap, .slice av (pushN (cap, l) (m, ys)).2.length cv], .bool q]) ∧ ListL ownItem 29 w.heap.size w'.heap.size w' (.slice av (pushN (cap, l) (m, ys)).2.length cv) (pushN (cap, l) (m, ys)).2 ∧ Below w.heap.size w w' := by
  obtain ⟨a', c', e1, e2, e3, e4⟩ := h.list (by decide)
  cases e1
  obtain ⟨a', n', c', e1, g1, g2, g3⟩ := hx.own
  cases e1
  have htop := h.top
  refine (specPush_l w [.int .i64 cap, .slice a l.length c] (cap, l) (shQueue_reads.2 ⟨_, _, _, rfl, e2, e3, e4.listAt (fun b o f => Nat.lt_of_lt_of_le f.2 htop) (by decide)⟩) (Nat.le_trans (hs.bulk hl) (by omega)) [.int .i64 m, .slice ax nx cx] (m, ys) (shItem_reads.2 ⟨_, _, _, rfl, g1, g2, g3.listAt (fun b o f => f.2) (by decide)⟩) (by rw [shItem_bulk, bulk_ints]; show ys.length ≤ 1048576; omega)).mono ?_
  rintro e w' ⟨v, rfl, hl', hb⟩
  obtain ⟨av, cv, rfl, -, -⟩ := hl'.form
  exact ⟨av, cv, _, rfl, hl', hb⟩
/-- A queue was drawn. -/
def DrewQ (B : Nat) (w : World) (C : Nat) (e : Ending) (w' : World) : Prop := ∃ cap v l, e = .returned (.agg #[.int .i64 cap, v]) ∧ (l.length ≤ 4 ∧ SmallI l) ∧ ListL ownItem 29 w.heap.size w'.heap.size w' v l ∧ Turned B w w' C
/-- Behind the model's Push: its answer's box gx, the queue's g, the result's z. -/
structure Pushed (B : Nat) (w : World) (C z g gx : Nat) (cap : Int) (u v : Value) (l : List dItem) (W : World) : Prop where
  x : W.heap[gx]? = some (.cells #[.int .i64 cap, v] 26 (0, 0))
  q : W.heap[g]? = some (.cells #[.int .i64 cap, u] 26 (0, 0))
  z : W.heap[z]? = some (.cells #[.int .i64 0, .slice none 0 0] 26 (0, 0))
  l : ListL ownItem 29 (g + 1) W.heap.size W v l
  t : Turned B w W C
theorem Pushed.set {B : Nat} {w : World} {C z g gx lo : Nat} {cap : Int} {u v p r : Value} {l : List dItem} {W : World} (hC : C < w.heap.size) (hz : w.heap.size ≤ z) (hzg : z < g) (hgx : g < gx) (hlo : gx < lo) (hx : W.heap[gx]? = some (.cells #[p, r] 26 (0, 0)))
    (hq : W.heap[g]? = some (.cells #[.int .i64 cap, u] 26 (0, 0))) (h0 : W.heap[z]? = some (.cells #[.int .i64 0, .slice none 0 0] 26 (0, 0))) (hl : ListL ownItem 29 lo W.heap.size W v l) (ht : Turned B w W C) :
    Pushed B w C z g gx cap u v l ((W.setCell ⟨gx, 0, none⟩ (.int .i64 cap)).setCell ⟨gx, 1, none⟩ v) :=
  ⟨heap_setCell_same _ _ 1 _ _ _ (heap_setCell_same _ _ 0 _ _ _ hx),
   (heap_setCell_other _ _ _ _ (by show g ≠ gx; omega)).trans ((heap_setCell_other _ _ _ _ (by show g ≠ gx; omega)).trans hq),
   (heap_setCell_other _ _ _ _ (by show z ≠ gx; omega)).trans ((heap_setCell_other _ _ _ _ (by show z ≠ gx; omega)).trans h0),
   ((hl.storedQ gx 0 (.int .i64 cap) hlo).storedQ gx 1 v hlo).wide (by omega) (by simp) (Nat.le_refl _),
   (ht.poke hC ⟨gx, 0, none⟩ _ (by show w.heap.size ≤ gx; omega)).poke hC ⟨gx, 1, none⟩ _ (by show w.heap.size ≤ gx; omega)⟩
theorem Pushed.new {B : Nat} {w : World} {C z g lo : Nat} {cap : Int} {u v : Value} {l : List dItem} {W : World} (hlo : g < lo)
    (hq : W.heap[g]? = some (.cells #[.int .i64 cap, u] 26 (0, 0))) (h0 : W.heap[z]? = some (.cells #[.int .i64 0, .slice none 0 0] 26 (0, 0))) (hl : ListL ownItem 29 lo W.heap.size W v l) (ht : Turned B w W C) :
    Pushed B w C z g W.heap.size cap u v l (W.alloc (.cells #[.int .i64 cap, v] 26 (0, 0))) :=
  have hb := (Below.refl W.heap.size W).alloc (Nat.le_refl _) (.cells #[.int .i64 cap, v] 26 (0, 0))
  ⟨heap_alloc_new W _, (hb.block g (Array.getElem?_eq_some_iff.1 hq).1).trans hq, (hb.block z (Array.getElem?_eq_some_iff.1 h0).1).trans h0, (hl.below hb (Nat.le_refl _)).wide (by omega) (by simp) (Nat.le_refl _), ht.then hb⟩
theorem Pushed.fin {B : Nat} {w : World} {C z g gx : Nat} {cap : Int} {u v : Value} {l : List dItem} {W : World} (hC : C < w.heap.size) (hz : w.heap.size ≤ z) (hzg : z < g) (h : Pushed B w C z g gx cap u v l W) :
    ((W.setCell ⟨g, 0, none⟩ (.int .i64 cap)).setCell ⟨g, 1, none⟩ v).heap[z]? = some (.cells #[.int .i64 0, .slice none 0 0] 26 (0, 0)) ∧
    ((W.setCell ⟨g, 0, none⟩ (.int .i64 cap)).setCell ⟨g, 1, none⟩ v).heap[g]? = some (.cells #[.int .i64 cap, v] 26 (0, 0)) ∧
    ListL ownItem 29 (g + 1) ((W.setCell ⟨g, 0, none⟩ (.int .i64 cap)).setCell ⟨g, 1, none⟩ v).heap.size ((W.setCell ⟨g, 0, none⟩ (.int .i64 cap)).setCell ⟨g, 1, none⟩ v) v l ∧
    Turned B w ((W.setCell ⟨g, 0, none⟩ (.int .i64 cap)).setCell ⟨g, 1, none⟩ v) C :=
  ⟨(heap_setCell_other _ _ _ _ (by show z ≠ g; omega)).trans ((heap_setCell_other _ _ _ _ (by show z ≠ g; omega)).trans h.z),
   heap_setCell_same _ _ 1 _ _ _ (heap_setCell_same _ _ 0 _ _ _ h.q),
   ((h.l.storedQ g 0 (.int .i64 cap) (Nat.lt_succ_self _)).storedQ g 1 v (Nat.lt_succ_self _)).wide (Nat.le_refl _) (by simp) (Nat.le_refl _),
   (h.t.poke hC ⟨g, 0, none⟩ _ (by show w.heap.size ≤ g; omega)).poke hC ⟨g, 1, none⟩ _ (by show w.heap.size ≤ g; omega)⟩
/-- The end: the queue is written into the result's box. -/
theorem queue_done {B : Nat} {w : World} {C g : Nat} {cap : Int} {v : Value} {l : List dItem} {W : World} (hC : C < w.heap.size) (hg : w.heap.size < g) (h0 : W.heap[w.heap.size]? = some (.cells #[.int .i64 0, .slice none 0 0] 26 (0, 0)))
    (hl : ListL ownItem 29 (g + 1) W.heap.size W v l) (ht : Turned B w W C) :
    ((W.setCell ⟨w.heap.size, 0, none⟩ (.int .i64 cap)).setCell ⟨w.heap.size, 1, none⟩ v).heap[w.heap.size]? = some (.cells #[.int .i64 cap, v] 26 (0, 0)) ∧
    ListL ownItem 29 w.heap.size ((W.setCell ⟨w.heap.size, 0, none⟩ (.int .i64 cap)).setCell ⟨w.heap.size, 1, none⟩ v).heap.size ((W.setCell ⟨w.heap.size, 0, none⟩ (.int .i64 cap)).setCell ⟨w.heap.size, 1, none⟩ v) v l ∧
    Turned B w ((W.setCell ⟨w.heap.size, 0, none⟩ (.int .i64 cap)).setCell ⟨w.heap.size, 1, none⟩ v) C :=
  ⟨heap_setCell_same _ _ 1 _ _ _ (heap_setCell_same _ _ 0 _ _ _ h0),
   ((hl.storedQ w.heap.size 0 (.int .i64 cap) (by omega)).storedQ w.heap.size 1 v (by omega)).wide (by omega) (by simp) (Nat.le_refl _),
   (ht.poke hC ⟨w.heap.size, 0, none⟩ _ (Nat.le_refl _)).poke hC ⟨w.heap.size, 1, none⟩ _ (Nat.le_refl _)⟩
set_option maxRecDepth 100000 in
set_option maxHeartbeats 6400000 in
theorem l10Queue_e (B : Nat) (w : World) (C : Nat) (hc : Cu B w C) :
    Calls Try.prog 31 #[.pointer (some ⟨C, 0, none⟩)] w (DrewQ B w C) := by
  obtain ⟨i0, hi, hz0, hz1, hz2⟩ := info_parts infoItem
  have hlt := hc.lt
  have ht0 := (Turned.refl hc).alloc (.cells #[.int .i64 0, .slice none 0 0] 26 (0, 0))
  have hb0 := heap_alloc_new w (.cells #[.int .i64 0, .slice none 0 0] 26 (0, 0))
  have hs0 : (w.alloc (.cells #[.int .i64 0, .slice none 0 0] 26 (0, 0))).heap.size = w.heap.size + 1 := by simp
  have T0 := Lib.hid ht0
  have B0 := Lib.hid hb0
  clear ht0 hb0 hc
  go_enter Try.func31, Try.ntmps31
  go_upto_region 1 with fail
  generalize w.alloc (.cells #[.int .i64 0, .slice none 0 0] 26 (0, 0)) = wa at T0 B0 hs0 ⊢
  go_wp2_with fail
  refine (l1Below_e B _ C 3 (by omega) T0.out.cu).mono ?_
  rintro e w1 ⟨c0, rfl, ⟨c1, c2⟩, ht1⟩
  have hs1 := ht1.size
  obtain ⟨cap, hcap⟩ : ∃ cap, 1 + c0 = cap := ⟨_, rfl⟩
  have ht2 := (T0.out.trans ht1).alloc (.cells #[.int .i64 cap, .slice none 0 0] 26 (0, 0))
  have hb2 := (heap_alloc_old w1 (.cells #[.int .i64 cap, .slice none 0 0] 26 (0, 0)) (show w.heap.size < w1.heap.size by omega)).trans ((ht1.blockQ (by omega) (by omega)).trans B0.out)
  have hq2 := heap_alloc_new w1 (.cells #[.int .i64 cap, .slice none 0 0] 26 (0, 0))
  have hs2 : (w1.alloc (.cells #[.int .i64 cap, .slice none 0 0] 26 (0, 0))).heap.size = w1.heap.size + 1 := by simp
  have T2 := Lib.hid ht2
  have B2 := Lib.hid hb2
  have Q2 := Lib.hid hq2
  clear ht1 ht2 hb2 hq2
  go_upto_region 2 with fail
  generalize w1.alloc (.cells #[.int .i64 cap, .slice none 0 0] 26 (0, 0)) = w2 at T2 B2 Q2 hs2 ⊢
  clear hcap c1 c2
  go_wp2_with fail
  refine (l1Below_e B _ C 4 (by omega) T2.out.cu).mono ?_
  rintro e w3 ⟨k0, rfl, ⟨k1, k2⟩, ht3⟩
  have hs3 := ht3.size
  obtain ⟨K, rfl⟩ : ∃ K : Nat, k0 = K := ⟨k0.toNat, by omega⟩
  have T3 := Lib.hid (T2.out.trans ht3)
  have B3 := Lib.hid ((ht3.blockQ (by omega) (by omega)).trans B2.out)
  have Q3 := Lib.hid ((ht3.blockQ (by omega) (by omega)).trans Q2.out)
  have hK : K ≤ 3 := by omega
  clear ht3 T2 B2 Q2 T0 B0 k1 k2
  go_wp2_with fail
  go_loopw [4] (fun nn wr => ∃ (r : Nat) (v : Value) (l : List dItem), nn = .int .i64 r ∧ r + l.length ≤ 3 ∧ SmallI l ∧ wr.heap[w.heap.size]? = some (.cells #[.int .i64 0, .slice none 0 0] 26 (0, 0)) ∧ wr.heap[w1.heap.size]? = some (.cells #[.int .i64 cap, v] 26 (0, 0)) ∧ ListL ownItem 29 (w1.heap.size + 1) wr.heap.size wr v l ∧ Turned B w wr C) (fun nn _ => (intOf nn).toNat)
  case atStart => exact ⟨K, .slice none 0 0, [], rfl, by simpa using hK, fun x hx => by simp at hx, B3.out, Q3.out, ListL.nil _ _ (by omega), T3.out⟩
  case round =>
    obtain ⟨r, v, l, rfl, hrl, hsm, hbz, hbq, hli, ht⟩ := hrel
    obtain ⟨av, cv, rfl, -, -⟩ := hli.form
    have hszr : w1.heap.size + 1 ≤ wr.heap.size := by have := (Array.getElem?_eq_some_iff.1 hbq).1; omega
    have HSM := Lib.hid hsm
    by_cases hr0 : 0 < r
    · have hr1 : (0 : Int) < (r : Int) := by omega
      have hdr : Below wr.heap.size wr wr.drew := (Below.refl _ _).drew
      have hsd : wr.drew.heap.size = wr.heap.size := rfl
      have HB : Hid (wr.drew.heap[w.heap.size]? = some (.cells #[.int .i64 0, .slice none 0 0] 26 (0, 0))) := Lib.hid hbz
      have HQ : Hid (wr.drew.heap[w1.heap.size]? = some (.cells #[.int .i64 cap, .slice av l.length cv] 26 (0, 0))) := Lib.hid hbq
      have HL := Lib.hid (hli.below hdr (Nat.le_refl _))
      have HT := Lib.hid (ht.then hdr)
      obtain ⟨n, hn⟩ : ∃ n, l.length = n := ⟨_, rfl⟩
      rw [hn] at HQ HL hrl
      have HN := Lib.hid hn
      obtain ⟨yb0, yb1⟩ := boxq (show wr.heap[w1.heap.size]? = some (.cells #[.int .i64 cap, .slice av n cv] 26 (0, 0)) from HQ.out)
      clear hbz hbq hli ht hdr hsm hn
      go_wp2_with fail
      go_region_held3 (fun w' => w'.cell? ⟨w1.heap.size, 0, none⟩ = some (.int .i64 cap) ∧ w'.cell? ⟨w1.heap.size, 1, none⟩ = some (.slice av n cv)) (first | go_keep | (go_split_ands; refine ⟨?_, ?_⟩ <;> with_reducible assumption))
        (first
          -- ARMS
          | (go_at_call 32; have HX := HX; (with_reducible refine (l1Below_e B _ C 5 (by omega) HT.out.cu).mono ?_); rintro e w5 ⟨mm, rfl, ⟨m0, m1⟩, ht5⟩; have hs5 := ht5.size; have HB := Lib.hid ((ht5.blockQ (by omega) (by omega)).trans HB.out); have HQ := Lib.hid ((ht5.blockQ (by omega) (by omega)).trans HQ.out); have HL := Lib.hid (HL.out.turned ht5 (by omega)); have HX := Lib.hid ((ht5.blockQ (by omega) (by omega)).trans HX.out); have HT := Lib.hid (HT.out.trans ht5); obtain ⟨s50, s51⟩ := boxq HQ.out; clear ht5)
          | (go_at_call 32; (with_reducible refine (l1Below_e B _ C 5 (by omega) HT.out.cu).mono ?_); rintro e w5 ⟨mm, rfl, ⟨m0, m1⟩, ht5⟩; have hs5 := ht5.size; have HB := Lib.hid ((ht5.blockQ (by omega) (by omega)).trans HB.out); have HQ := Lib.hid ((ht5.blockQ (by omega) (by omega)).trans HQ.out); have HL := Lib.hid (HL.out.turned ht5 (by omega)); have HT := Lib.hid (HT.out.trans ht5); obtain ⟨s50, s51⟩ := boxq HQ.out; clear ht5)
          | (go_at_call 32; have hb0 : Below wr.heap.size wr (wr.alloc (.cells #[.int .i64 0, .slice none 0 0] 26 (0, 0))) := (Below.refl wr.heap.size wr).alloc (Nat.le_refl _) (.cells #[.int .i64 0, .slice none 0 0] 26 (0, 0)); have hba : Below wr.heap.size wr.drew (wr.alloc (.cells #[.int .i64 0, .slice none 0 0] 26 (0, 0))).drew := ⟨hb0.os, hb0.tape, hb0.output, hb0.size, hb0.block⟩; have hsa : (wr.alloc (.cells #[.int .i64 0, .slice none 0 0] 26 (0, 0))).drew.heap.size = wr.heap.size + 1 := (by show (wr.alloc _).heap.size = _; simp); have HX : Hid ((wr.alloc (.cells #[.int .i64 0, .slice none 0 0] 26 (0, 0))).drew.heap[wr.heap.size]? = some (.cells #[.int .i64 0, .slice none 0 0] 26 (0, 0))) := Lib.hid (heap_alloc_new wr _); have hgx : w1.heap.size < wr.heap.size := (by omega); have HB := Lib.hid ((hba.block _ (by omega)).trans HB.out); have HQ := Lib.hid ((hba.block _ (by omega)).trans HQ.out); have HL := Lib.hid (HL.out.below hba (Nat.le_trans HL.out.top (Nat.le_refl _))); have HT := Lib.hid (HT.out.then hba); obtain ⟨g5, hg5⟩ : ∃ g, wr.heap.size = g := ⟨_, rfl⟩; have hgy : g5 < (wr.alloc (.cells #[.int .i64 0, .slice none 0 0] 26 (0, 0))).drew.heap.size := (by omega); rw [hg5] at HX hgx ⊢; clear hba hb0; (with_reducible refine (l1Below_e B _ C 5 (by omega) HT.out.cu).mono ?_); rintro e w5 ⟨mm, rfl, ⟨m0, m1⟩, ht5⟩; have hs5 := ht5.size; have HB := Lib.hid ((ht5.blockQ (by omega) (by omega)).trans HB.out); have HQ := Lib.hid ((ht5.blockQ (by omega) (by omega)).trans HQ.out); have HL := Lib.hid (HL.out.turned ht5 (by omega)); have HX := Lib.hid ((ht5.blockQ (by omega) (by omega)).trans HX.out); have HT := Lib.hid (HT.out.trans ht5); obtain ⟨s50, s51⟩ := boxq HQ.out; clear ht5)
          | (go_at_call 32; have HX := HX; (with_reducible refine (l1Below_e B _ C 3 (by omega) HT.out.cu).mono ?_); rintro e w6 ⟨y, rfl, ⟨y0, y1⟩, ht6⟩; have hs6 := ht6.size; have HB := Lib.hid ((ht6.blockQ (by omega) (by omega)).trans HB.out); have HQ := Lib.hid ((ht6.blockQ (by omega) (by omega)).trans HQ.out); have HL := Lib.hid (HL.out.turned ht6 (by omega)); have HX := Lib.hid ((ht6.blockQ (by omega) (by omega)).trans HX.out); have HT := Lib.hid (HT.out.trans ht6); obtain ⟨s60, s61⟩ := boxq HQ.out; obtain ⟨Y, hY⟩ : ∃ Y, 1 + y = Y := ⟨_, rfl⟩; have hYw : IntKind.i64.wrap (1 + y) = Y := (by rw [IntKind.wrap_i64]; omega); have hY0 : 1 ≤ Y := (by omega); have hY1 : Y ≤ 3 := (by omega); clear ht6 hY)
          | (go_at_call 32; (with_reducible refine (l1Below_e B _ C 3 (by omega) HT.out.cu).mono ?_); rintro e w6 ⟨y, rfl, ⟨y0, y1⟩, ht6⟩; have hs6 := ht6.size; have HB := Lib.hid ((ht6.blockQ (by omega) (by omega)).trans HB.out); have HQ := Lib.hid ((ht6.blockQ (by omega) (by omega)).trans HQ.out); have HL := Lib.hid (HL.out.turned ht6 (by omega)); have HT := Lib.hid (HT.out.trans ht6); obtain ⟨s60, s61⟩ := boxq HQ.out; obtain ⟨Y, hY⟩ : ∃ Y, 1 + y = Y := ⟨_, rfl⟩; have hYw : IntKind.i64.wrap (1 + y) = Y := (by rw [IntKind.wrap_i64]; omega); have hY0 : 1 ≤ Y := (by omega); have hY1 : Y ≤ 3 := (by omega); clear ht6 hY)
          | (go_at_call 32; have hb0 : Below w5.heap.size w5 (w5.alloc (.cells #[.int .i64 0, .slice none 0 0] 26 (0, 0))) := (Below.refl w5.heap.size w5).alloc (Nat.le_refl _) (.cells #[.int .i64 0, .slice none 0 0] 26 (0, 0)); have hba : Below w5.heap.size w5 (w5.alloc (.cells #[.int .i64 0, .slice none 0 0] 26 (0, 0))) := ⟨hb0.os, hb0.tape, hb0.output, hb0.size, hb0.block⟩; have hsa : (w5.alloc (.cells #[.int .i64 0, .slice none 0 0] 26 (0, 0))).heap.size = w5.heap.size + 1 := (by show (w5.alloc _).heap.size = _; simp); have HX : Hid ((w5.alloc (.cells #[.int .i64 0, .slice none 0 0] 26 (0, 0))).heap[w5.heap.size]? = some (.cells #[.int .i64 0, .slice none 0 0] 26 (0, 0))) := Lib.hid (heap_alloc_new w5 _); have hgx : w1.heap.size < w5.heap.size := (by omega); have HB := Lib.hid ((hba.block _ (by omega)).trans HB.out); have HQ := Lib.hid ((hba.block _ (by omega)).trans HQ.out); have HL := Lib.hid (HL.out.below hba (Nat.le_trans HL.out.top (Nat.le_refl _))); have HT := Lib.hid (HT.out.then hba); obtain ⟨g5, hg5⟩ : ∃ g, w5.heap.size = g := ⟨_, rfl⟩; have hgy : g5 < (w5.alloc (.cells #[.int .i64 0, .slice none 0 0] 26 (0, 0))).heap.size := (by omega); rw [hg5] at HX hgx ⊢; clear hba hb0; (with_reducible refine (l1Below_e B _ C 3 (by omega) HT.out.cu).mono ?_); rintro e w6 ⟨y, rfl, ⟨y0, y1⟩, ht6⟩; have hs6 := ht6.size; have HB := Lib.hid ((ht6.blockQ (by omega) (by omega)).trans HB.out); have HQ := Lib.hid ((ht6.blockQ (by omega) (by omega)).trans HQ.out); have HL := Lib.hid (HL.out.turned ht6 (by omega)); have HX := Lib.hid ((ht6.blockQ (by omega) (by omega)).trans HX.out); have HT := Lib.hid (HT.out.trans ht6); obtain ⟨s60, s61⟩ := boxq HQ.out; obtain ⟨Y, hY⟩ : ∃ Y, 1 + y = Y := ⟨_, rfl⟩; have hYw : IntKind.i64.wrap (1 + y) = Y := (by rw [IntKind.wrap_i64]; omega); have hY0 : 1 ≤ Y := (by omega); have hY1 : Y ≤ 3 := (by omega); clear ht6 hY)
          | (go_at_call 50; have HX := HX; (with_reducible refine (l3Vec_q B _ C Y (by omega) (by omega) HT.out.cu).mono ?_); rintro e w7 ⟨u, ys, rfl, hyl, hry, ht7⟩; obtain ⟨ax, cx, rfl, -⟩ := hry.form; have hs7 := ht7.size; have HB := Lib.hid ((ht7.blockQ (by omega) (by omega)).trans HB.out); have HQ := Lib.hid ((ht7.blockQ (by omega) (by omega)).trans HQ.out); have HL := Lib.hid (HL.out.turned ht7 (by omega)); have HX := Lib.hid ((ht7.blockQ (by omega) (by omega)).trans HX.out); have HT := Lib.hid (HT.out.trans ht7); obtain ⟨s70, s71⟩ := boxq HQ.out; have HY := Lib.hid hry; have HYL : Hid (ys.length ≤ 7) := Lib.hid hyl; clear ht7 hry hyl)
          | (go_at_call 50; (with_reducible refine (l3Vec_q B _ C Y (by omega) (by omega) HT.out.cu).mono ?_); rintro e w7 ⟨u, ys, rfl, hyl, hry, ht7⟩; obtain ⟨ax, cx, rfl, -⟩ := hry.form; have hs7 := ht7.size; have HB := Lib.hid ((ht7.blockQ (by omega) (by omega)).trans HB.out); have HQ := Lib.hid ((ht7.blockQ (by omega) (by omega)).trans HQ.out); have HL := Lib.hid (HL.out.turned ht7 (by omega)); have HT := Lib.hid (HT.out.trans ht7); obtain ⟨s70, s71⟩ := boxq HQ.out; have HY := Lib.hid hry; have HYL : Hid (ys.length ≤ 7) := Lib.hid hyl; clear ht7 hry hyl)
          | (go_at_call 50; have hb0 : Below w6.heap.size w6 (w6.alloc (.cells #[.int .i64 0, .slice none 0 0] 26 (0, 0))) := (Below.refl w6.heap.size w6).alloc (Nat.le_refl _) (.cells #[.int .i64 0, .slice none 0 0] 26 (0, 0)); have hba : Below w6.heap.size w6 (w6.alloc (.cells #[.int .i64 0, .slice none 0 0] 26 (0, 0))) := ⟨hb0.os, hb0.tape, hb0.output, hb0.size, hb0.block⟩; have hsa : (w6.alloc (.cells #[.int .i64 0, .slice none 0 0] 26 (0, 0))).heap.size = w6.heap.size + 1 := (by show (w6.alloc _).heap.size = _; simp); have HX : Hid ((w6.alloc (.cells #[.int .i64 0, .slice none 0 0] 26 (0, 0))).heap[w6.heap.size]? = some (.cells #[.int .i64 0, .slice none 0 0] 26 (0, 0))) := Lib.hid (heap_alloc_new w6 _); have hgx : w1.heap.size < w6.heap.size := (by omega); have HB := Lib.hid ((hba.block _ (by omega)).trans HB.out); have HQ := Lib.hid ((hba.block _ (by omega)).trans HQ.out); have HL := Lib.hid (HL.out.below hba (Nat.le_trans HL.out.top (Nat.le_refl _))); have HT := Lib.hid (HT.out.then hba); obtain ⟨g5, hg5⟩ : ∃ g, w6.heap.size = g := ⟨_, rfl⟩; have hgy : g5 < (w6.alloc (.cells #[.int .i64 0, .slice none 0 0] 26 (0, 0))).heap.size := (by omega); rw [hg5] at HX hgx ⊢; clear hba hb0; (with_reducible refine (l3Vec_q B _ C Y (by omega) (by omega) HT.out.cu).mono ?_); rintro e w7 ⟨u, ys, rfl, hyl, hry, ht7⟩; obtain ⟨ax, cx, rfl, -⟩ := hry.form; have hs7 := ht7.size; have HB := Lib.hid ((ht7.blockQ (by omega) (by omega)).trans HB.out); have HQ := Lib.hid ((ht7.blockQ (by omega) (by omega)).trans HQ.out); have HL := Lib.hid (HL.out.turned ht7 (by omega)); have HX := Lib.hid ((ht7.blockQ (by omega) (by omega)).trans HX.out); have HT := Lib.hid (HT.out.trans ht7); obtain ⟨s70, s71⟩ := boxq HQ.out; have HY := Lib.hid hry; have HYL : Hid (ys.length ≤ 7) := Lib.hid hyl; clear ht7 hry hyl)
          | (go_at_call 21; have HX := HX; (with_reducible refine (specPush_q _ cap av n cv l HL.out HSM.out (by have := HN.out; omega) mm ax _ cx ys HY.out HYL.out).mono ?_); rintro e w8 ⟨a8, c8, q8, rfl, hl8, hb8⟩; have hs8 := hb8.size; have hsm8 := HSM.out.push (q := (cap, l)) (x := (mm, ys)) HYL.out; obtain ⟨l8, hl8e⟩ : ∃ l8, (pushN (cap, l) (mm, ys)).2 = l8 := ⟨_, rfl⟩; rw [hl8e] at hl8 hsm8 ⊢; obtain ⟨n8, hn8⟩ : ∃ n8, l8.length = n8 := ⟨_, rfl⟩; rw [hn8] at hl8 ⊢; have HN8 := Lib.hid hn8; have HB := Lib.hid ((hb8.block _ (by omega)).trans HB.out); have HQ := Lib.hid ((hb8.block _ (by omega)).trans HQ.out); have HX := Lib.hid ((hb8.block _ (by omega)).trans HX.out); obtain ⟨x80, x81⟩ := boxq HX.out; have f80 : w8.frozen? ⟨g5, 0, none⟩ = false := frozen_of_row _ _ _ _ _ HX.out; have f81 : w8.frozen? ⟨g5, 1, none⟩ = false := frozen_of_row _ _ _ _ _ HX.out; have n1 : ¬ g5 = w1.heap.size := (by omega); have n2 : ¬ w1.heap.size = g5 := (by omega); have HT := Lib.hid (HT.out.then hb8); have HL := Lib.hid hl8; have HSM := Lib.hid hsm8; obtain ⟨s80, s81⟩ := boxq HQ.out; clear hb8 hl8 hsm8 hl8e hn8)
          | (go_at_call 21; (with_reducible refine (specPush_q _ cap av n cv l HL.out HSM.out (by have := HN.out; omega) mm ax _ cx ys HY.out HYL.out).mono ?_); rintro e w8 ⟨a8, c8, q8, rfl, hl8, hb8⟩; have hs8 := hb8.size; have hsm8 := HSM.out.push (q := (cap, l)) (x := (mm, ys)) HYL.out; obtain ⟨l8, hl8e⟩ : ∃ l8, (pushN (cap, l) (mm, ys)).2 = l8 := ⟨_, rfl⟩; rw [hl8e] at hl8 hsm8 ⊢; obtain ⟨n8, hn8⟩ : ∃ n8, l8.length = n8 := ⟨_, rfl⟩; rw [hn8] at hl8 ⊢; have HN8 := Lib.hid hn8; have HB := Lib.hid ((hb8.block _ (by omega)).trans HB.out); have HQ := Lib.hid ((hb8.block _ (by omega)).trans HQ.out); have n1 : ¬ w8.heap.size = w1.heap.size := (by omega); have n2 : ¬ w1.heap.size = w8.heap.size := (by omega); have HT := Lib.hid (HT.out.then hb8); have HL := Lib.hid hl8; have HSM := Lib.hid hsm8; obtain ⟨s80, s81⟩ := boxq HQ.out; clear hb8 hl8 hsm8 hl8e hn8)
          | (go_at_call 21; have hb0 : Below w7.heap.size w7 (w7.alloc (.cells #[.int .i64 0, .slice none 0 0] 26 (0, 0))) := (Below.refl w7.heap.size w7).alloc (Nat.le_refl _) (.cells #[.int .i64 0, .slice none 0 0] 26 (0, 0)); have hba : Below w7.heap.size w7 (w7.alloc (.cells #[.int .i64 0, .slice none 0 0] 26 (0, 0))) := ⟨hb0.os, hb0.tape, hb0.output, hb0.size, hb0.block⟩; have hsa : (w7.alloc (.cells #[.int .i64 0, .slice none 0 0] 26 (0, 0))).heap.size = w7.heap.size + 1 := (by show (w7.alloc _).heap.size = _; simp); have HX : Hid ((w7.alloc (.cells #[.int .i64 0, .slice none 0 0] 26 (0, 0))).heap[w7.heap.size]? = some (.cells #[.int .i64 0, .slice none 0 0] 26 (0, 0))) := Lib.hid (heap_alloc_new w7 _); have hgx : w1.heap.size < w7.heap.size := (by omega); have HB := Lib.hid ((hba.block _ (by omega)).trans HB.out); have HQ := Lib.hid ((hba.block _ (by omega)).trans HQ.out); have HL := Lib.hid (HL.out.below hba (Nat.le_trans HL.out.top (Nat.le_refl _))); have HT := Lib.hid (HT.out.then hba); have HY := Lib.hid (HY.out.below hba); obtain ⟨g5, hg5⟩ : ∃ g, w7.heap.size = g := ⟨_, rfl⟩; have hgy : g5 < (w7.alloc (.cells #[.int .i64 0, .slice none 0 0] 26 (0, 0))).heap.size := (by omega); rw [hg5] at HX hgx ⊢; clear hba hb0; (with_reducible refine (specPush_q _ cap av n cv l HL.out HSM.out (by have := HN.out; omega) mm ax _ cx ys HY.out HYL.out).mono ?_); rintro e w8 ⟨a8, c8, q8, rfl, hl8, hb8⟩; have hs8 := hb8.size; have hsm8 := HSM.out.push (q := (cap, l)) (x := (mm, ys)) HYL.out; obtain ⟨l8, hl8e⟩ : ∃ l8, (pushN (cap, l) (mm, ys)).2 = l8 := ⟨_, rfl⟩; rw [hl8e] at hl8 hsm8 ⊢; obtain ⟨n8, hn8⟩ : ∃ n8, l8.length = n8 := ⟨_, rfl⟩; rw [hn8] at hl8 ⊢; have HN8 := Lib.hid hn8; have HB := Lib.hid ((hb8.block _ (by omega)).trans HB.out); have HQ := Lib.hid ((hb8.block _ (by omega)).trans HQ.out); have HX := Lib.hid ((hb8.block _ (by omega)).trans HX.out); obtain ⟨x80, x81⟩ := boxq HX.out; have f80 : w8.frozen? ⟨g5, 0, none⟩ = false := frozen_of_row _ _ _ _ _ HX.out; have f81 : w8.frozen? ⟨g5, 1, none⟩ = false := frozen_of_row _ _ _ _ _ HX.out; have n1 : ¬ g5 = w1.heap.size := (by omega); have n2 : ¬ w1.heap.size = g5 := (by omega); have HT := Lib.hid (HT.out.then hb8); have HL := Lib.hid hl8; have HSM := Lib.hid hsm8; obtain ⟨s80, s81⟩ := boxq HQ.out; clear hb8 hl8 hsm8 hl8e hn8)
          -- END ARMS
          )
      all_goals
        first
          | (have HP := Lib.hid (Pushed.set hlt (Nat.le_refl _) (by omega) hgx (by omega) HX.out HQ.out HB.out HL.out HT.out)
             generalize ((w8.setCell ⟨g5, 0, none⟩ (.int .i64 cap)).setCell ⟨g5, 1, none⟩ (.slice a8 n8 c8)) = W9 at HP ⊢)
          | (have HP := Lib.hid (Pushed.new (by omega) HQ.out HB.out HL.out HT.out)
             generalize w8.alloc (.cells #[.int .i64 cap, .slice a8 n8 c8] 26 (0, 0)) = W9 at HP ⊢)
        obtain ⟨x90, x91⟩ := boxq HP.out.x
        obtain ⟨q90, q91⟩ := boxq HP.out.q
        have f90 : W9.frozen? ⟨w1.heap.size, 0, none⟩ = false := frozen_of_row _ _ _ _ _ HP.out.q
        have f91 : W9.frozen? ⟨w1.heap.size, 1, none⟩ = false := frozen_of_row _ _ _ _ _ HP.out.q
        have hf := HP.out.fin hlt (Nat.le_refl _) (by omega)
        have HF := Lib.hid hf
        clear hf
        go_wp2_with fail
        go_roundw
        case rel =>
          obtain ⟨e1, e2, e3, e4⟩ := HF.out
          refine ⟨r - 1, _, l8, ?_, ?_, HSM.out.1, e1, e2, e3, e4⟩
          · congr 1
            omega
          · have h1 := HSM.out.2
            have h2 := HN.out
            have h3 : l8.length ≤ l.length + 1 := h1
            omega
        case measure => simp [intOf]; omega
    · obtain rfl : r = 0 := by omega
      have HB := Lib.hid hbz
      have HQ := Lib.hid hbq
      have HL := Lib.hid hli
      have HT := Lib.hid ht
      have hl3 : l.length ≤ 3 := by omega
      clear hbz hbq hli ht hsm
      go_wp2_with fail
      refine (l1Below_e B _ C 14 (by omega) HT.out.cu).mono ?_
      rintro e w4 ⟨k, rfl, ⟨k0, k1⟩, ht4⟩
      have hs4 := ht4.size
      replace HB := Lib.hid ((ht4.blockQ (by omega) (by omega)).trans HB.out)
      replace HQ := Lib.hid ((ht4.blockQ (by omega) (by omega)).trans HQ.out)
      replace HL := Lib.hid ((HL.out.turned ht4 (by omega)).wide (hi' := w4.heap.size) (Nat.le_refl _) hs4 (Nat.le_refl _))
      replace HT := Lib.hid (HT.out.trans ht4)
      clear ht4
      by_cases e0 : k = 0
      · subst e0
        go_wp2_with fail
        refine (l1PickInt_e B _ C w4.heap.size 3 [0, 5, 6] (fun _ => True) rfl (by omega) (by omega) (fun _ _ => trivial) (HT.out.cu.alloc _) (by omega) (fun j hj => ints_cells w4 _ _ j hj)).mono ?_
        rintro e w5 ⟨y, rfl, -, ht5⟩
        have hal := (Below.refl w4.heap.size w4).alloc (Nat.le_refl _) (.cells (([0, 5, 6] : List Int).map (Value.int .i64)).toArray 3 (0, 0))
        have hsa := hal.size
        have hs5 := ht5.size
        have hb5 := (ht5.blockQ (by omega) (by omega)).trans ((hal.block w.heap.size (by omega)).trans HB.out)
        have hq5 := (ht5.blockQ (by omega) (by omega)).trans ((hal.block w1.heap.size (by omega)).trans HQ.out)
        have hl5 := ((HL.out.below hal (Nat.le_refl _)).turned ht5 (by omega)).wide (hi' := w5.heap.size) (Nat.le_refl _) (by omega) (Nat.le_refl _)
        have ht5' := (HT.out.then hal).trans ht5
        clear ht5 hal
        obtain ⟨q50, q51⟩ := boxq hq5
        have f50 : w5.frozen? ⟨w1.heap.size, 0, none⟩ = false := frozen_of_row _ _ _ _ _ hq5
        have hb6 := (heap_setCell_other w5 ⟨w1.heap.size, 0, none⟩ w.heap.size (.int .i64 y) (by show w.heap.size ≠ w1.heap.size; omega)).trans hb5
        have hq6 := heap_setCell_same w5 w1.heap.size 0 _ _ (.int .i64 y) hq5
        have hl6 := (hl5.storedQ w1.heap.size 0 (.int .i64 y) (Nat.lt_succ_self _))
        have hs6 : (w5.setCell ⟨w1.heap.size, 0, none⟩ (.int .i64 y)).heap.size = w5.heap.size := by simp
        rw [← hs6] at hl6
        have ht6 := ht5'.poke hlt ⟨w1.heap.size, 0, none⟩ (.int .i64 y) (by show w.heap.size ≤ w1.heap.size; omega)
        have HB6 := Lib.hid hb6
        have HQ6 := Lib.hid hq6
        have HL6 := Lib.hid hl6
        have HT6 := Lib.hid ht6
        clear hb5 hq5 hl5 ht5' hb6 hq6 hl6 ht6 hs6
        go_upto_region 12 with fail
        clear q50 q51 f50
        generalize w5.setCell ⟨w1.heap.size, 0, none⟩ (.int .i64 y) = w6 at HB6 HQ6 HL6 HT6 ⊢
        obtain ⟨q60, q61⟩ := boxq (show w6.heap[w1.heap.size]? = some (.cells #[.int .i64 y, .slice av l.length cv] 26 (0, 0)) from HQ6.out)
        obtain ⟨z60, z61⟩ := boxq HB6.out
        have f60 : w6.frozen? ⟨w.heap.size, 0, none⟩ = false := frozen_of_row _ _ _ _ _ HB6.out
        have f61 : w6.frozen? ⟨w.heap.size, 1, none⟩ = false := frozen_of_row _ _ _ _ _ HB6.out
        have HE := Lib.hid (queue_done (cap := y) hlt (show w.heap.size < w1.heap.size by omega) HB6.out HL6.out HT6.out)
        go_wp2_with fail
        obtain ⟨e1, e2, e3⟩ := HE.out
        exact bodyPost_ret (results_cell_row rfl _ _ w.heap.size 26 #[.int .i64 y, .slice av l.length cv] (0, 0) _ rfl e1 Try.underlying26 rfl (by kernel_rfl)) rfl ⟨y, _, l, rfl, ⟨by omega, HSM.out⟩, e2, e3⟩
      · have t0 : (k == 0) = false := by simpa using e0
        by_cases e1 : k = 1
        · subst e1
          obtain ⟨q40, q41⟩ := boxq HQ.out
          obtain ⟨n, hn⟩ : ∃ n, l.length = n := ⟨_, rfl⟩
          rw [hn] at q41 HQ HL hl3
          have HN := Lib.hid hn
          clear hn
          go_upto_region 11 with fail
          have hdr : Below w4.heap.size w4 w4.drew := (Below.refl _ _).drew
          have hS0 : w4.drew.cell? ⟨w1.heap.size, 1, none⟩ = some (.slice av n cv) := q41
          have HT4 := Lib.hid (HT.out.then hdr)
          have HB4 := Lib.hid ((hdr.block _ (by omega)).trans HB.out)
          have HQ4 := Lib.hid ((hdr.block _ (by omega)).trans HQ.out)
          have HL4 := Lib.hid (HL.out.below hdr (Nat.le_refl _))
          clear hdr q40 q41
          refine wp_region_K (S := fun wx => wx.cell? ⟨w1.heap.size, 1, none⟩ = some (.slice av n cv)) (by kernel_rfl) ?_
          refine anyK_take (i := 0) (v := ?_) rfl (by kernel_rfl) (by kernel_rfl) (by kernel_rfl) (fun _ _ _ h => h) (Or.inl ⟨by rfl, ?_⟩) hS0 ?_
          rotate_left
          · (intro wS hS; go_simp; try with_reducible rfl)
          simp only [Act.put, List.setIfInBounds_toArray, List.set_cons_zero, List.set_cons_succ]
          refine anyK_take (i := 1) (v := ?_) rfl (by kernel_rfl) (by kernel_rfl) (by kernel_rfl) (fun _ _ _ h => h) (Or.inl ⟨by rfl, ?_⟩) hS0 ?_
          rotate_left
          · (intro wS hS; go_simp; try with_reducible rfl)
          simp only [Act.put, List.setIfInBounds_toArray, List.set_cons_zero, List.set_cons_succ]
          refine anyK_take (i := 2) (v := ?_) rfl (by kernel_rfl) (by kernel_rfl) (by kernel_rfl) (fun _ _ _ h => h) (Or.inl ⟨by rfl, ?_⟩) hS0 ?_
          rotate_left
          · (intro wS hS; go_simp; try with_reducible rfl)
          simp only [Act.put, List.setIfInBounds_toArray, List.set_cons_zero, List.set_cons_succ]
          refine anyK_take (i := 5) (v := ?_) rfl (by kernel_rfl) (by kernel_rfl) (by kernel_rfl) (fun _ _ _ h => h) (Or.inl ⟨by rfl, ?_⟩) hS0 ?_
          rotate_left
          · (intro wS hS; go_simp; try with_reducible rfl)
          simp only [Act.put, List.setIfInBounds_toArray, List.set_cons_zero, List.set_cons_succ]
          refine anyK_step (i := 3) (by kernel_rfl) rfl (by rfl) (fun K hK => ?_)
          go_simp
          refine (l1Below_e B _ C 7 (by omega) HT4.out.cu).mono ?_
          rintro e w5 ⟨m0, rfl, ⟨m1, m2⟩, ht5⟩
          have hs5 : w4.heap.size ≤ w5.heap.size := ht5.size
          have HB5 := Lib.hid ((ht5.blockQ (show w.heap.size < w4.heap.size by omega) (by omega)).trans HB4.out)
          have HQ5 := Lib.hid ((ht5.blockQ (show w1.heap.size < w4.heap.size by omega) (by omega)).trans HQ4.out)
          have HL5 := Lib.hid (HL4.out.turned ht5 (by omega))
          have HT5 := Lib.hid (HT4.out.trans ht5)
          have hS5 := (boxq HQ5.out).2
          obtain ⟨M, hM⟩ : ∃ M, m0 - 1 = M := ⟨_, rfl⟩
          have hMw : IntKind.i64.wrap (m0 - 1) = M := by rw [IntKind.wrap_i64]; omega
          clear ht5 hM
          go_wp2_with fail
          refine hK _ _ (.inr hS5) ?_
          try simp only [Act.put, List.setIfInBounds_toArray, List.set_cons_zero, List.set_cons_succ]
          clear hK
          refine anyK_take (i := 4) (v := ?_) rfl (by kernel_rfl) (by kernel_rfl) (by kernel_rfl) (fun _ _ _ h => h) (Or.inl ⟨by rfl, ?_⟩) hS5 ?_
          rotate_left
          · (intro wS hS; go_simp; try with_reducible rfl)
          simp only [Act.put, List.setIfInBounds_toArray, List.set_cons_zero, List.set_cons_succ]
          refine anyK_step (i := 6) (by kernel_rfl) rfl (by rfl) (fun K hK => ?_)
          go_simp
          refine (l3Any_e B _ C HT5.out.cu).mono ?_
          rintro e w6 ⟨u, ys, rfl, hyl, hry, ht6⟩
          obtain ⟨ax, cx, rfl, -⟩ := hry.form
          have hs6 := ht6.size
          have HB6 := Lib.hid ((ht6.blockQ (by omega) (by omega)).trans HB5.out)
          have HQ6 := Lib.hid ((ht6.blockQ (by omega) (by omega)).trans HQ5.out)
          have HL6 := Lib.hid (HL5.out.turned ht6 (by omega))
          have HT6 := Lib.hid (HT5.out.trans ht6)
          have HY6 := Lib.hid hry
          have hyl6 : ys.length ≤ 7 := hyl
          have hS6 := (boxq HQ6.out).2
          clear ht6 hry hyl
          go_wp2_with fail
          refine hK _ _ (.inr hS6) ?_
          try simp only [Act.put, List.setIfInBounds_toArray, List.set_cons_zero, List.set_cons_succ]
          clear hK
          refine anyK_take (i := 7) (v := ?_) rfl (by kernel_rfl) (by kernel_rfl) (by kernel_rfl) (fun _ _ _ h => h) (Or.inl ⟨by rfl, ?_⟩) hS6 ?_
          rotate_left
          · (intro wS hS; go_simp; try with_reducible rfl)
          simp only [Act.put, List.setIfInBounds_toArray, List.set_cons_zero, List.set_cons_succ]
          have hal : Below w6.heap.size w6 (w6.alloc (.cells #[.int .i64 M, .slice ax ys.length cx] 29 (0, 0))) := (Below.refl _ _).alloc (Nat.le_refl _) _
          have hS7 : (w6.alloc (.cells #[.int .i64 M, .slice ax ys.length cx] 29 (0, 0))).cell? ⟨w1.heap.size, 1, none⟩ = some (.slice av n cv) := (hal.cell (p := ⟨w1.heap.size, 1, none⟩) (by show w1.heap.size < _; omega)).trans hS6
          refine anyK_step (i := 8) (by kernel_rfl) rfl (by rfl) (fun K hK => ?_)
          go_simp
          refine hK _ _ (.inr hS7) ?_
          try simp only [Act.put, List.setIfInBounds_toArray, List.set_cons_zero, List.set_cons_succ]
          clear hK
          have HAL := Lib.hid hal
          clear hal hS7
          refine anyK_step (i := 9) (by kernel_rfl) rfl (by rfl) (fun K hK => ?_)
          refine of_step rfl (step_append_one (ops := #[]) w6 (S := ownItem) (T := 29) (Ts := 24) (by rfl) _ _ (by rfl) i0 (.agg #[.int .i64 0, .slice none 0 0]) 32 Try.underlying24 hi hz0 hz1 hz2 rfl (by decide) (by decide) (w1.heap.size + 1) w4.heap.size (by omega) _ l (M, ys) [.int .i64 M, .slice ax ys.length cx] (FromB w5.heap.size w6.heap.size) (by rfl) HL6.out (HY6.out.ownItem M) (fun b o f => ⟨by have := f.1; omega, f.2⟩) item_one (by rfl) (by have := HN.out; omega) ?_)
          intro ar' nr' cr' w7 hl7 hb7 hg7 _
          have hq7 := (hb7.block w1.heap.size (by omega)).trans HQ6.out
          have hz7 := (hb7.block w.heap.size (by omega)).trans HB6.out
          have hs7 := hb7.size
          have hrw : ∀ k, (Value.slice av n cv).ownBlock = some k → w.heap.size ≤ k := fun k hk => by
            obtain ⟨us, G, p1, p2, -⟩ := HL6.out.all
            have := (World.ownsRow.lt p1 k hk).1
            omega
          have ht7 : Turned B w w7 C := by
            have h6 := HT6.out
            have hup := h6.1.up
            refine ⟨h6.1.grown hg7 fun k hk => by have := hrw k hk; omega, hg7.os.trans h6.2.os, hg7.tape.trans h6.2.tape, hg7.output.trans h6.2.output, Nat.le_trans h6.size hg7.size, fun b hb hne => ?_⟩
            exact (hg7.block b (Nat.lt_of_lt_of_le hb h6.size) fun e => by have := hrw b e.symm; omega).trans (h6.2.block b hb hne)
          have hS7 : w7.cell? ⟨w1.heap.size, 1, none⟩ = some (.slice av n cv) := (boxq hq7).2
          have HL7 := Lib.hid hl7
          have HQ7 := Lib.hid hq7
          have HB7 := Lib.hid hz7
          have HT7 := Lib.hid ht7
          clear hl7 hq7 hz7 ht7 hb7 hg7 hrw
          refine hK _ _ (.inr hS7) ?_
          try simp only [Act.put, List.setIfInBounds_toArray, List.set_cons_zero, List.set_cons_succ]
          clear hK
          refine anyK_take (i := 10) (v := ?_) rfl (by kernel_rfl) (by kernel_rfl) (by kernel_rfl) (fun _ _ _ h => h) (Or.inl ⟨by rfl, ?_⟩) hS7 ?_
          rotate_left
          · (intro wS hS; go_simp; try with_reducible rfl)
          simp only [Act.put, List.setIfInBounds_toArray, List.set_cons_zero, List.set_cons_succ]
          have s5 : w7.frozen? ⟨w1.heap.size, 1, none⟩ = false := frozen_of_row _ _ _ _ _ HQ7.out
          refine anyK_step (i := 11) (by kernel_rfl) rfl (by rfl) (fun K hK => ?_)
          go_simp
          refine hK _ _ (.inl (last_of (by kernel_rfl))) ?_
          clear hK s5
          refine anyK_done (by kernel_rfl) ?_ _
          have hb8 := (heap_setCell_other w7 ⟨w1.heap.size, 1, none⟩ w.heap.size (.slice ar' nr' cr') (by show w.heap.size ≠ w1.heap.size; omega)).trans HB7.out
          have hq8 := heap_setCell_same w7 w1.heap.size 1 _ _ (.slice ar' nr' cr') HQ7.out
          have hl8 := HL7.out.storedQ w1.heap.size 1 (.slice ar' nr' cr') (Nat.lt_succ_self _)
          have hs8 : (w7.setCell ⟨w1.heap.size, 1, none⟩ (.slice ar' nr' cr')).heap.size = w7.heap.size := by simp
          rw [← hs8] at hl8
          have ht8 := HT7.out.poke hlt ⟨w1.heap.size, 1, none⟩ (.slice ar' nr' cr') (by show w.heap.size ≤ w1.heap.size; omega)
          have HB8 := Lib.hid hb8
          have HQ8 := Lib.hid hq8
          have HL8 := Lib.hid hl8
          have HT8 := Lib.hid ht8
          clear hb8 hq8 hl8 ht8 hs8 hS0 hS5 hS6 hS7
          generalize w7.setCell ⟨w1.heap.size, 1, none⟩ (.slice ar' nr' cr') = w8 at HB8 HQ8 HL8 HT8 ⊢
          obtain ⟨q60, q61⟩ := boxq (show w8.heap[w1.heap.size]? = some (.cells #[.int .i64 cap, .slice ar' nr' cr'] 26 (0, 0)) from HQ8.out)
          obtain ⟨z60, z61⟩ := boxq HB8.out
          have f60 : w8.frozen? ⟨w.heap.size, 0, none⟩ = false := frozen_of_row _ _ _ _ _ HB8.out
          have f61 : w8.frozen? ⟨w.heap.size, 1, none⟩ = false := frozen_of_row _ _ _ _ _ HB8.out
          have HE := Lib.hid (queue_done (cap := cap) hlt (show w.heap.size < w1.heap.size by omega) HB8.out HL8.out HT8.out)
          have HS8 := Lib.hid (HSM.out.put (x := (M, ys)) hyl6)
          go_wp2_with fail
          obtain ⟨e1, e2, e3⟩ := HE.out
          exact bodyPost_ret (results_cell_row rfl _ _ w.heap.size 26 #[.int .i64 cap, .slice ar' nr' cr'] (0, 0) _ rfl e1 Try.underlying26 rfl (by kernel_rfl)) rfl ⟨cap, _, _, rfl, ⟨by rw [List.length_append, HN.out]; show n + 1 ≤ 4; omega, HS8.out⟩, e2, e3⟩
        · have t1 : (k == 1) = false := by simpa using e1
          obtain ⟨q60, q61⟩ := boxq HQ.out
          obtain ⟨z60, z61⟩ := boxq HB.out
          have f60 : w4.frozen? ⟨w.heap.size, 0, none⟩ = false := frozen_of_row _ _ _ _ _ HB.out
          have f61 : w4.frozen? ⟨w.heap.size, 1, none⟩ = false := frozen_of_row _ _ _ _ _ HB.out
          have HE := Lib.hid (queue_done (cap := cap) hlt (show w.heap.size < w1.heap.size by omega) HB.out HL.out HT.out)
          go_wp2_with fail
          obtain ⟨e1, e2, e3⟩ := HE.out
          exact bodyPost_ret (results_cell_row rfl _ _ w.heap.size 26 #[.int .i64 cap, .slice av l.length cv] (0, 0) _ rfl e1 Try.underlying26 rfl (by kernel_rfl)) rfl ⟨cap, _, l, rfl, ⟨by omega, HSM.out⟩, e2, e3⟩
end Go.Proofs.Ytdoofapjhgahgaa

end

/-! YtdoofapjhgahgaaDrawQX -/
section

namespace Go.Proofs.Ytdoofapjhgahgaa
open Go.RowKit Go.Sort
set_option linter.unusedVariables false
set_option linter.unusedSimpArgs false

/-- Two boxes of two cells each, written. -/
theorem two_boxes {wx : World} {g1 g2 : Nat} (hne : g1 ≠ g2) {p q r t : Value} {T1 T2 : TypeId} (k1 : wx.heap[g1]? = some (.cells #[p, q] T1 (0, 0))) (k2 : wx.heap[g2]? = some (.cells #[r, t] T2 (0, 0))) (x0 x1 y0 y1 : Value) :
    ((((wx.setCell ⟨g1, 0, none⟩ x0).setCell ⟨g1, 1, none⟩ x1).setCell ⟨g2, 0, none⟩ y0).setCell ⟨g2, 1, none⟩ y1).heap[g1]? = some (.cells #[x0, x1] T1 (0, 0)) ∧
    ((((wx.setCell ⟨g1, 0, none⟩ x0).setCell ⟨g1, 1, none⟩ x1).setCell ⟨g2, 0, none⟩ y0).setCell ⟨g2, 1, none⟩ y1).heap[g2]? = some (.cells #[y0, y1] T2 (0, 0)) ∧
    ((((wx.setCell ⟨g1, 0, none⟩ x0).setCell ⟨g1, 1, none⟩ x1).setCell ⟨g2, 0, none⟩ y0).setCell ⟨g2, 1, none⟩ y1).heap.size = wx.heap.size ∧
    (∀ k, k ≠ g1 → k ≠ g2 → ((((wx.setCell ⟨g1, 0, none⟩ x0).setCell ⟨g1, 1, none⟩ x1).setCell ⟨g2, 0, none⟩ y0).setCell ⟨g2, 1, none⟩ y1).heap[k]? = wx.heap[k]?) ∧
    ∀ B w, B ≤ g1 → B ≤ g2 → Below B w wx → Below B w ((((wx.setCell ⟨g1, 0, none⟩ x0).setCell ⟨g1, 1, none⟩ x1).setCell ⟨g2, 0, none⟩ y0).setCell ⟨g2, 1, none⟩ y1) := by
  refine ⟨?_, ?_, by simp, fun k h1 h2 => ?_, fun B w h1 h2 hb => (((hb.setCell (p := ⟨g1, 0, none⟩) h1 x0).setCell (p := ⟨g1, 1, none⟩) h1 x1).setCell (p := ⟨g2, 0, none⟩) h2 y0).setCell (p := ⟨g2, 1, none⟩) h2 y1⟩
  · rw [heap_setCell_other _ _ _ _ (by exact hne), heap_setCell_other _ _ _ _ (by exact hne)]
    exact heap_setCell_same _ _ 1 _ _ _ (heap_setCell_same _ _ 0 _ _ _ k1)
  · have k3 : ((wx.setCell ⟨g1, 0, none⟩ x0).setCell ⟨g1, 1, none⟩ x1).heap[g2]? = some (.cells #[r, t] T2 (0, 0)) := by
      rw [heap_setCell_other _ _ _ _ (by exact Ne.symm hne), heap_setCell_other _ _ _ _ (by exact Ne.symm hne)]
      exact k2
    exact heap_setCell_same _ _ 1 _ _ _ (heap_setCell_same _ _ 0 _ _ _ k3)
  · rw [heap_setCell_other _ _ _ _ (by exact h2), heap_setCell_other _ _ _ _ (by exact h2), heap_setCell_other _ _ _ _ (by exact h1), heap_setCell_other _ _ _ _ (by exact h1)]
/-- A queue and an item were drawn. -/
def DrewQX (w : World) (e : Ending) (w' : World) : Prop := ∃ es fs q x, e = .returned (.tuple #[.agg (es : List Value).toArray, .agg (fs : List Value).toArray]) ∧ shQueue.bulk q ≤ 1048000 ∧ shItem.bulk x ≤ 1000 ∧ shQueue.reads (Under w'.heap.size) w' es q ∧ shItem.reads (Under w'.heap.size) w' fs x ∧ Below w.heap.size w w'
set_option maxRecDepth 100000 in
set_option maxHeartbeats 6400000 in
theorem drawPush_e (w : World) (a : Option Addr) (cap : Nat) (bs : List UInt8) (hc : CodeIn w.heap.size w a bs) :
    Calls Try.prog 9 #[.slice a bs.length cap] w (DrewQX w) := by
  have hal : Below w.heap.size w ((w.alloc (.cells #[.int .i64 0, .slice none 0 0] 26 (0, 0))).alloc (.cells #[.int .i64 0, .slice none 0 0] 29 (0, 0))) := ((Below.refl _ _).alloc (Nat.le_refl _) _).alloc (by simp) _
  have HC := Lib.hid ((hc.below hal).le hal.size)
  have hb0 : ((w.alloc (.cells #[.int .i64 0, .slice none 0 0] 26 (0, 0))).alloc (.cells #[.int .i64 0, .slice none 0 0] 29 (0, 0))).heap[w.heap.size]? = some (.cells #[.int .i64 0, .slice none 0 0] 26 (0, 0)) := by
    rw [Below.heap_alloc _ _ _ (by simp)]
    exact heap_alloc_new w _
  have hb1 : ((w.alloc (.cells #[.int .i64 0, .slice none 0 0] 26 (0, 0))).alloc (.cells #[.int .i64 0, .slice none 0 0] 29 (0, 0))).heap[w.heap.size + 1]? = some (.cells #[.int .i64 0, .slice none 0 0] 29 (0, 0)) := by
    have := heap_alloc_new (w.alloc (.cells #[.int .i64 0, .slice none 0 0] 26 (0, 0))) (.cells #[.int .i64 0, .slice none 0 0] 29 (0, 0))
    simpa using this
  have hs0 : ((w.alloc (.cells #[.int .i64 0, .slice none 0 0] 26 (0, 0))).alloc (.cells #[.int .i64 0, .slice none 0 0] 29 (0, 0))).heap.size = w.heap.size + 2 := by simp
  have HA := Lib.hid hal
  have HB0 := Lib.hid hb0
  have HB1 := Lib.hid hb1
  clear hc hal hb0 hb1
  go_enter Try.func9, Try.ntmps9
  go_wp2_with fail
  generalize (w.alloc (.cells #[.int .i64 0, .slice none 0 0] 26 (0, 0))).alloc (.cells #[.int .i64 0, .slice none 0 0] 29 (0, 0)) = wa at HC HA HB0 HB1 hs0 ⊢
  refine (l1New_e _ a cap bs HC.out).mono ?_
  rintro e w1 ⟨rfl, hcu, hg1⟩
  have hs1 := hg1.size
  rw [hs0] at hcu
  have hlt := hcu.lt
  have R0 := Lib.hid ((hg1.block w.heap.size (by omega) (fun e => by cases e)).trans HB0.out)
  have R1 := Lib.hid ((hg1.block (w.heap.size + 1) (by omega) (fun e => by cases e)).trans HB1.out)
  have HT1 := Lib.hid (HA.out.trans (((Below.refl wa.heap.size wa).grown hg1 (Nat.le_refl _) (fun k h => by cases h)).mono (by omega : w.heap.size ≤ wa.heap.size)))
  clear hg1 HA HB0 HB1 HC
  go_wp2_with fail
  refine (l10Queue_e _ _ _ hcu).mono ?_
  rintro e w2 ⟨qc, v, l, rfl, ⟨hl4, hsm⟩, hli, ht2⟩
  have hs2 := ht2.size
  obtain ⟨av, cv, rfl, -, -⟩ := hli.form
  have R02 := Lib.hid ((ht2.blockQ (by omega) (by omega)).trans R0.out)
  have R12 := Lib.hid ((ht2.blockQ (by omega) (by omega)).trans R1.out)
  have HT2 := Lib.hid (HT1.out.trans (ht2.below (by omega) (by omega)))
  have C2 := Lib.hid ht2.cu
  have L2 := Lib.hid hli
  have SM := Lib.hid hsm
  clear R0 R1 HT1 hli ht2 hsm
  obtain ⟨n, hn⟩ : ∃ n, l.length = n := ⟨_, rfl⟩
  rw [hn] at L2 hl4
  have HN := Lib.hid hn
  go_upto_region 3 with fail
  clear hn
  have hal : Below w2.heap.size w2 (w2.alloc (.cells #[.int .i64 qc, .slice av n cv] 26 (0, 0))) := (Below.refl _ _).alloc (Nat.le_refl _) _
  have hbn := heap_alloc_new w2 (.cells #[.int .i64 qc, .slice av n cv] 26 (0, 0))
  have hbs : (w2.alloc (.cells #[.int .i64 qc, .slice av n cv] 26 (0, 0))).heap.size = w2.heap.size + 1 := by simp
  have R03 := Lib.hid ((hal.block _ (by omega)).trans R02.out)
  have R13 := Lib.hid ((hal.block _ (by omega)).trans R12.out)
  have HT3 := Lib.hid (HT2.out.trans (hal.mono (by omega)))
  have L3 := Lib.hid (L2.out.below hal (Nat.le_refl _))
  have C3 := Lib.hid (C2.out.below hal)
  clear R02 R12 HT2 L2 C2 hal
  generalize w2.alloc (.cells #[.int .i64 qc, .slice av n cv] 26 (0, 0)) = w3 at hbn hbs R03 R13 HT3 L3 C3 ⊢
  obtain ⟨yb0, yb1⟩ := boxq hbn
  have hdr : Below w3.heap.size w3 w3.drew := (Below.refl _ _).drew
  have HT : Hid (Turned (w.heap.size + 2) w3 w3.drew (w.heap.size + 2)) := Lib.hid ((Turned.refl C3.out).then hdr)
  have HBN := Lib.hid hbn
  have CELLS := Lib.hid fun (wx : World) (ht : Turned (w.heap.size + 2) w3 wx (w.heap.size + 2)) => (show (wx.cell? ⟨w2.heap.size, 0, none⟩ = some (.int .i64 qc) ∧ wx.cell? ⟨w2.heap.size, 1, none⟩ = some (.slice av n cv)) ∧ (wx.cell? ⟨w.heap.size, 0, none⟩ = some (.int .i64 0) ∧ wx.cell? ⟨w.heap.size, 1, none⟩ = some (.slice none 0 0)) ∧ (wx.cell? ⟨w.heap.size + 1, 0, none⟩ = some (.int .i64 0) ∧ wx.cell? ⟨w.heap.size + 1, 1, none⟩ = some (.slice none 0 0)) ∧ wx.frozen? ⟨w.heap.size, 0, none⟩ = false ∧ wx.frozen? ⟨w.heap.size, 1, none⟩ = false ∧ wx.frozen? ⟨w.heap.size + 1, 0, none⟩ = false ∧ wx.frozen? ⟨w.heap.size + 1, 1, none⟩ = false from
    ⟨boxq ((ht.blockQ (by omega) (by omega)).trans HBN.out), boxq ((ht.blockQ (by omega) (by omega)).trans R03.out), boxq ((ht.blockQ (by omega) (by omega)).trans R13.out), frozen_of_row _ _ _ _ _ ((ht.blockQ (by omega) (by omega)).trans R03.out), frozen_of_row _ _ _ _ _ ((ht.blockQ (by omega) (by omega)).trans R03.out), frozen_of_row _ _ _ _ _ ((ht.blockQ (by omega) (by omega)).trans R13.out), frozen_of_row _ _ _ _ _ ((ht.blockQ (by omega) (by omega)).trans R13.out)⟩)
  have n1 : ¬ w.heap.size = w2.heap.size := by omega
  have n2 : ¬ w2.heap.size = w.heap.size := by omega
  have n3 : ¬ w.heap.size + 1 = w2.heap.size := by omega
  have n4 : ¬ w2.heap.size = w.heap.size + 1 := by omega
  clear hbn hdr
  go_region_held3 (fun w' => w'.cell? ⟨w2.heap.size, 0, none⟩ = some (.int .i64 qc) ∧ w'.cell? ⟨w2.heap.size, 1, none⟩ = some (.slice av n cv)) (first | go_keep | (go_split_ands; refine ⟨?_, ?_⟩ <;> with_reducible assumption))
    (first
      | (go_at_call 32; (with_reducible refine (l1Below_e _ _ _ 7 (by omega) HT.out.cu).mono ?_); rintro e w5 ⟨m0, rfl, ⟨m1, m2⟩, ht5⟩; have HT := Lib.hid (HT.out.trans ht5); obtain ⟨M, hM⟩ : ∃ M, m0 - 1 = M := ⟨_, rfl⟩; have hMw : IntKind.i64.wrap (m0 - 1) = M := (by rw [IntKind.wrap_i64]; omega); obtain ⟨⟨s50, s51⟩, -⟩ := CELLS.out w5 HT.out; clear ht5 hM)
      | (go_at_call 33; (with_reducible refine (l3Any_e _ _ _ HT.out.cu).mono ?_); rintro e w6 ⟨u, ys, rfl, hyl, hry, ht6⟩; obtain ⟨ax, cx, rfl, -⟩ := hry.form; have hs6 := ht6.size; have HS5 := Lib.hid HT.out.size; have HT := Lib.hid (HT.out.trans ht6); have HY := Lib.hid hry; have hyl6 : ys.length ≤ 7 := hyl; obtain ⟨⟨s60, s61⟩, ⟨u1, u2⟩, ⟨u3, u4⟩, u5, u6, u7, u8⟩ := CELLS.out w6 HT.out; clear ht6 hry hyl))
  obtain ⟨e0, e1, hsz, hot, hbe⟩ := two_boxes (wx := w6) (g1 := w.heap.size) (g2 := w.heap.size + 1) (by omega) ((HT.out.blockQ (by omega) (by omega)).trans R03.out) ((HT.out.blockQ (by omega) (by omega)).trans R13.out) (.int .i64 qc) (.slice av n cv) (.int .i64 M) (.slice ax ys.length cx)
  have hbw := hbe w.heap.size w (by omega) (by omega) (HT3.out.trans (HT.out.below (by omega) (by omega)))
  have E0 := Lib.hid e0
  have E1 := Lib.hid e1
  have HSZ := Lib.hid hsz
  have HOT := Lib.hid hot
  have HBW := Lib.hid hbw
  clear e0 e1 hsz hot hbe hbw
  go_wp2_with fail
  refine bodyPost_ret (results_cells_two rfl _ _ w.heap.size (w.heap.size + 1) 26 29 #[.int .i64 qc, .slice av n cv] #[.int .i64 M, .slice ax ys.length cx] (0, 0) (0, 0) _ _ rfl rfl E0.out E1.out Try.underlying26 rfl (by kernel_rfl) Try.underlying29 rfl (by kernel_rfl)) rfl ?_
  have hsT := HT.out.size
  refine ⟨[.int .i64 qc, .slice av n cv], [.int .i64 M, .slice ax ys.length cx], (qc, l), (M, ys), rfl, Nat.le_trans (SM.out.bulk (by have := HN.out; omega)) (by omega), by rw [shItem_bulk, bulk_ints]; show ys.length ≤ 1000; omega, ?_, ?_, HBW.out⟩
  · obtain ⟨a', c', e1, e2, e3, e4⟩ := (L3.out.turned HT.out (by omega)).list (by decide)
    rw [HN.out] at e1 e2 e4
    cases e1
    refine shQueue_reads.2 ⟨_, _, _, rfl, e2, e3, ((e4.listAt (I := fun k => w1.heap.size ≤ k ∧ k < w2.heap.size) (fun k o f => f) (by decide)).keep fun k hk => HOT.out k (by have := hk.1; omega) (by have := hk.1; omega)).sub fun k hk => ?_⟩
    rw [HSZ.out]
    have := hk.2
    show k < w6.heap.size
    omega
  · obtain ⟨a', n', c', e', q1, q2, q3⟩ := HY.out.own
    cases e'
    refine shItem_reads.2 ⟨_, _, _, rfl, q1, q2, ((q3.listAt (I := fun k => w3.heap.size ≤ k ∧ k < w6.heap.size) (fun k o f => ⟨Nat.le_trans HS5.out f.1, f.2⟩) (by decide)).keep fun k hk => HOT.out k (by have := hk.1; omega) (by have := hk.1; omega)).sub fun k hk => ?_⟩
    rw [HSZ.out]
    exact hk.2
end Go.Proofs.Ytdoofapjhgahgaa

end

/-! YtdoofapjhgahgaaQueLaw -/
section

namespace Go.Proofs.Ytdoofapjhgahgaa
open Go.RowKit Go.Sort
set_option linter.unusedVariables false
set_option linter.unusedSimpArgs false

set_option maxRecDepth 100000 in
set_option maxHeartbeats 6400000 in
theorem lawQueues_small (w : World) (p : Option Addr) (cp : Nat) (bs : List UInt8) (hc : CodeIn w.heap.size w p bs) :
    Calls Try.prog 3 #[.slice p bs.length cp] w fun e w' => e = .returned (.bool true) ∧ Below w.heap.size w w' := by
  have HC0 := Lib.hid hc
  clear hc
  go_enter Try.func3, Try.ntmps3
  go_wp2_with fail
  refine (big_no p cp bs HC0.out.room _).mono ?_
  rintro e w' ⟨rfl, rfl⟩
  go_wp2_with fail
  refine (drawPush_e _ p cp bs HC0.out).mono ?_
  rintro e w1 ⟨es, fs, q, x, rfl, hbq, hbx, hq, hx, hb⟩
  obtain ⟨a, n, c, rfl, hc1, hc2, hl, hn, hbl⟩ := queue_open hq (by omega)
  obtain ⟨ax, nx, cx, rfl, hx1, hx2, hlx⟩ := shItem_reads.1 hx
  obtain ⟨cap, l⟩ := q
  obtain ⟨m, ys⟩ := x
  have hnx : nx ≤ 1000 := by rw [shItem_bulk, bulk_ints] at hbx; rw [← hlx.1]; exact hbx
  have hk0 : ((w1.alloc (.cells #[.int .i64 cap, .slice a n c] 26 (0, 0))).alloc (.cells #[.int .i64 m, .slice ax nx cx] 29 (0, 0))).heap[w1.heap.size]? = some (.cells #[.int .i64 cap, .slice a n c] 26 (0, 0)) := by
    rw [Below.heap_alloc _ _ _ (by simp)]
    exact heap_alloc_new w1 _
  have hk1 : ((w1.alloc (.cells #[.int .i64 cap, .slice a n c] 26 (0, 0))).alloc (.cells #[.int .i64 m, .slice ax nx cx] 29 (0, 0))).heap[w1.heap.size + 1]? = some (.cells #[.int .i64 m, .slice ax nx cx] 29 (0, 0)) := by
    have := heap_alloc_new (w1.alloc (.cells #[.int .i64 cap, .slice a n c] 26 (0, 0))) (.cells #[.int .i64 m, .slice ax nx cx] 29 (0, 0))
    simpa using this
  have hs2 : ((w1.alloc (.cells #[.int .i64 cap, .slice a n c] 26 (0, 0))).alloc (.cells #[.int .i64 m, .slice ax nx cx] 29 (0, 0))).heap.size = w1.heap.size + 2 := by simp
  have ha2 : Below w1.heap.size w1 ((w1.alloc (.cells #[.int .i64 cap, .slice a n c] 26 (0, 0))).alloc (.cells #[.int .i64 m, .slice ax nx cx] 29 (0, 0))) := ((Below.refl _ _).alloc (Nat.le_refl _) _).alloc (by simp) _
  have T1 := Lib.hid hb
  have A2 := Lib.hid ha2
  have K0 := Lib.hid hk0
  have K1 := Lib.hid hk1
  have HQ := Lib.hid hq
  have HX := Lib.hid hx
  have HL := Lib.hid hl
  have HIX := Lib.hid (hlx.ints (by omega))
  have HLEN : Hid (l.length = n) := Lib.hid hl.1
  have HBQ := Lib.hid hbq
  have HBX := Lib.hid hbx
  clear hb ha2 hk0 hk1 hq hx hl hlx HC0 hbq hbx
  go_upto_region 4 with fail
  generalize ((w1.alloc (.cells #[.int .i64 cap, .slice a n c] 26 (0, 0))).alloc (.cells #[.int .i64 m, .slice ax nx cx] 29 (0, 0))) = W2 at A2 K0 K1 hs2 ⊢
  obtain ⟨q0, q1⟩ := boxq K0.out
  obtain ⟨x0, x1⟩ := boxq K1.out
  have QR := Lib.hid fun (wx : World) (hx : Below W2.heap.size W2 wx) => shQueue.le (shQueue.below HQ.out (A2.out.trans (hx.mono A2.out.size)) (Nat.le_refl _)) (Nat.le_trans A2.out.size hx.size)
  have XR := Lib.hid fun (wx : World) (hx : Below W2.heap.size W2 wx) => shItem.le (shItem.below HX.out (A2.out.trans (hx.mono A2.out.size)) (Nat.le_refl _)) (Nat.le_trans A2.out.size hx.size)
  have CELLS := Lib.hid fun (wx : World) (hx : Below W2.heap.size W2 wx) => (show (wx.cell? ⟨w1.heap.size, 0, none⟩ = some (.int .i64 cap) ∧ wx.cell? ⟨w1.heap.size, 1, none⟩ = some (.slice a n c)) ∧ (wx.cell? ⟨w1.heap.size + 1, 0, none⟩ = some (.int .i64 m) ∧ wx.cell? ⟨w1.heap.size + 1, 1, none⟩ = some (.slice ax nx cx)) from
    ⟨boxq ((hx.block _ (by omega)).trans K0.out), boxq ((hx.block _ (by omega)).trans K1.out)⟩)
  obtain ⟨B, hB⟩ : ∃ B, pushB (cap, l) (m, ys) = B := ⟨_, rfl⟩
  obtain ⟨y, hy⟩ : ∃ y, pushN (cap, l) (m, ys) = y := ⟨_, rfl⟩
  have hc := implPush_o W2 _ (cap, l) (QR.out W2 (Below.refl _ _)) (by have := HBQ.out; omega) _ (m, ys) (XR.out W2 (Below.refl _ _)) (by have := HBX.out; omega)
  rw [hB, hy] at hc
  have HC := Lib.hid hc
  have HB := Lib.hid hB
  have HY := Lib.hid hy
  clear hc hB hy
  go_wp2_with fail
  refine HC.out.mono ?_
  rintro e w3 ⟨ey, F, rfl, ho, hF, hb⟩
  have hyr := ownQueue.owns_reads (I := fun b => W2.heap.size ≤ b ∧ b < w3.heap.size) ho hF
  obtain ⟨ay, ny, cy, rfl, hy1, hy2, hly⟩ := shQueue_reads.1 hyr
  obtain ⟨ycap, yl⟩ := y
  replace hly : ListAt shItem (fun b => W2.heap.size ≤ b ∧ b < w3.heap.size) w3 ay ny yl := hly
  have hs3 := hb.size
  have ha4 := hb.alloc (Nat.le_trans (Nat.le_refl _) hs3) (.cells #[.int .i64 ycap, .slice ay ny cy] 26 (0, 0))
  have hk4 := heap_alloc_new w3 (.cells #[.int .i64 ycap, .slice ay ny cy] 26 (0, 0))
  have hs4 : (w3.alloc (.cells #[.int .i64 ycap, .slice ay ny cy] 26 (0, 0))).heap.size = w3.heap.size + 1 := by simp
  have hy4 := hly.keep (Kept.of_below ((Below.refl w3.heap.size w3).alloc (Nat.le_refl _) (.cells #[.int .i64 ycap, .slice ay ny cy] 26 (0, 0))) fun b hb => hb.2)
  have A4 := Lib.hid ha4
  have K4 := Lib.hid hk4
  have HY4 := Lib.hid hy4
  have HYL : Hid (yl.length = ny) := Lib.hid hly.1
  clear hb ha4 hk4 hy4 hly hyr ho hF HC q0 q1 x0 x1
  go_upto_region 5 with fail
  generalize w3.alloc (.cells #[.int .i64 ycap, .slice ay ny cy] 26 (0, 0)) = W4 at A4 K4 hs4 HY4 ⊢
  obtain ⟨⟨q0, q1⟩, ⟨x0, x1⟩⟩ := CELLS.out W4 A4.out
  obtain ⟨A, hA⟩ : ∃ A, queueOkB (cap, l) = A := ⟨_, rfl⟩
  have hc := specQueueOk_d W4 _ (cap, l) (QR.out W4 A4.out) (by have := HBQ.out; omega)
  rw [hA] at hc
  have HC := Lib.hid hc
  have HAQ := Lib.hid hA
  have T2 := Lib.hid (T1.out.trans (A2.out.mono T1.out.size))
  clear hc hA
  cases A
  · obtain rfl : B = false := by rw [← HB.out]; exact push_wrong HAQ.out
    go_wp2_with fail
    refine HC.out.mono ?_
    rintro e w5 ⟨rfl, hb⟩
    have B5 := Lib.hid (A4.out.trans (hb.mono A4.out.size))
    obtain ⟨⟨r0, r1⟩, -⟩ := CELLS.out w5 B5.out
    have hc := implPop_o w5 _ (cap, l) (QR.out w5 B5.out) (by have := HBQ.out; omega)
    rw [pop_wrong HAQ.out] at hc
    have HP := Lib.hid hc
    clear hb hc HC q0 q1 x0 x1
    go_wp2_with fail
    refine HP.out.mono ?_
    rintro e w6 ⟨ez, ei, F1, F2, rfl, ho1, ho2, -, -, -, hb⟩
    obtain ⟨az, nz, cz, rfl, -⟩ := ownQueue_owns.1 ho1
    obtain ⟨ai, ni, ci, rfl, -⟩ := ownItem_owns.1 ho2
    have B6 := Lib.hid (B5.out.trans (hb.mono B5.out.size))
    clear hb ho1 ho2 HP r0 r1
    go_wp2_with fail
    go_ret
    refine ⟨rfl, ?_⟩
    exact ((T2.out.trans (B6.out.mono (by have := T2.out.size; omega))).alloc (by have := T2.out.size; have := B6.out.size; omega) _).alloc (by have := T2.out.size; have := B6.out.size; simp; omega) _
  · go_wp2_with fail
    refine HC.out.mono ?_
    rintro e w5 ⟨rfl, hb⟩
    have B5 := Lib.hid (A4.out.trans (hb.mono A4.out.size))
    have KY := Lib.hid ((hb.block w3.heap.size (by omega)).trans K4.out)
    have HY5 := Lib.hid (HY4.out.keep (Kept.of_below hb fun b hb => by have := hb.2; omega))
    have hs5 := hb.size
    obtain ⟨⟨r0, r1⟩, ⟨s0, s1⟩⟩ := CELLS.out w5 B5.out
    clear hb HC q0 q1 x0 x1
    obtain ⟨P, hP⟩ : ∃ P, vecOkB ys = P := ⟨_, rfl⟩
    have hBB : B = (decide ((n : Int) < cap) && (P && inB 0 4 m)) := by
      rw [← HB.out]
      unfold pushB itemOkB
      rw [HAQ.out, Bool.true_and]
      show (decide ((l.length : Int) < cap) && (vecOkB ys && inB 0 4 m)) = _
      rw [hP, HLEN.out]
    have HV := Lib.hid (hP ▸ specVecOk_any w5 ax nx cx ys ((HIX.out.below (A2.out.trans (B5.out.mono A2.out.size)) (Nat.le_refl _)).le (by have := A2.out.size; have := B5.out.size; omega)))
    have HBB := Lib.hid hBB
    clear hP hBB
    go_upto_region 8 with fail
    go_cut [70] (fun t wx => t = .bool false ∧ wx = w5)
    case first =>
      by_cases g1 : (n : Int) < cap
      · have e1 : decide ((n : Int) < cap) = true := decide_eq_true g1
        cases P
        · obtain rfl : B = false := by rw [HBB.out, e1]; rfl
          go_wp2_with fail
          refine HV.out.mono ?_
          rintro e w' ⟨rfl, rfl⟩
          go_wp2_with fail
          go_meet
          case rel => exact ⟨rfl, rfl⟩
        · by_cases g2 : 0 ≤ m
          · have e2 : decide (m ≥ 0) = true := decide_eq_true g2
            by_cases g3 : m < 5
            · have e3 : decide (m < 5) = true := decide_eq_true g3
              obtain rfl : B = true := by rw [HBB.out, e1, inB_yes g2 (by omega)]; rfl
              go_wp2_with fail
              refine HV.out.mono ?_
              rintro e w' ⟨rfl, rfl⟩
              go_wp2_with fail
              go_meet
              case rel => exact ⟨rfl, rfl⟩
            · have e3 : decide (m < 5) = false := decide_eq_false g3
              obtain rfl : B = false := by
                rw [HBB.out, e1]
                show (true && (true && decide (0 ≤ m ∧ m ≤ 4))) = false
                rw [decide_eq_false (by omega : ¬ (0 ≤ m ∧ m ≤ 4))]
                rfl
              go_wp2_with fail
              refine HV.out.mono ?_
              rintro e w' ⟨rfl, rfl⟩
              go_wp2_with fail
              go_meet
              case rel => exact ⟨rfl, rfl⟩
          · have e2 : decide (m ≥ 0) = false := decide_eq_false g2
            obtain rfl : B = false := by
              rw [HBB.out, e1]
              show (true && (true && decide (0 ≤ m ∧ m ≤ 4))) = false
              rw [decide_eq_false (by omega : ¬ (0 ≤ m ∧ m ≤ 4))]
              rfl
            go_wp2_with fail
            refine HV.out.mono ?_
            rintro e w' ⟨rfl, rfl⟩
            go_wp2_with fail
            go_meet
            case rel => exact ⟨rfl, rfl⟩
      · have e1 : decide ((n : Int) < cap) = false := decide_eq_false g1
        obtain rfl : B = false := by rw [HBB.out, e1]; rfl
        go_wp2_with fail
        go_meet
        case rel => exact ⟨rfl, rfl⟩
    case rest =>
      obtain ⟨rfl, rfl⟩ := hcut
      cases B
      · obtain ⟨y0, y1⟩ := boxq KY.out
        obtain rfl : yl = l := by have := push_no HB.out; rw [HY.out] at this; cases this; rfl
        obtain rfl : ny = n := HYL.out.symm.trans HLEN.out
        have g1 : ((ny : Int) == ny) = true := by simp
        go_wp2_with fail
        go_ret
        exact ⟨rfl, T2.out.trans (B5.out.mono T2.out.size)⟩
      · obtain ⟨w5, rfl⟩ : ∃ x, x = wc := ⟨_, rfl⟩
        have hye : (ycap, yl) = (cap, l ++ [(m, ys)]) := by have := push_yes HB.out; rw [HY.out] at this; exact this
        obtain ⟨rfl, rfl⟩ : ycap = cap ∧ yl = l ++ [(m, ys)] := by cases hye; exact ⟨rfl, rfl⟩
        have hny : ny = n + 1 := by rw [← HYL.out, List.length_append, HLEN.out]; rfl
        have hok := queueOk_push HB.out
        have hyb : shQueue.bulk (ycap, l ++ [(m, ys)]) ≤ 1048576 := by
          have := push_bulk (ycap, l) (m, ys) (by have := HBQ.out; omega)
          rwa [push_yes HB.out] at this
        have hwp := words_push HB.out
        rw [push_yes HB.out] at hwp
        obtain ⟨M0, hM0⟩ : ∃ M, queueWordsN (ycap, l) = M := ⟨_, rfl⟩
        have hM1 : queueWordsN (ycap, l ++ [(m, ys)]) = M0 + (nx : Int) := by
          rw [← hM0, hwp]
          show _ + ((ys.length : Nat) : Int) = _
          rw [HIX.out.len]
        have hM2 : 0 ≤ M0 ∧ M0 ≤ 1048576 := by
          rw [← hM0]
          unfold queueWordsN
          split
          · have := numsTo_bulk l l.length (Nat.le_refl _)
            show 0 ≤ ((numsTo l l.length : Nat) : Int) ∧ ((numsTo l l.length : Nat) : Int) ≤ 1048576
            omega
          · omega
        have HYR := Lib.hid fun (wx : World) (hx : Below w5.heap.size w5 wx) => (shQueue_reads (I := Under wx.heap.size) (w := wx) (cs := [.int .i64 ycap, .slice ay ny cy]) (d := (ycap, l ++ [(m, ys)]))).2 ⟨_, _, _, rfl, hy1, hy2, (HY5.out.keep (Kept.of_below hx fun b hb => by have := hb.2; omega)).sub fun b hb => by have := hb.2; have := hx.size; show b < _; omega⟩
        have CY := Lib.hid fun (wx : World) (hx : Below w5.heap.size w5 wx) => hM1 ▸ implQueueWords_d wx _ (ycap, l ++ [(m, ys)]) (HYR.out wx hx) hyb
        have CQ := Lib.hid fun (wx : World) (hx : Below w5.heap.size w5 wx) => hM0 ▸ implQueueWords_d wx _ (ycap, l) (QR.out wx (B5.out.trans (hx.mono B5.out.size))) (by have := HBQ.out; omega)
        obtain ⟨m1, m2⟩ := hM2
        have KEEP := Lib.hid fun (wx : World) (hx : Below w5.heap.size w5 wx) => (show wx.cell? ⟨w3.heap.size, 0, none⟩ = some (.int .i64 ycap) ∧ wx.cell? ⟨w3.heap.size, 1, none⟩ = some (.slice ay ny cy) ∧ wx.cell? ⟨w1.heap.size, 0, none⟩ = some (.int .i64 ycap) ∧ wx.cell? ⟨w1.heap.size, 1, none⟩ = some (.slice a n c) ∧ wx.cell? ⟨w1.heap.size + 1, 1, none⟩ = some (.slice ax nx cx) from
          ⟨(boxq ((hx.block _ (by omega)).trans KY.out)).1, (boxq ((hx.block _ (by omega)).trans KY.out)).2, (CELLS.out wx (B5.out.trans (hx.mono B5.out.size))).1.1, (CELLS.out wx (B5.out.trans (hx.mono B5.out.size))).1.2, (CELLS.out wx (B5.out.trans (hx.mono B5.out.size))).2.2⟩)
        have HOK := Lib.hid hok
        have HNY := Lib.hid hny
        have g1 : ((M0 + (nx : Int)) != (M0 + (nx : Int))) = false := by simp
        clear hye hwp hM0 hM1 hok hyb r0 r1 s0 s1 hny
        go_upto_region 12 with fail
        go_cut [88] (fun t wx => t = .bool false ∧ Below w5.heap.size w5 wx)
        case first =>
          have DR : Hid (Below w5.heap.size w5 w5.drew) := Lib.hid (Below.refl _ _).drew
          obtain ⟨y1, y2, y3, y4, y5⟩ := KEEP.out _ DR.out
          go_region_held3 (fun wx => wx.cell? ⟨w3.heap.size, 0, none⟩ = some (.int .i64 ycap) ∧ wx.cell? ⟨w3.heap.size, 1, none⟩ = some (.slice ay ny cy) ∧ wx.cell? ⟨w1.heap.size, 0, none⟩ = some (.int .i64 ycap) ∧ wx.cell? ⟨w1.heap.size, 1, none⟩ = some (.slice a n c) ∧ wx.cell? ⟨w1.heap.size + 1, 1, none⟩ = some (.slice ax nx cx))
            (first | go_keep | (go_split_ands; refine ⟨?_, ?_, ?_, ?_, ?_⟩ <;> with_reducible assumption))
            (first
              | (go_at_call 14; (with_reducible refine (CY.out _ DR.out).mono ?_); rintro e wt ⟨rfl, hb⟩; have BT := Lib.hid (DR.out.trans (hb.mono DR.out.size)); obtain ⟨t1, t2, t3, t4, t5⟩ := KEEP.out _ BT.out; clear hb)
              | (go_at_call 14; (with_reducible refine (CQ.out _ BT.out).mono ?_); rintro e wu ⟨rfl, hb⟩; have BU := Lib.hid (BT.out.trans (hb.mono BT.out.size)); obtain ⟨u1, u2, u3, u4, u5⟩ := KEEP.out _ BU.out; clear hb))
          go_wp2_with fail
          go_meet
          case rel => exact ⟨by rw [show IntKind.i64.wrap (M0 + (nx : Int)) = M0 + (nx : Int) by rw [IntKind.wrap_i64]; omega, g1], BU.out⟩
        case rest =>
          obtain ⟨rfl, hb⟩ := hcut
          obtain ⟨w6, rfl⟩ : ∃ x, x = wc := ⟨_, rfl⟩
          have KY6 := Lib.hid ((hb.block w3.heap.size (by omega)).trans KY.out)
          have HY6 := Lib.hid ((HY5.out.keep (Kept.of_below hb fun b hb => by have := hb.2; omega)).sub (J := fun b => b ≠ w3.heap.size ∧ b < w6.heap.size) fun k hk => ⟨by have := hk.2; omega, by have := hk.2; have := hb.size; omega⟩)
          have hs6 := hb.size
          have B6 := Lib.hid (B5.out.trans (hb.mono B5.out.size))
          have HYB : Hid (shQueue.bulk (ycap, l ++ [(m, ys)]) ≤ 1048576) := Lib.hid (by
            have := push_bulk (ycap, l) (m, ys) (by have := HBQ.out; omega)
            rwa [push_yes HB.out] at this)
          clear hb
          go_upto_region 14 with fail
          go_wp2_with fail
          go_loopw [10, 11, 12, 13] (fun i _ _ _ wr => ∃ k : Nat, k ≤ n ∧ i = .int .i64 k ∧ ∃ a' n' c', wr.heap[w3.heap.size]? = some (.cells #[.int .i64 ycap, .slice a' n' c'] 26 (0, 0)) ∧ n' ≤ c' ∧ c' ≤ 9223372036854775807 ∧ ListAt shItem (fun b => b ≠ w3.heap.size ∧ b < wr.heap.size) wr a' n' ((l ++ [(m, ys)]).drop k) ∧ Below w3.heap.size w6 wr) (fun i _ _ _ _ => n - (intOf i).toNat)
          case atStart => exact ⟨0, Nat.zero_le _, rfl, ay, ny, cy, KY6.out, hy1, hy2, HY6.out, Below.refl _ _⟩
          case round =>
            obtain ⟨k, hk, rfl, a', n', c', hky, hn1, hn2, hly, hb⟩ := hrel
            have BW := Lib.hid hb
            have HKY := Lib.hid hky
            have HLY := Lib.hid hly
            have hsr := hb.size
            have B7 := Lib.hid ((B6.out.mono (by omega : W2.heap.size ≤ W2.heap.size)).trans (hb.mono (by omega)))
            have CW := Lib.hid (CELLS.out wr B7.out)
            obtain ⟨⟨q0, q1⟩, ⟨x0, x1⟩⟩ := CW.out
            obtain ⟨y0, y1⟩ := boxq hky
            have hrd : shQueue.reads (Under wr.heap.size) wr [.int .i64 ycap, .slice a' n' c'] (ycap, (l ++ [(m, ys)]).drop k) := shQueue_reads.2 ⟨a', n', c', rfl, hn1, hn2, hly.sub fun b hb => hb.2⟩
            have hc := implPop_o wr _ (ycap, (l ++ [(m, ys)]).drop k) hrd (Nat.le_trans (drop_bulk _ _ _) HYB.out)
            obtain ⟨p1, p2, p3⟩ := pop_at HOK.out (k := k) (by rw [List.length_append, HLEN.out]; show k < n + 1; omega)
            rw [p1, p2, p3] at hc
            have HC := Lib.hid hc
            clear hc hrd hky hly hb p1 p2 p3
            by_cases hlt : k < n
            · have g2 : decide ((k : Int) < n) = true := decide_eq_true (by omega)
              obtain ⟨bb, oo, xi, ai, ni, ci, hxi, ea, hbB, k0, k1, -, -, hli⟩ := item_at HL.out k hlt
              subst ea
              have hgd : (l ++ [(m, ys)]).getD k (0, []) = xi := by
                rw [List.getD_eq_getElem?_getD, List.getElem?_append_left (by rw [HLEN.out]; omega), hxi]
                rfl
              rw [hgd] at HC
              go_wp2_with fail
              refine HC.out.mono ?_
              rintro e w7 ⟨ez, ei, F1, F2, rfl, ho1, ho2, hF1, hF2, -, hb⟩
              obtain ⟨az, nz, cz, ee, z1, z2, hlz⟩ := shQueue_reads.1 (ownQueue.owns_reads (I := fun b => wr.heap.size ≤ b ∧ b < w7.heap.size) ho1 hF1)
              replace ee : ez = [.int .i64 ycap, .slice az nz cz] := ee
              subst ee
              obtain ⟨aj, nj, cj, ee, z3, z4, hlj⟩ := shItem_reads.1 (ownItem.owns_reads (I := fun b => wr.heap.size ≤ b ∧ b < w7.heap.size) ho2 hF2)
              obtain ⟨mi, hmi⟩ : ∃ mi, xi.1 = mi := ⟨_, rfl⟩
              rw [hmi] at ee k0
              subst ee
              have hbi := bulk_mem shItem.bulk l k xi hxi
              rw [shItem_bulk, bulk_ints] at hbi
              replace hlz : ListAt shItem (fun b => wr.heap.size ≤ b ∧ b < w7.heap.size) w7 az nz ((l ++ [(m, ys)]).drop (k + 1)) := hlz
              have hs7 := hb.size
              have hj0 : ((w7.alloc (.cells #[.int .i64 ycap, .slice az nz cz] 26 (0, 0))).alloc (.cells #[.int .i64 mi, .slice aj nj cj] 29 (0, 0))).heap[w7.heap.size]? = some (.cells #[.int .i64 ycap, .slice az nz cz] 26 (0, 0)) := by
                rw [Below.heap_alloc _ _ _ (by simp)]
                exact heap_alloc_new w7 _
              have hj1 : ((w7.alloc (.cells #[.int .i64 ycap, .slice az nz cz] 26 (0, 0))).alloc (.cells #[.int .i64 mi, .slice aj nj cj] 29 (0, 0))).heap[w7.heap.size + 1]? = some (.cells #[.int .i64 mi, .slice aj nj cj] 29 (0, 0)) := by
                have := heap_alloc_new (w7.alloc (.cells #[.int .i64 ycap, .slice az nz cz] 26 (0, 0))) (.cells #[.int .i64 mi, .slice aj nj cj] 29 (0, 0))
                simpa using this
              have hs8 : ((w7.alloc (.cells #[.int .i64 ycap, .slice az nz cz] 26 (0, 0))).alloc (.cells #[.int .i64 mi, .slice aj nj cj] 29 (0, 0))).heap.size = w7.heap.size + 2 := by simp
              have ha8 : Below w7.heap.size w7 ((w7.alloc (.cells #[.int .i64 ycap, .slice az nz cz] 26 (0, 0))).alloc (.cells #[.int .i64 mi, .slice aj nj cj] 29 (0, 0))) := ((Below.refl _ _).alloc (Nat.le_refl _) _).alloc (by simp) _
              have hb8 := hb.trans (ha8.mono hs7)
              have HB7 := Lib.hid hb
              have HLZ := Lib.hid (hlz.keep (Kept.of_below ha8 fun b hb => hb.2))
              have HLJ := Lib.hid ((hlj.sub (J := Under w7.heap.size) fun b hb => hb.2).below ha8 (Nat.le_refl _))
              have HLI := Lib.hid hli
              have HJ0 := Lib.hid hj0
              have HJ1 := Lib.hid hj1
              have HB8 := Lib.hid hb8
              have HK0 := Lib.hid k0
              have HK1 := Lib.hid k1
              clear hb ho1 ho2 hF1 hF2 hlz hlj hli hj0 hj1 ha8 hb8 k0 k1 hmi HC q0 q1 x0 x1 y0 y1
              go_upto_region 18 with fail
              generalize ((w7.alloc (.cells #[.int .i64 ycap, .slice az nz cz] 26 (0, 0))).alloc (.cells #[.int .i64 mi, .slice aj nj cj] 29 (0, 0))) = w8 at HLZ HLJ HJ0 HJ1 HB8 hs8 ⊢
              have B8 := Lib.hid (B7.out.trans (HB8.out.mono (by have := B7.out.size; omega)))
              have A8 := Lib.hid (A2.out.trans (B8.out.mono A2.out.size))
              have KEEP8 := Lib.hid fun (wx : World) (hx : Below w8.heap.size w8 wx) => (show wx.cell? ⟨w7.heap.size + 1, 0, none⟩ = some (.int .i64 mi) ∧ wx.cell? ⟨w7.heap.size + 1, 1, none⟩ = some (.slice aj nj cj) ∧ wx.cell? ⟨w1.heap.size, 1, none⟩ = some (.slice (some ⟨bb, oo, none⟩) n c) ∧ wx.cell? ⟨bb, oo + k * 2, none⟩ = some (.int .i64 mi) ∧ wx.cell? ⟨bb, oo + k * 2 + 1, none⟩ = some (.slice ai ni ci) from
                ⟨(boxq ((hx.block _ (by omega)).trans HJ1.out)).1, (boxq ((hx.block _ (by omega)).trans HJ1.out)).2, (CELLS.out wx (B8.out.trans (hx.mono B8.out.size))).1.2,
                 ((A8.out.trans (hx.mono A8.out.size)).cell (p := ⟨bb, oo + k * 2, none⟩) hbB).trans HK0.out, ((A8.out.trans (hx.mono A8.out.size)).cell (p := ⟨bb, oo + k * 2 + 1, none⟩) hbB).trans HK1.out⟩)
              have HSI := Lib.hid fun (wx : World) (hx : Below w8.heap.size w8 wx) => sameInts_any wx aj nj cj xi.2 ai ni ci xi.2 (((HLJ.out.below hx (by omega)).le (by have := hx.size; omega)).ints (by rw [← HLJ.out.1]; omega)) (((HLI.out.below (A8.out.trans (hx.mono A8.out.size)) (Nat.le_refl _)).le (by have := A8.out.size; have := hx.size; omega)).ints (by rw [← HLI.out.1]; omega))
              have g3 : (mi != mi) = false := by simp
              have g4 : decide (xi.2 = xi.2) = true := decide_eq_true rfl
              have hlt2 : (k : Int) < n := by omega
              go_cut [126] (fun t wx => t = .bool false ∧ Below w8.heap.size w8 wx)
              case first =>
                have DR : Hid (Below w8.heap.size w8 w8.drew) := Lib.hid (Below.refl _ _).drew
                obtain ⟨y1, y2, y3, y4, y5⟩ := KEEP8.out _ DR.out
                go_region_held3 (fun wx => wx.cell? ⟨w7.heap.size + 1, 0, none⟩ = some (.int .i64 mi) ∧ wx.cell? ⟨w7.heap.size + 1, 1, none⟩ = some (.slice aj nj cj) ∧ wx.cell? ⟨w1.heap.size, 1, none⟩ = some (.slice (some ⟨bb, oo, none⟩) n c) ∧ wx.cell? ⟨bb, oo + k * 2, none⟩ = some (.int .i64 mi) ∧ wx.cell? ⟨bb, oo + k * 2 + 1, none⟩ = some (.slice ai ni ci))
                  (first | go_keep | (go_split_ands; refine ⟨?_, ?_, ?_, ?_, ?_⟩ <;> with_reducible assumption))
                  (first
                    | (go_at_call 15; (with_reducible refine (HSI.out _ DR.out).mono ?_); rintro e wt ⟨rfl, hb⟩; rw [g4]; have BT := Lib.hid (DR.out.trans (hb.mono DR.out.size)); obtain ⟨t1, t2, t3, t4, t5⟩ := KEEP8.out _ BT.out; clear hb))
                go_wp2_with fail
                go_meet
                case rel => exact ⟨rfl, BT.out⟩
              case rest =>
                obtain ⟨rfl, hb⟩ := hcut
                obtain ⟨w9, rfl⟩ : ∃ x, x = wc := ⟨_, rfl⟩
                have hs9 := hb.size
                have hky9 := (hb.block w3.heap.size (by omega)).trans ((HB8.out.block w3.heap.size (by omega)).trans HKY.out)
                obtain ⟨j0, j1⟩ := boxq ((hb.block w7.heap.size (by omega)).trans HJ0.out)
                obtain ⟨v0, v1⟩ := boxq hky9
                have v2 : w9.frozen? ⟨w3.heap.size, 0, none⟩ = false := frozen_of_row _ _ _ _ _ hky9
                have v3 : w9.frozen? ⟨w3.heap.size, 1, none⟩ = false := frozen_of_row _ _ _ _ _ hky9
                have HKF : Hid (((w9.setCell ⟨w3.heap.size, 0, none⟩ (.int .i64 ycap)).setCell ⟨w3.heap.size, 1, none⟩ (.slice az nz cz)).heap[w3.heap.size]? = some (.cells #[.int .i64 ycap, .slice az nz cz] 26 (0, 0))) := Lib.hid (heap_setCell_same _ _ 1 _ _ _ (heap_setCell_same _ _ 0 _ _ _ hky9))
                have HLF : Hid (ListAt shItem (fun b => b ≠ w3.heap.size ∧ b < ((w9.setCell ⟨w3.heap.size, 0, none⟩ (.int .i64 ycap)).setCell ⟨w3.heap.size, 1, none⟩ (.slice az nz cz)).heap.size) ((w9.setCell ⟨w3.heap.size, 0, none⟩ (.int .i64 ycap)).setCell ⟨w3.heap.size, 1, none⟩ (.slice az nz cz)) az nz ((l ++ [(m, ys)]).drop (k + 1))) := Lib.hid ((HLZ.out.keep fun q hq => by
                    rw [heap_setCell_other _ _ _ _ (by show q ≠ w3.heap.size; have := hq.1; omega), heap_setCell_other _ _ _ _ (by show q ≠ w3.heap.size; have := hq.1; omega)]
                    exact hb.block q (by have := hq.2; omega)).sub fun q hq => ⟨by have := hq.1; omega, by have := hq.2; simp; omega⟩)
                have HBF : Hid (Below w3.heap.size w6 ((w9.setCell ⟨w3.heap.size, 0, none⟩ (.int .i64 ycap)).setCell ⟨w3.heap.size, 1, none⟩ (.slice az nz cz))) := Lib.hid (((BW.out.trans ((HB8.out.mono (by omega)).trans (hb.mono (by omega)))).setCell (p := ⟨w3.heap.size, 0, none⟩) (Nat.le_refl _) _).setCell (p := ⟨w3.heap.size, 1, none⟩) (Nat.le_refl _) _)
                clear hky9 hb
                go_wp2_with fail
                go_roundw
                case rel => exact ⟨k + 1, by omega, by go_num, az, nz, cz, HKF.out, z1, z2, HLF.out, HBF.out⟩
                case measure => simp [intOf]; omega
            · obtain rfl : k = n := by omega
              have g2 : decide ((k : Int) < k) = false := decide_eq_false (by omega)
              have hgd : (l ++ [(m, ys)]).getD k (0, []) = (m, ys) := by
                rw [List.getD_eq_getElem?_getD, List.getElem?_append_right (by rw [HLEN.out]; exact Nat.le_refl _), HLEN.out, Nat.sub_self]
                rfl
              have hdr : (l ++ [(m, ys)]).drop (k + 1) = [] := List.drop_of_length_le (by rw [List.length_append, HLEN.out]; exact Nat.le_refl _)
              rw [hgd, hdr] at HC
              clear hgd hdr
              go_wp2_with fail
              refine HC.out.mono ?_
              rintro e w7 ⟨ez, ei, F1, F2, rfl, ho1, ho2, hF1, hF2, -, hb⟩
              obtain ⟨az, nz, cz, ee, z1, z2, hlz⟩ := shQueue_reads.1 (ownQueue.owns_reads (I := fun b => wr.heap.size ≤ b ∧ b < w7.heap.size) ho1 hF1)
              replace ee : ez = [.int .i64 ycap, .slice az nz cz] := ee
              subst ee
              obtain rfl : nz = 0 := hlz.1.symm
              obtain ⟨aj, nj, cj, ee, z3, z4, hlj⟩ := shItem_reads.1 (ownItem.owns_reads (I := fun b => wr.heap.size ≤ b ∧ b < w7.heap.size) ho2 hF2)
              replace ee : ei = [.int .i64 m, .slice aj nj cj] := ee
              subst ee
              have hs7 := hb.size
              have hj0 : ((w7.alloc (.cells #[.int .i64 ycap, .slice az 0 cz] 26 (0, 0))).alloc (.cells #[.int .i64 m, .slice aj nj cj] 29 (0, 0))).heap[w7.heap.size]? = some (.cells #[.int .i64 ycap, .slice az 0 cz] 26 (0, 0)) := by
                rw [Below.heap_alloc _ _ _ (by simp)]
                exact heap_alloc_new w7 _
              have hj1 : ((w7.alloc (.cells #[.int .i64 ycap, .slice az 0 cz] 26 (0, 0))).alloc (.cells #[.int .i64 m, .slice aj nj cj] 29 (0, 0))).heap[w7.heap.size + 1]? = some (.cells #[.int .i64 m, .slice aj nj cj] 29 (0, 0)) := by
                have := heap_alloc_new (w7.alloc (.cells #[.int .i64 ycap, .slice az 0 cz] 26 (0, 0))) (.cells #[.int .i64 m, .slice aj nj cj] 29 (0, 0))
                simpa using this
              have hs8 : ((w7.alloc (.cells #[.int .i64 ycap, .slice az 0 cz] 26 (0, 0))).alloc (.cells #[.int .i64 m, .slice aj nj cj] 29 (0, 0))).heap.size = w7.heap.size + 2 := by simp
              have ha8 : Below w7.heap.size w7 ((w7.alloc (.cells #[.int .i64 ycap, .slice az 0 cz] 26 (0, 0))).alloc (.cells #[.int .i64 m, .slice aj nj cj] 29 (0, 0))) := ((Below.refl _ _).alloc (Nat.le_refl _) _).alloc (by simp) _
              have hb8 := hb.trans (ha8.mono hs7)
              have HLJ := Lib.hid ((hlj.sub (J := Under w7.heap.size) fun b hb => hb.2).below ha8 (Nat.le_refl _))
              have HJ0 := Lib.hid hj0
              have HJ1 := Lib.hid hj1
              have HB8 := Lib.hid hb8
              clear hb ho1 ho2 hF1 hF2 hlz hlj hj0 hj1 ha8 hb8 HC q0 q1 x0 x1 y0 y1
              go_upto_region 22 with fail
              generalize ((w7.alloc (.cells #[.int .i64 ycap, .slice az 0 cz] 26 (0, 0))).alloc (.cells #[.int .i64 m, .slice aj nj cj] 29 (0, 0))) = w8 at HLJ HJ0 HJ1 HB8 hs8 ⊢
              have B8 := Lib.hid (B7.out.trans (HB8.out.mono (by have := B7.out.size; omega)))
              have hc := implPop_o w8 [.int .i64 ycap, .slice az 0 cz] (ycap, []) (shQueue_reads.2 ⟨az, 0, cz, rfl, z1, z2, rfl, fun j y hj => by simp at hj⟩) (by rw [queue_bulk]; exact Nat.zero_le _)
              rw [pop_none] at hc
              have HP := Lib.hid hc
              obtain ⟨j0, j1⟩ := boxq HJ0.out
              clear hc
              go_wp2_with fail
              refine HP.out.mono ?_
              rintro e w9 ⟨ez, ei, F1, F2, rfl, ho1, ho2, -, -, -, hb⟩
              obtain ⟨ap, np, cp', rfl, -⟩ := ownQueue_owns.1 ho1
              obtain ⟨ar, nr, cr, rfl, -⟩ := ownItem_owns.1 ho2
              have hs9 := hb.size
              have HB9 := Lib.hid hb
              clear hb ho1 ho2 HP j0 j1
              go_upto_region 23 with fail
              have ha10 : Below w8.heap.size w8 ((w9.alloc (.cells #[.int .i64 (popN (ycap, [])).1, .slice ap np cp'] 26 (0, 0))).alloc (.cells #[.int .i64 (popX (ycap, [])).1, .slice ar nr cr] 29 (0, 0))) := (HB9.out.alloc hs9 _).alloc (by simp; omega) _
              generalize ((w9.alloc (.cells #[.int .i64 (popN (ycap, [])).1, .slice ap np cp'] 26 (0, 0))).alloc (.cells #[.int .i64 (popX (ycap, [])).1, .slice ar nr cr] 29 (0, 0))) = w10 at ha10 ⊢
              have hs10 := ha10.size
              obtain ⟨j0, j1⟩ := boxq ((ha10.block _ (by omega)).trans HJ0.out)
              obtain ⟨i0, i1⟩ := boxq ((ha10.block _ (by omega)).trans HJ1.out)
              have B10 := Lib.hid (B8.out.trans (ha10.mono B8.out.size))
              have A10 := Lib.hid (A2.out.trans (B10.out.mono A2.out.size))
              obtain ⟨-, ⟨x0, x1⟩⟩ := CELLS.out w10 B10.out
              have HSI := Lib.hid (sameInts_any w10 aj nj cj ys ax nx cx ys (((HLJ.out.below ha10 (by omega)).le (by omega)).ints (by rw [← HLJ.out.1, HIX.out.len]; omega)) ((HIX.out.below A10.out (Nat.le_refl _)).le A10.out.size))
              have g3 : (m == m) = true := by simp
              have g4 : decide (ys = ys) = true := decide_eq_true rfl
              clear ha10
              go_wp2_with fail
              refine HSI.out.mono ?_
              rintro e w11 ⟨rfl, hb⟩
              rw [g4]
              obtain ⟨j2, j3⟩ : w11.cell? ⟨w7.heap.size, 0, none⟩ = some (.int .i64 ycap) ∧ w11.cell? ⟨w7.heap.size, 1, none⟩ = some (.slice az 0 cz) :=
                ⟨(hb.cell (p := ⟨w7.heap.size, 0, none⟩) (by show w7.heap.size < _; omega)).trans j0, (hb.cell (p := ⟨w7.heap.size, 1, none⟩) (by show w7.heap.size < _; omega)).trans j1⟩
              have TE := Lib.hid (T2.out.trans ((B10.out.trans (hb.mono B10.out.size)).mono T2.out.size))
              clear hb
              go_wp2_with fail
              go_ret
              exact ⟨rfl, TE.out⟩

set_option maxRecDepth 100000 in
theorem lawQueues_big (w : World) (a : Option Addr) (len cap : Nat) (hm : len ≤ 9223372036854775807) (hbig : 1048576 < len) :
    Calls Try.prog 3 #[.slice a len cap] w fun e w' => e = .returned (.bool true) ∧ Below w.heap.size w w' := by
  go_enter Try.func3, Try.ntmps3
  go_wp2_with fail
  refine (big_yes a len cap hbig hm _).mono ?_
  rintro e w' ⟨rfl, rfl⟩
  go_wp2_with fail
  go_ret
  exact ⟨rfl, Below.refl _ _⟩
theorem lawQueues (w : World) (a : Option Addr) (len cap : Nat) (hm : len ≤ 9223372036854775807)
    (hb : ∃ bs : List UInt8, bs.length = len ∧ ∀ j (hj : j < bs.length), ∃ b o, a = some ⟨b, o, none⟩ ∧ b < w.heap.size ∧ w.cell? ⟨b, o + j, none⟩ = some (.int .u8 (bs[j].toNat : Int))) :
    Calls Try.prog 3 #[.slice a len cap] w fun e w' => e = .returned (.bool true) ∧ Below w.heap.size w w' :=
  law_of _ w a len cap hm hb (lawQueues_big w a len cap hm) (fun bs hc => lawQueues_small w a cap bs hc)
end Go.Proofs.Ytdoofapjhgahgaa

end
