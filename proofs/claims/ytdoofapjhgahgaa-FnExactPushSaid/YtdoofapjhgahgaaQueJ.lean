/-
  Queues: the program's QueueWords, and a copy of an item.
-/
import Derived.Test.YtdoofapjhgahgaaQueI
import Derived.Test.YtdoofapjhgahgaaQueC
namespace Go.Proofs.Ytdoofapjhgahgaa
open Go.RowKit Go.Sort
set_option linter.unusedVariables false
set_option linter.unusedSimpArgs false

theorem clone_some (ad : Addr) (n c : Nat) (w : World) : (binOp .eql 27 (.slice (some ad) n c) (.slice none 0 0)).run Try.prog w = .ok (.bool false) w := by kernel_rfl
theorem clone_none (n c : Nat) (w : World) : (binOp .eql 27 (.slice none n c) (.slice none 0 0)).run Try.prog w = .ok (.bool true) w := by kernel_rfl
theorem owns_emptyQ (w : World) : (w.alloc (.cells #[] 3 (0, 0))).ownsRow w.heap.size 3 1 (.slice (some ⟨w.heap.size, 0, none⟩) 0 0) 0 [] :=
  ⟨by simp, .inr ⟨w.heap.size, 0, #[], rfl, Nat.le_refl _, heap_alloc_new w _, Nat.le_refl _, Nat.zero_le _, by simp, by simp⟩⟩
theorem row_firstQ {base : Nat} {w : World} {v : Value} {n : Nat} {ds : List Int} (h : w.ownsRow base 3 1 v (0 + n) ([] ++ icells ds)) : Row base w v ds := by
  rw [List.nil_append, Nat.zero_add] at h
  have hn : n = ds.length := by have := h.1; rw [icells_length] at this; omega
  subst hn
  exact h
set_option maxRecDepth 100000 in
/-- A copy of numbers, of a nil row too. -/
theorem implCloneAll_o (w : World) (a : Option Addr) (n c : Nat) (ds : List Int) (h : IntsIn w.heap.size w a n ds) :
    Calls Try.prog 55 #[.slice a n c] w fun e w' => ∃ ar cr, e = .returned (.slice ar n cr) ∧ Row w.heap.size w' (.slice ar n cr) ds ∧ Below w.heap.size w w' := by
  obtain ⟨i0, hi0, hz0, hz1, hz2⟩ := info_parts Try.infoI64
  have hl := h.len
  have hroom := h.room
  cases a with
  | none =>
    obtain rfl : n = 0 := by
      rcases Nat.eq_zero_or_pos n with e | e
      · exact e
      · obtain ⟨b, o', e', -⟩ := h.cells 0 e
        cases e'
    obtain rfl : ds = [] := List.eq_nil_of_length_eq_zero hl
    have hnn := clone_none 0 c
    clear h hl
    go_enter Try.func55, Try.ntmps55
    go_wp2_with fail
    go_ret
    exact ⟨none, 0, rfl, Row.nil _ _, Below.refl _ _⟩
  | some ad =>
    have hnn := clone_some ad n c
    have HY := Lib.hid h
    have HL := Lib.hid hl
    clear h hl
    go_enter Try.func55, Try.ntmps55
    go_wp2_with (at_builtin; refine wpList_append_own _ rfl _ _ 27 rfl w.heap.size 3 i0 (.int .i64 0) 1 8 Try.underlying27 hi0 hz0 hz1 hz2 rfl (by decide) _ _ _ rfl (owns_emptyQ w) ad n c (icells ds) rfl (by rw [icells_length, HL.out, Nat.mul_one]) (ints_cellsAt (HY.out.below ((Below.refl w.heap.size w).alloc (Nat.le_refl _) _) (by omega))) ints_oneCell (by unfold maxLen; omega) (by omega) (by simp) ?_; intro v2 w2 hown hgrow _; have hr := row_firstQ hown; have hb := ((Below.refl w.heap.size w).alloc (Nat.le_refl _) (.cells #[] 3 (0, 0))).grown hgrow (by simp) (fun k e => by cases e; exact Nat.le_refl _); have HR := Lib.hid hr; have HB := Lib.hid hb; clear hown hgrow hr hb)
    go_ret
    obtain ⟨ar, cr, rfl, -⟩ := HR.out.form
    have hr := HR.out
    rw [HL.out] at hr
    exact ⟨ar, cr, by rw [HL.out]; rfl, hr, HB.out⟩
set_option maxRecDepth 100000 in
set_option maxHeartbeats 3200000 in
theorem implCopyItem_o (w : World) (m : Int) (ax : Option Addr) (nx cx : Nat) (ys : List Int) (h : IntsIn w.heap.size w ax nx ys) :
    Calls Try.prog 37 #[.agg #[.int .i64 m, .slice ax nx cx]] w fun e w' => ∃ ar cr, e = .returned (.agg #[.int .i64 m, .slice ar nx cr]) ∧ Row w.heap.size w' (.slice ar nx cr) ys ∧ Below w.heap.size w w' := by
  have h2 : ((w.alloc (.cells #[.int .i64 m, .slice ax nx cx] 29 (0, 0))).alloc (.cells #[.int .i64 0, .slice none 0 0] 29 (0, 0))).heap.size = w.heap.size + 2 := by simp
  have hb0 : ((w.alloc (.cells #[.int .i64 m, .slice ax nx cx] 29 (0, 0))).alloc (.cells #[.int .i64 0, .slice none 0 0] 29 (0, 0))).heap[w.heap.size]? = some (.cells #[.int .i64 m, .slice ax nx cx] 29 (0, 0)) := by
    rw [Below.heap_alloc _ _ _ (by simp)]
    exact heap_alloc_new w _
  have hb1 : ((w.alloc (.cells #[.int .i64 m, .slice ax nx cx] 29 (0, 0))).alloc (.cells #[.int .i64 0, .slice none 0 0] 29 (0, 0))).heap[w.heap.size + 1]? = some (.cells #[.int .i64 0, .slice none 0 0] 29 (0, 0)) := by
    have := heap_alloc_new (w.alloc (.cells #[.int .i64 m, .slice ax nx cx] 29 (0, 0))) (.cells #[.int .i64 0, .slice none 0 0] 29 (0, 0))
    simpa using this
  have hal : Below w.heap.size w ((w.alloc (.cells #[.int .i64 m, .slice ax nx cx] 29 (0, 0))).alloc (.cells #[.int .i64 0, .slice none 0 0] 29 (0, 0))) := ((Below.refl _ _).alloc (Nat.le_refl _) _).alloc (by simp) _
  have HX := Lib.hid h
  have HB0 := Lib.hid hb0
  have HB1 := Lib.hid hb1
  have HA := Lib.hid hal
  have HS := Lib.hid h2
  clear h hb0 hb1 hal h2
  go_enter Try.func37, Try.ntmps37
  go_upto_region 1 with fail
  generalize (w.alloc (.cells #[.int .i64 m, .slice ax nx cx] 29 (0, 0))).alloc (.cells #[.int .i64 0, .slice none 0 0] 29 (0, 0)) = W0 at HB0 HB1 HA HS ⊢
  have hs := HS.out
  obtain ⟨z0, z1⟩ := boxq HB0.out
  have HC := Lib.hid fun (wx : World) (hx : Below W0.heap.size W0 wx) => implCloneAll_o wx ax nx cx ys (((HX.out.below HA.out (Nat.le_refl _)).le (by omega)).below hx (Nat.le_refl _) |>.le hx.size)
  have hd : Below W0.heap.size W0 W0.drew := (Below.refl _ _).drew
  have HD := Lib.hid hd
  clear hd
  go_region_held3 (fun w' => w'.cell? ⟨w.heap.size, 0, none⟩ = some (.int .i64 m) ∧ w'.cell? ⟨w.heap.size, 1, none⟩ = some (.slice ax nx cx))
    (first | go_keep | (go_split_ands; refine ⟨?_, ?_⟩ <;> with_reducible assumption))
    (first
      | (go_simp
         go_at_call 55
         refine (HC.out _ HD.out).mono ?_
         rintro e w2 ⟨ar, cr, rfl, hr, hb⟩
         have hb2 : Below W0.heap.size W0 w2 := HD.out.trans hb
         obtain ⟨s0, s1⟩ : w2.cell? ⟨w.heap.size, 0, none⟩ = some (.int .i64 m) ∧ w2.cell? ⟨w.heap.size, 1, none⟩ = some (.slice ax nx cx) := boxq ((hb2.block _ (by omega)).trans HB0.out)
         obtain ⟨r0, r1⟩ := boxq ((hb2.block _ (by omega)).trans HB1.out)
         have f0 : w2.frozen? ⟨w.heap.size + 1, 0, none⟩ = false := frozen_of_row _ _ _ _ _ ((hb2.block _ (by omega)).trans HB1.out)
         have f1 : w2.frozen? ⟨w.heap.size + 1, 1, none⟩ = false := frozen_of_row _ _ _ _ _ ((hb2.block _ (by omega)).trans HB1.out)
         have HR2 := Lib.hid hr
         have HB2 := Lib.hid hb2
         clear hr hb hb2))
  all_goals
    have hk := (HB2.out.block _ (by omega)).trans HB1.out
    have e1 := heap_setCell_same _ _ 1 _ _ (.slice ar nx cr) (heap_setCell_same _ _ 0 _ _ (.int .i64 m) hk)
    have hne : ∀ k, (Value.slice ar nx cr).ownBlock = some k → k ≠ w.heap.size + 1 := fun k hk => by have := (Row.lt HR2.out k hk).1; have e : W0.drew.heap.size = W0.heap.size := rfl; omega
    have hrr : Row w.heap.size ((w2.setCell ⟨w.heap.size + 1, 0, none⟩ (.int .i64 m)).setCell ⟨w.heap.size + 1, 1, none⟩ (.slice ar nx cr)) (.slice ar nx cr) ys := Row.le (ownsRow_set (ownsRow_set HR2.out 0 (.int .i64 m) hne) 1 (.slice ar nx cr) hne) HA.out.size
    have hbb : Below w.heap.size w ((w2.setCell ⟨w.heap.size + 1, 0, none⟩ (.int .i64 m)).setCell ⟨w.heap.size + 1, 1, none⟩ (.slice ar nx cr)) := ((HA.out.trans (HB2.out.mono HA.out.size)).setCell (p := ⟨w.heap.size + 1, 0, none⟩) (Nat.le_add_right _ _) _).setCell (p := ⟨w.heap.size + 1, 1, none⟩) (Nat.le_add_right _ _) _
    have HRR := Lib.hid hrr
    have HBB := Lib.hid hbb
    clear hrr hbb hne hk
    go_wp2_with fail
    refine bodyPost_ret (results_cell_row rfl _ _ (w.heap.size + 1) 29 #[.int .i64 m, .slice ar nx cr] (0, 0) _ rfl e1 Try.underlying29 rfl (by kernel_rfl)) rfl ?_
    exact ⟨ar, cr, rfl, HRR.out, HBB.out⟩
set_option maxRecDepth 100000 in
set_option maxHeartbeats 3200000 in
theorem implQueueWords_c (w : World) (cap : Int) (a : Option Addr) (n c : Nat) (l : List dItem) (h : ListAt shItem (Under w.heap.size) w a n l) (hn : n ≤ 1048576) (hb : Shape.sum shItem.bulk l ≤ 1048576) :
    Calls Try.prog 14 #[.agg #[.int .i64 cap, .slice a n c]] w fun e w' => e = .returned (.int .i64 (queueWordsN (cap, l))) ∧ Below w.heap.size w w' := by
  obtain ⟨R, hR⟩ : ∃ R, queueWordsN (cap, l) = R := ⟨_, rfl⟩
  rw [hR]
  obtain ⟨p, hp⟩ : ∃ p, queueOkB (cap, l) = p := ⟨_, rfl⟩
  have hal : Below w.heap.size w (w.alloc (.cells #[.int .i64 cap, .slice a n c] 26 (0, 0))) := (Below.refl _ _).alloc (Nat.le_refl _) _
  have hb0 := heap_alloc_new w (.cells #[.int .i64 cap, .slice a n c] 26 (0, 0))
  have hs0 : (w.alloc (.cells #[.int .i64 cap, .slice a n c] 26 (0, 0))).heap.size = w.heap.size + 1 := by simp
  have HA := Lib.hid hal
  have HB0 := Lib.hid hb0
  have HL := Lib.hid h
  have HLEN := Lib.hid h.1
  have HBK := Lib.hid hb
  have HQ := Lib.hid fun (wx : World) (hx : Below w.heap.size w wx) => hp ▸ implQueueOk_c wx cap a n c l ((h.below hx (Nat.le_refl _)).le hx.size) hn hb
  have hnb : ∀ k, k ≤ n → numsTo l k ≤ 1048576 := fun k hk => Nat.le_trans (numsTo_bulk l k (by rw [h.1]; exact hk)) hb
  have HNB := Lib.hid hnb
  have HRR : Hid (R = if p = true then (numsTo l n : Int) else 0) := Lib.hid (by rw [← hR, ← hp, ← h.1]; rfl)
  clear hal hb0 h hR hb hp hnb
  go_enter Try.func14, Try.ntmps14
  go_upto_region 1 with fail
  generalize w.alloc (.cells #[.int .i64 cap, .slice a n c] 26 (0, 0)) = wa at HA HB0 hs0 ⊢
  obtain ⟨z0, z1⟩ := boxq HB0.out
  cases p
  · obtain rfl : R = 0 := by rw [HRR.out]; rfl
    go_wp2_with fail
    refine (HQ.out wa HA.out).mono ?_
    rintro e w1 ⟨rfl, hb⟩
    have HF := Lib.hid (HA.out.trans (hb.mono HA.out.size))
    clear hb z0 z1
    go_wp2_with fail
    go_ret
    exact ⟨rfl, HF.out⟩
  · obtain rfl : R = (numsTo l n : Int) := by rw [HRR.out, if_pos rfl]
    go_wp2_with fail
    refine (HQ.out wa HA.out).mono ?_
    rintro e w1 ⟨rfl, hb⟩
    have HF := Lib.hid (HA.out.trans (hb.mono HA.out.size))
    obtain ⟨y0, y1⟩ := boxq ((hb.block w.heap.size (by omega)).trans HB0.out)
    have hs1 := hb.size
    clear hb z0 z1
    go_wp2_with fail
    go_loopw [3, 12] (fun s i wr => ∃ k : Nat, k ≤ n ∧ i = .int .i64 k ∧ s = .int .i64 (numsTo l k : Int) ∧ Below w.heap.size w wr ∧ w1.heap.size ≤ wr.heap.size) (fun _ i _ => n - (intOf i).toNat)
    case atStart => exact ⟨0, Nat.zero_le _, rfl, rfl, HF.out, Nat.le_refl _⟩
    case round =>
      obtain ⟨k, hk, rfl, rfl, hbw, hsz⟩ := hrel
      have hsb := HNB.out k hk
      by_cases hlt : k < n
      · obtain ⟨b, o, x, ax, nx, cx, hx, rfl, hbB, hc0, hc1, -, -, hlx⟩ := item_at HL.out k hlt
        have e0 := (hbw.cell (p := ⟨b, o + k * 2, none⟩) hbB).trans hc0
        have e1 := (hbw.cell (p := ⟨b, o + k * 2 + 1, none⟩) hbB).trans hc1
        obtain ⟨M, hM⟩ : ∃ M, x.1 = M := ⟨_, rfl⟩
        rw [hM] at e0
        have hnum : numsTo l (k + 1) = numsTo l k + nx := by
          rw [numsTo]
          have : l.getD k (0, []) = x := by rw [List.getD_eq_getElem?_getD, hx]; rfl
          rw [this, hlx.1]
        have hsb1 := HNB.out (k + 1) (by omega)
        rw [hnum] at hsb1
        obtain ⟨s, hs⟩ : ∃ s, numsTo l k = s := ⟨_, rfl⟩
        rw [hs] at hsb hsb1 hnum ⊢
        have HNUM := Lib.hid hnum
        have hal := hbw.trans ((Below.refl wr.heap.size wr).alloc (Nat.le_refl _) (.cells #[.int .i64 M, .slice ax nx cx] 29 (0, 0)) |>.mono hbw.size)
        have hbk := heap_alloc_new wr (.cells #[.int .i64 M, .slice ax nx cx] 29 (0, 0))
        have hsk : w1.heap.size ≤ (wr.alloc (.cells #[.int .i64 M, .slice ax nx cx] 29 (0, 0))).heap.size := by simp; omega
        have HAL := Lib.hid hal
        have HBK2 := Lib.hid hbk
        have HSK := Lib.hid hsk
        clear hx hlx hc0 hc1 hnum hM hs hal hbk hsk hbw y0 y1
        go_upto_region 7 with fail
        clear e0 e1
        generalize wr.alloc (.cells #[.int .i64 M, .slice ax nx cx] 29 (0, 0)) = wb at HAL HBK2 HSK ⊢
        obtain ⟨x0, x1⟩ := boxq HBK2.out
        go_wp2_with fail
        go_roundw
        case rel => exact ⟨k + 1, by omega, by go_num, by rw [HNUM.out]; simp, HAL.out, HSK.out⟩
        case measure => simp [intOf]; omega
      · obtain rfl : k = n := by omega
        have HG := Lib.hid hbw
        clear hbw y0 y1
        go_wp2_with fail
        go_ret
        exact ⟨rfl, HG.out⟩
end Go.Proofs.Ytdoofapjhgahgaa
