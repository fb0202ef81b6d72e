/-
  The program's functions on batches and rows.
-/
import Derived.Test.YtcooobnaocbdjaaJoin38
namespace Go.Proofs.Ytcooobnaocbdjaa
open Go.RowKit Go.Sort
set_option linter.unusedVariables false

set_option maxRecDepth 100000 in
set_option maxHeartbeats 3200000 in
theorem implSameRow_c (w : World) (a : Option Addr) (n c : Nat) (x : List Int) (hx : IntsIn w.heap.size w a n x) (a' : Option Addr) (n' c' : Nat) (y : List Int) (hy : IntsIn w.heap.size w a' n' y) :
    Calls Try.prog 107 #[.agg #[.slice a n c], .agg #[.slice a' n' c']] w fun e w' => e = .returned (.bool (decide (x = y))) ∧ Below w.heap.size w w' := by
  have hal : Below w.heap.size w ((w.alloc (.cells #[.slice a n c] 72 (0, 0))).alloc (.cells #[.slice a' n' c'] 72 (0, 0))) := ((Below.refl _ _).alloc (Nat.le_refl _) _).alloc (by simp) _
  have HC := Lib.hid (implSameVec_any _ a n c x a' n' c' y ((hx.below hal (Nat.le_refl _)).le hal.size) ((hy.below hal (Nat.le_refl _)).le hal.size))
  have HA := Lib.hid hal
  obtain ⟨d, hd⟩ : ∃ d, decide (x = y) = d := ⟨_, rfl⟩
  rw [hd] at HC ⊢
  clear hx hy hal hd
  go_enter Try.func107, Try.ntmps107
  go_wp2_with fail
  refine HC.out.mono ?_
  rintro e w1 ⟨rfl, hb⟩
  have HB := Lib.hid (HA.out.trans (hb.mono HA.out.size))
  clear hb
  go_wp2_with fail
  go_ret
  exact ⟨rfl, HB.out⟩
theorem eg_sameRow : ∀ args w, (callFunc 107 args).run Try.prog w = .ok (.enter 107 args) w := enters_of Try.func107 (by kernel_rfl) rfl
set_option maxRecDepth 100000 in
set_option maxHeartbeats 3200000 in
theorem equalFunc_rows (w : World) (a : Option Addr) (n c : Nat) (xs : List dRow) (h : ListAt shRow (Under w.heap.size) w a n xs) (hb : (Shape.list shRow).bulk xs ≤ 1048576) (a' : Option Addr) (n' c' : Nat) (ys : List dRow) (h' : ListAt shRow (Under w.heap.size) w a' n' ys) (hb' : (Shape.list shRow).bulk ys ≤ 1048576) :
    Calls Try.prog 106 #[.slice a n c, .slice a' n' c', .func (.func 107) #[] #[]] w fun e w' => e = .returned (.bool (sameRowsB xs ys)) ∧ Below w.heap.size w w' := by
  have hbk := bulk_list shRow h
  have hbk' := bulk_list shRow h'
  rw [hbk] at hb
  rw [hbk'] at hb'
  have hn1 : n ≤ 1048576 := by omega
  have HL := Lib.hid h
  have HL' := Lib.hid h'
  have HB := Lib.hid hb
  have HB' := Lib.hid hb'
  have eg := eg_sameRow
  obtain ⟨d, hd⟩ : ∃ d, d = sameRowsB xs ys := ⟨_, rfl⟩
  rw [← hd]
  have HD := Lib.hid hd
  clear h h' hb hb' hbk hbk' hd
  by_cases hnn : n = n'
  · subst hnn
    go_enter Try.func106, Try.ntmps106
    go_wp2_with fail
    go_loopw [17] (fun i wr => ∃ k : Nat, k ≤ n ∧ i = .int .i64 k ∧ Hid (∀ j : Nat, j < k → xs[j]? = ys[j]?) ∧ Below w.heap.size w wr) (fun i _ => n - (intOf i).toNat)
    case atStart => exact ⟨0, Nat.zero_le _, rfl, Lib.hid fun j hj => absurd hj (Nat.not_lt_zero _), Below.refl _ _⟩
    case round =>
      obtain ⟨k, hk, rfl, hall, hbw⟩ := hrel
      have hsz := hbw.size
      by_cases hlt : k < n
      · obtain ⟨x, hx⟩ : ∃ x, xs[k]? = some x := ⟨_, List.getElem?_eq_getElem (by rw [HL.out.1]; exact hlt)⟩
        obtain ⟨y, hy⟩ : ∃ y, ys[k]? = some y := ⟨_, List.getElem?_eq_getElem (by rw [HL'.out.1]; exact hlt)⟩
        obtain ⟨b, o, es, rfl, hbB, hr, hs⟩ := HL.out.2 k x hx
        obtain ⟨b', o', es', rfl, hbB', hr', hs'⟩ := HL'.out.2 k y hy
        have hrr := rangeAt_kept hr (show b < w.heap.size from hbB) (Kept.of_below (I := Under w.heap.size) hbw fun b hb => hb)
        have hsw := shRow.below hs hbw (Nat.le_refl _)
        have hsw' := shRow.below hs' hbw (Nat.le_refl _)
        have hbx : shRow.bulk x ≤ 1048576 := by have h1 := bulk_mem shRow.bulk xs k x hx; have h2 := HB.out; omega
        have hby : shRow.bulk y ≤ 1048576 := by have h1 := bulk_mem shRow.bulk ys k y hy; have h2 := HB'.out; omega
        rw [shRow_bulk, bulk_ints] at hbx hby
        obtain ⟨ax, nx, cx, rfl, -, -, mx⟩ := shRow_reads.1 hsw
        obtain ⟨ay, ny, cy, rfl, -, -, my⟩ := shRow_reads.1 hsw'
        have hlx : x.length = nx := mx.1
        have hly : y.length = ny := my.1
        have hal := ((Below.refl wr.heap.size wr).alloc (Nat.le_refl _) (.cells #[.slice ax nx cx] 72 (0, 0)))
        have hal2 := hal.alloc hal.size (.cells #[.slice ay ny cy] 72 (0, 0))
        have hbw1 := hbw.trans (hal.mono hsz)
        have hbw2 := hbw.trans (hal2.mono hsz)
        have hrr' := rangeAt_kept hr' (show b' < w.heap.size from hbB') (Kept.of_below (I := Under w.heap.size) hbw1 fun b hb => hb)
        have HC := implSameRow_c _ ax nx cx x (((mx.below (hal2.mono hsz) (Nat.le_refl _)).ints (by omega)).le (Nat.le_trans hsz hal2.size)) ay ny cy y (((my.below (hal2.mono hsz) (Nat.le_refl _)).ints (by omega)).le (Nat.le_trans hsz hal2.size))
        rw [shRow_size, Nat.mul_one] at hrr hrr'
        have c0 := hrr 0 _ rfl
        have d0 := hrr' 0 _ rfl
        simp only [Nat.add_zero] at c0 d0
        obtain ⟨p, hp⟩ : ∃ p, decide (x = y) = p := ⟨_, rfl⟩
        simp only [hp] at HC
        replace HC := Lib.hid HC
        have HX := Lib.hid hx
        have HY := Lib.hid hy
        have HP := Lib.hid hp
        have HBW := Lib.hid hbw2
        clear hr hrr hs hsw mx hx hp hbw hbx hlx hr' hrr' hs' hsw' my hy hby hly hal hal2 hbw1 hbw2
        cases p
        · have hdf : d = false := by rw [HD.out]; exact same_no HX.out HY.out (of_decide_eq_false HP.out)
          subst hdf
          go_wp2_with fail
          refine HC.out.mono ?_
          rintro e w1 ⟨rfl, hb⟩
          have HB1 := Lib.hid (HBW.out.trans (hb.mono HBW.out.size))
          clear hb
          go_wp2_with fail
          go_ret
          exact ⟨rfl, HB1.out⟩
        · have HEQ : Hid (x = y) := Lib.hid (of_decide_eq_true HP.out)
          go_wp2_with fail
          refine HC.out.mono ?_
          rintro e w1 ⟨rfl, hb⟩
          have HB1 := Lib.hid (HBW.out.trans (hb.mono HBW.out.size))
          clear hb
          go_wp2_with fail
          go_round
          case rel =>
            refine ⟨k + 1, by omega, by go_num, Lib.hid fun i hi => ?_, HB1.out⟩
            by_cases e : i = k
            · subst e
              rw [HX.out, HY.out, HEQ.out]
            · exact hall.out i (by omega)
          case measure => simp [intOf]; omega
      · obtain rfl : k = n := by omega
        have hdt : d = true := by
          rw [HD.out]
          exact same_yes (by rw [HL.out.1, HL'.out.1]) fun j hj => hall.out j (by rw [← HL.out.1]; exact hj)
        subst hdt
        have HWW := Lib.hid hbw
        clear hbw
        go_wp2_with fail
        go_ret
        exact ⟨rfl, HWW.out⟩
  · have hne : ((n : Int) != (n' : Int)) = true := by simpa using fun e : (n : Int) = n' => hnn (by omega)
    have hdf : d = false := by
      rw [HD.out]
      exact decide_eq_false fun e => hnn (by rw [← HL.out.1, ← HL'.out.1, e])
    subst hdf
    clear hnn
    go_enter Try.func106, Try.ntmps106
    go_wp2_with fail
    go_ret
    exact ⟨rfl, Below.refl _ _⟩
set_option maxRecDepth 100000 in
set_option maxHeartbeats 3200000 in
theorem implSameRows_d (w : World) (a : Option Addr) (n c : Nat) (xs : List dRow) (h : ListAt shRow (Under w.heap.size) w a n xs) (g1 : n ≤ c) (g2 : c ≤ 9223372036854775807) (hb : (Shape.list shRow).bulk xs ≤ 1048576)
    (a' : Option Addr) (n' c' : Nat) (ys : List dRow) (h' : ListAt shRow (Under w.heap.size) w a' n' ys) (g1' : n' ≤ c') (g2' : c' ≤ 9223372036854775807) (hb' : (Shape.list shRow).bulk ys ≤ 1048576) :
    Calls Try.prog 82 #[.slice a n c, .slice a' n' c'] w fun e w' => e = .returned (.bool (sameRowsB xs ys)) ∧ Below w.heap.size w w' := by
  have HC := Lib.hid (equalFunc_rows w a n c xs h hb a' n' c' ys h' hb')
  obtain ⟨d, hd⟩ : ∃ d, sameRowsB xs ys = d := ⟨_, rfl⟩
  rw [hd] at HC ⊢
  clear h h' hb hb' hd
  go_enter Try.func82, Try.ntmps82
  go_wp2_with fail
  refine HC.out.mono ?_
  rintro e w1 ⟨rfl, hb⟩
  have HB := Lib.hid hb
  clear hb
  go_wp2_with fail
  go_ret
  exact ⟨rfl, HB.out⟩
end Go.Proofs.Ytcooobnaocbdjaa
