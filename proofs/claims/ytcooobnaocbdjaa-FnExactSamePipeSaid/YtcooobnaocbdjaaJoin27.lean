import Derived.Test.YtcooobnaocbdjaaJoin13
import Derived.Test.YtcooobnaocbdjaaJoin19
/-! YtcooobnaocbdjaaPModS -/
section

namespace Go.Proofs.Ytcooobnaocbdjaa
open Go.RowKit Go.Sort
set_option linter.unusedVariables false

theorem same_no {α : Type} [DecidableEq α] {xs ys : List α} {k : Nat} {x y : α} (hx : xs[k]? = some x) (hy : ys[k]? = some y) (h : x ≠ y) : decide (xs = ys) = false := decide_eq_false fun e => by
  subst e
  rw [hx] at hy
  cases hy
  exact h rfl
theorem same_yes {α : Type} [DecidableEq α] {xs ys : List α} (hl : xs.length = ys.length) (h : ∀ j, j < xs.length → xs[j]? = ys[j]?) : decide (xs = ys) = true := decide_eq_true (List.ext_getElem? fun j => by
  by_cases hj : j < xs.length
  · exact h j hj
  · rw [List.getElem?_eq_none (by omega), List.getElem?_eq_none (by omega)])
set_option maxRecDepth 100000 in
set_option maxHeartbeats 3200000 in
theorem specSameRows_c (w : World) (a : Option Addr) (n c : Nat) (xs : List dRow) (h : ListAt shRow (Under w.heap.size) w a n xs) (hb : (Shape.list shRow).bulk xs ≤ 1048576)
    (a' : Option Addr) (n' c' : Nat) (ys : List dRow) (h' : ListAt shRow (Under w.heap.size) w a' n' ys) (hb' : (Shape.list shRow).bulk ys ≤ 1048576) :
    Calls Try.prog 73 #[.slice a n c, .slice a' n' c'] w fun e w' => e = .returned (.bool (sameRowsB xs ys)) ∧ Below w.heap.size w w' := by
  have hbk := bulk_list shRow h
  have hbk' := bulk_list shRow h'
  rw [hbk] at hb
  rw [hbk'] at hb'
  have hn1 : n ≤ 1048576 := by omega
  have HL := Lib.hid h
  have HL' := Lib.hid h'
  have HB := Lib.hid hb
  have HB' := Lib.hid hb'
  obtain ⟨d, hd⟩ : ∃ d, d = sameRowsB xs ys := ⟨_, rfl⟩
  rw [← hd]
  have HD := Lib.hid hd
  clear h h' hb hb' hbk hbk' hd
  by_cases hnn : n = n'
  · subst hnn
    go_enter Try.func73, Try.ntmps73
    go_wp2_with fail
    go_loopw [5] (fun i wr => ∃ k : Nat, k ≤ n ∧ i = .int .i64 k ∧ Hid (∀ j : Nat, j < k → xs[j]? = ys[j]?) ∧ Below w.heap.size w wr) (fun i _ => n - (intOf i).toNat)
    case atStart => exact ⟨0, Nat.zero_le _, rfl, Lib.hid fun j hj => absurd hj (Nat.not_lt_zero _), Below.refl _ _⟩
    case round =>
      obtain ⟨k, hk, rfl, hall, hbw⟩ := hrel
      have hsz := hbw.size
      by_cases hlt : k < n
      · obtain ⟨x, hx⟩ : ∃ x, xs[k]? = some x := ⟨_, List.getElem?_eq_getElem (by rw [HL.out.1]; exact hlt)⟩
        obtain ⟨y, hy⟩ : ∃ y, ys[k]? = some y := ⟨_, List.getElem?_eq_getElem (by rw [HL'.out.1]; exact hlt)⟩
        obtain ⟨b, o, es, rfl, hbB, hr, hs⟩ := HL.out.2 k x hx
        obtain ⟨b', o', es', rfl, hbB', hr', hs'⟩ := HL'.out.2 k y hy
        have hrr := rangeAt_kept hr (show b < w.heap.size from hbB) (Kept.of_below (I := Under w.heap.size) hbw fun b hb => hb)
        have hrr' := rangeAt_kept hr' (show b' < w.heap.size from hbB') (Kept.of_below (I := Under w.heap.size) hbw fun b hb => hb)
        have hsw := shRow.below hs hbw (Nat.le_refl _)
        have hsw' := shRow.below hs' hbw (Nat.le_refl _)
        have hbx : shRow.bulk x ≤ 1048576 := by have h1 := bulk_mem shRow.bulk xs k x hx; have h2 := HB.out; omega
        have hby : shRow.bulk y ≤ 1048576 := by have h1 := bulk_mem shRow.bulk ys k y hy; have h2 := HB'.out; omega
        rw [shRow_bulk, bulk_ints] at hbx hby
        obtain ⟨ax, nx, cx, rfl, -, -, mx⟩ := shRow_reads.1 hsw
        obtain ⟨ay, ny, cy, rfl, -, -, my⟩ := shRow_reads.1 hsw'
        have hlx : x.length = nx := mx.1
        have hly : y.length = ny := my.1
        have HC := fun (w2 : World) (hb1 : Below w.heap.size wr w2) => specSameVec_any w2 ax nx cx x ay ny cy y (((mx.below hb1 (Nat.le_refl _)).ints (by omega)).le (Nat.le_trans hsz hb1.size)) (((my.below hb1 (Nat.le_refl _)).ints (by omega)).le (Nat.le_trans hsz hb1.size))
        rw [shRow_size, Nat.mul_one] at hrr hrr'
        have c0 := hrr 0 _ rfl
        have d0 := hrr' 0 _ rfl
        simp only [Nat.add_zero] at c0 d0
        obtain ⟨p, hp⟩ : ∃ p, decide (x = y) = p := ⟨_, rfl⟩
        simp only [hp] at HC
        replace HC := Lib.hid HC
        have HX := Lib.hid hx
        have HY := Lib.hid hy
        have HP := Lib.hid hp
        have HBW := Lib.hid hbw
        clear hr hrr hs hsw mx hx hp hbw hbx hlx hr' hrr' hs' hsw' my hy hby hly
        cases p
        · have hdf : d = false := by rw [HD.out]; exact same_no HX.out HY.out (of_decide_eq_false HP.out)
          subst hdf
          go_upto_region 6 with fail
          have kk0 := cell_regrown c0
          have kk1 := cell_regrown d0
          have cC0 := fun d os => Calls.regrown_of (w := wr) (d := d) (os := os) (HC.out _ ((below_regrown wr d os).mono hsz))
          have CC0 := Lib.hid cC0
          clear c0 d0 cC0
          refine wp_region_quiet_below (by kernel_rfl) (by kernel_rfl) ?_
          repeat (go_big_quiet_step (with_reducible first | exact CC0.out _ _))
          refine wpQuiet_nil ?_
          intro _ hw'
          obtain ⟨⟨dq, osq⟩, hw''⟩ := hw'
          subst hw''
          have hwq := below_regrown wr dq osq
          generalize grow (redrawn wr dq) osq = w1 at hwq ⊢
          have HW := Lib.hid hwq
          clear hwq kk0 kk1
          go_wp2_with fail
          go_ret
          exact ⟨rfl, HBW.out.trans (HW.out.mono hsz)⟩
        · have HEQ : Hid (x = y) := Lib.hid (of_decide_eq_true HP.out)
          go_upto_region 6 with fail
          have kk0 := cell_regrown c0
          have kk1 := cell_regrown d0
          have cC0 := fun d os => Calls.regrown_of (w := wr) (d := d) (os := os) (HC.out _ ((below_regrown wr d os).mono hsz))
          have CC0 := Lib.hid cC0
          clear c0 d0 cC0
          refine wp_region_quiet_below (by kernel_rfl) (by kernel_rfl) ?_
          repeat (go_big_quiet_step (with_reducible first | exact CC0.out _ _))
          refine wpQuiet_nil ?_
          intro _ hw'
          obtain ⟨⟨dq, osq⟩, hw''⟩ := hw'
          subst hw''
          have hwq := below_regrown wr dq osq
          generalize grow (redrawn wr dq) osq = w1 at hwq ⊢
          have HW := Lib.hid hwq
          clear hwq kk0 kk1
          go_wp2_with fail
          go_round
          case rel =>
            refine ⟨k + 1, by omega, by go_num, Lib.hid fun i hi => ?_, HBW.out.trans (HW.out.mono hsz)⟩
            by_cases e : i = k
            · subst e
              rw [HX.out, HY.out, HEQ.out]
            · exact hall.out i (by omega)
          case measure => simp [intOf]; omega
      · obtain rfl : k = n := by omega
        have hdt : d = true := by
          rw [HD.out]
          exact same_yes (by rw [HL.out.1, HL'.out.1]) fun j hj => hall.out j (by rw [← HL.out.1]; exact hj)
        subst hdt
        have HWW := Lib.hid hbw
        clear hbw
        go_wp2_with fail
        go_ret
        exact ⟨rfl, HWW.out⟩
  · have hne : ((n : Int) != (n' : Int)) = true := by simpa using fun e : (n : Int) = n' => hnn (by omega)
    have hdf : d = false := by
      rw [HD.out]
      exact decide_eq_false fun e => hnn (by rw [← HL.out.1, ← HL'.out.1, e])
    subst hdf
    clear hnn
    go_enter Try.func73, Try.ntmps73
    go_wp2_with fail
    go_ret
    exact ⟨rfl, Below.refl _ _⟩
end Go.Proofs.Ytcooobnaocbdjaa

end

/-! YtcooobnaocbdjaaPSeqS -/
section

namespace Go.Proofs.Ytcooobnaocbdjaa
open Go.RowKit
set_option linter.unusedVariables false

def sameGradsB (a b : dGrads) : Bool := decide (a.2.1 = b.2.1) && (decide (a.2.2 = b.2.2) && sameRowsB a.1 b.1)
set_option maxRecDepth 100000 in
theorem specSameGrads_d (w : World) (es : List Value) (x : dGrads) (h : shGrads.reads (Under w.heap.size) w es x) (hb : shGrads.bulk x ≤ 1048576) (es' : List Value) (y : dGrads) (h' : shGrads.reads (Under w.heap.size) w es' y) (hb' : shGrads.bulk y ≤ 1048576) :
    Calls Try.prog 74 #[.agg es.toArray, .agg es'.toArray] w fun e w' => e = .returned (.bool (sameGradsB x y)) ∧ Below w.heap.size w w' := by
  obtain ⟨a, n, c, rfl, h1, h2, h3⟩ := shGrads_reads.1 h
  obtain ⟨a', n', c', rfl, g1, g2, g3⟩ := shGrads_reads.1 h'
  rw [shGrads_bulk] at hb hb'
  have hal : Below w.heap.size w ((w.alloc (.cells #[.slice a n c, .int .i64 x.2.1, .bool x.2.2] 45 (0, 0))).alloc (.cells #[.slice a' n' c', .int .i64 y.2.1, .bool y.2.2] 45 (0, 0))) := ((Below.refl _ _).alloc (Nat.le_refl _) _).alloc (by simp) _
  have HS := Lib.hid (specSameRows_c _ a n c x.1 ((h3.below hal (Nat.le_refl _)).le hal.size) hb a' n' c' y.1 ((g3.below hal (Nat.le_refl _)).le hal.size) hb')
  have HA := Lib.hid hal
  obtain ⟨L, hL⟩ : ∃ L, x.2.1 = L := ⟨_, rfl⟩
  obtain ⟨S, hS⟩ : ∃ S, x.2.2 = S := ⟨_, rfl⟩
  obtain ⟨M, hM⟩ : ∃ M, y.2.1 = M := ⟨_, rfl⟩
  obtain ⟨T, hT⟩ : ∃ T, y.2.2 = T := ⟨_, rfl⟩
  unfold sameGradsB
  rw [hL, hS, hM, hT] at HS HA
  rw [hL, hS, hM, hT]
  obtain ⟨q, hq⟩ : ∃ q, sameRowsB x.1 y.1 = q := ⟨_, rfl⟩
  rw [hq] at HS ⊢
  clear h h' h3 g3 hal hL hS hM hT hq hb hb'
  by_cases e1 : L = M
  · subst e1
    by_cases e2 : S = T
    · subst e2
      have hSS : (S == S) = true := by simp
      rw [decide_eq_true rfl, decide_eq_true rfl]
      go_enter Try.func74, Try.ntmps74
      go_wp2_with fail
      refine HS.out.mono ?_
      rintro e w1 ⟨rfl, hb⟩
      have HB := Lib.hid (HA.out.trans (hb.mono HA.out.size))
      clear hb
      go_wp2_with fail
      go_ret
      exact ⟨by simp, HB.out⟩
    · have hne : (S == T) = false := by simpa using e2
      rw [decide_eq_true rfl, decide_eq_false e2]
      clear e2
      go_enter Try.func74, Try.ntmps74
      go_wp2_with fail
      go_ret
      exact ⟨by simp, HA.out⟩
  · have hne : (L == M) = false := by simpa using e1
    rw [decide_eq_false e1]
    clear e1
    go_enter Try.func74, Try.ntmps74
    go_wp2_with fail
    go_ret
    exact ⟨by simp, HA.out⟩
end Go.Proofs.Ytcooobnaocbdjaa

end
