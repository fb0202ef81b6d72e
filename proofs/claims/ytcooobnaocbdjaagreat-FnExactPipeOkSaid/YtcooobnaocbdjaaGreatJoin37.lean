/-
  Stages: what fits, by the program (mkeqf.py).
-/
import Derived.Test.YtcooobnaocbdjaaGreatJoin24
import Derived.Test.YtcooobnaocbdjaaGreatJoin13
import Derived.Test.YtcooobnaocbdjaaGreatJoin35
import Derived.Test.YtcooobnaocbdjaaGreatJoin36
import Derived.Deep.QuietTactic
import Derived.BigQuiet
namespace Go.Proofs.YtcooobnaocbdjaaGreat
open Go.RowKit Go.Sort
set_option linter.unusedVariables false
set_option linter.unusedSimpArgs false

/-- Two lists of one length, alike at each place. -/
def eqAll (n n' : Nat) (p : Nat → Bool) : Bool := decide (n = n') && (List.range n).all p
theorem eqAll_len {n n' : Nat} {p : Nat → Bool} (h : n ≠ n') : eqAll n n' p = false := by unfold eqAll; rw [decide_eq_false h]; rfl
theorem eqAll_no {n n' : Nat} {p : Nat → Bool} {k : Nat} (hk : k < n) (h : p k = false) : eqAll n n' p = false := by unfold eqAll; rw [range_some hk h]; simp
theorem eqAll_yes {n n' : Nat} {p : Nat → Bool} (h : n = n') (hp : ∀ j, j < n → p j = true) : eqAll n n' p = true := by unfold eqAll; rw [decide_eq_true h, range_all hp]; rfl
/-- A right vector of so many. -/
def isOfB (xs : List Int) (N : Int) : Bool := vecOkB xs && decide ((xs.length : Int) = N)
def sumAt (xs : List dRow) (ys : List dOp) (i : Nat) : Bool := decide ((rowAt xs i).length = (opAt ys i).2.2.2.length)
def sizeAt (xs : List dRow) (ys : List Int) (i : Nat) : Bool := isOfB (rowAt xs i) (ys.getD i 0)
set_option maxRecDepth 100000 in
theorem implIsOf_c (w : World) (a : Option Addr) (n c : Nat) (xs : List Int) (N : Int) (h : IntsIn w.heap.size w a n xs) :
    Calls Tryz.prog 190 #[.slice a n c, .int .i64 N] w fun e w' => e = .returned (.bool (isOfB xs N)) ∧ w = w' := by
  have hroom := h.room
  have HC := Lib.hid (implVecOk_any w a n c xs h)
  obtain ⟨p, hp⟩ : ∃ p, vecOkB xs = p := ⟨_, rfl⟩
  have hR : isOfB xs N = (p && decide ((n : Int) = N)) := by unfold isOfB; rw [hp, h.len]
  rw [hR]
  rw [hp] at HC
  clear h hp hR
  cases p
  · rw [Bool.false_and]
    go_enter Tryz.func190, Tryz.ntmps190
    go_wp2_with fail
    refine HC.out.mono ?_
    rintro e w' ⟨rfl, rfl⟩
    go_wp2_with fail
    go_ret
    exact ⟨rfl, rfl⟩
  · rw [Bool.true_and]
    go_enter Tryz.func190, Tryz.ntmps190
    go_wp2_with fail
    refine HC.out.mono ?_
    rintro e w' ⟨rfl, rfl⟩
    go_wp2_with fail
    go_ret
    exact ⟨rfl, rfl⟩
set_option maxRecDepth 100000 in
theorem implNoneOr_c (w : World) (a : Option Addr) (n c : Nat) (xs : List Int) (N : Int) (h : IntsIn w.heap.size w a n xs) :
    Calls Tryz.prog 166 #[.slice a n c, .int .i64 N] w fun e w' => e = .returned (.bool (handB xs N)) ∧ w = w' := by
  have hroom := h.room
  have HC := Lib.hid (implIsOf_c w a n c xs N h)
  obtain ⟨p, hp⟩ : ∃ p, isOfB xs N = p := ⟨_, rfl⟩
  have hR : handB xs N = (decide (n = 0) || p) := by unfold handB; rw [← hp, h.len]; unfold isOfB; rw [h.len]
  rw [hR]
  rw [hp] at HC
  clear h hp hR
  by_cases h0 : n = 0
  · subst h0
    go_enter Tryz.func166, Tryz.ntmps166
    go_wp2_with fail
    go_ret
    exact ⟨rfl, rfl⟩
  · have g0 : ((n : Int) == 0) = false := beq_eq_false_iff_ne.2 (by omega)
    have g1 : decide (n = 0) = false := decide_eq_false h0
    have h0e : 0 < n := by omega
    rw [g1, Bool.false_or]
    go_enter Tryz.func166, Tryz.ntmps166
    go_wp2_with fail
    refine HC.out.mono ?_
    rintro e w' ⟨rfl, rfl⟩
    go_wp2_with fail
    go_ret
    exact ⟨rfl, rfl⟩
set_option maxRecDepth 100000 in
theorem implSumFit_c (w : World) (a : Option Addr) (n c : Nat) (K0 K1 K2 : Int) (a' : Option Addr) (n' c' : Nat) :
    Calls Tryz.prog 186 #[.agg #[.slice a n c], .agg #[.int .i64 K0, .int .i64 K1, .int .i64 K2, .slice a' n' c']] w fun e w' => e = .returned (.bool (decide (n = n'))) ∧ Below w.heap.size w w' := by
  have hal := ((Below.refl w.heap.size w).alloc (Nat.le_refl _) (.cells #[.slice a n c] 158 (0, 0))).alloc (by simp) (.cells #[.int .i64 K0, .int .i64 K1, .int .i64 K2, .slice a' n' c'] 156 (0, 0))
  have HA := Lib.hid hal
  clear hal
  by_cases e : n = n'
  · subst e
    rw [decide_eq_true rfl]
    go_enter Tryz.func186, Tryz.ntmps186
    go_wp2_with fail
    go_ret
    exact ⟨by simp, HA.out⟩
  · have g0 : ((n : Int) == (n' : Int)) = false := beq_eq_false_iff_ne.2 (by omega)
    rw [decide_eq_false e]
    go_enter Tryz.func186, Tryz.ntmps186
    go_wp2_with fail
    go_ret
    exact ⟨by simp, HA.out⟩
set_option maxRecDepth 100000 in
theorem implRowFit_c (w : World) (a : Option Addr) (n c : Nat) (xs : List Int) (N : Int) (h : IntsIn w.heap.size w a n xs) :
    Calls Tryz.prog 189 #[.agg #[.slice a n c], .int .i64 N] w fun e w' => e = .returned (.bool (isOfB xs N)) ∧ Below w.heap.size w w' := by
  have hal := (Below.refl w.heap.size w).alloc (Nat.le_refl _) (.cells #[.slice a n c] 158 (0, 0))
  have HC := Lib.hid (implIsOf_c _ a n c xs N ((h.below hal (Nat.le_refl _)).le hal.size))
  have HA := Lib.hid hal
  obtain ⟨p, hp⟩ : ∃ p, isOfB xs N = p := ⟨_, rfl⟩
  rw [hp] at HC ⊢
  clear h hal hp
  go_enter Tryz.func189, Tryz.ntmps189
  go_wp2_with fail
  refine HC.out.mono ?_
  rintro e w' ⟨rfl, rfl⟩
  go_wp2_with fail
  go_ret
  exact ⟨rfl, HA.out⟩
theorem eg_sumFits : ∀ args w, (callFunc 186 args).run Tryz.prog w = .ok (.enter 186 args) w := enters_of Tryz.func186 (by kernel_rfl) rfl
set_option maxRecDepth 100000 in
set_option maxHeartbeats 3200000 in
theorem equalFunc_ops (w : World) (a : Option Addr) (n c : Nat) (xs : List dRow) (h : ListAt shRow (Under w.heap.size) w a n xs) (hb : (Shape.list shRow).bulk xs ≤ 1048576) (a' : Option Addr) (n' c' : Nat) (ys : List dOp) (h' : ListAt shOp (Under w.heap.size) w a' n' ys) (hn' : n' ≤ 1048576) :
    Calls Tryz.prog 185 #[.slice a n c, .slice a' n' c', .func (.func 186) #[] #[]] w fun e w' => e = .returned (.bool (eqAll xs.length ys.length (sumAt xs ys))) ∧ Below w.heap.size w w' := by
  have hbk := bulk_list shRow h
  rw [hbk] at hb
  have hn1 : n ≤ 1048576 := by omega
  have HL := Lib.hid h
  have HL' := Lib.hid h'
  have HB := Lib.hid hb
  have eg := eg_sumFits
  obtain ⟨d, hd⟩ : ∃ d, d = eqAll xs.length ys.length (sumAt xs ys) := ⟨_, rfl⟩
  rw [← hd]
  have HD := Lib.hid hd
  clear h h' hb hbk hd
  by_cases hnn : n = n'
  · subst hnn
    go_enter Tryz.func185, Tryz.ntmps185
    go_wp2_with fail
    go_loopw [17] (fun i wr => ∃ k : Nat, k ≤ n ∧ i = .int .i64 k ∧ Hid (∀ j : Nat, j < k → sumAt xs ys j = true) ∧ Below w.heap.size w wr) (fun i _ => n - (intOf i).toNat)
    case atStart => exact ⟨0, Nat.zero_le _, rfl, Lib.hid fun j hj => absurd hj (Nat.not_lt_zero _), Below.refl _ _⟩
    case round =>
      obtain ⟨k, hk, rfl, hall, hbw⟩ := hrel
      have hsz := hbw.size
      by_cases hlt : k < n
      · obtain ⟨b, o, x, ax, nx, cx, hx, rfl, hbB, hc0, -, -, hlx⟩ := row_at HL.out k hlt
        have hbx := bulk_mem shRow.bulk xs k x hx
        rw [shRow_bulk, bulk_ints, hlx.1] at hbx
        have hnx : nx ≤ 1048576 := by have := HB.out; omega
        have hal := (Below.refl wr.heap.size wr).alloc (Nat.le_refl _) (.cells #[.slice ax nx cx] 158 (0, 0))
        have hbk := heap_alloc_new wr (.cells #[.slice ax nx cx] 158 (0, 0))
        have hs1 : (wr.alloc (.cells #[.slice ax nx cx] 158 (0, 0))).heap.size = wr.heap.size + 1 := by simp
        have c0 := (hbw.cell (p := ⟨b, o + k, none⟩) hbB).trans hc0
        obtain ⟨b', o', y, ay, ny, cy, hy, rfl, hbB', hd0, hd1, hd2, hd3, -, -, hly⟩ := op_at HL'.out k hlt
        obtain ⟨K0, hK0⟩ : ∃ q, y.1 = q := ⟨_, rfl⟩
        obtain ⟨K1, hK1⟩ : ∃ q, y.2.1 = q := ⟨_, rfl⟩
        obtain ⟨K2, hK2⟩ : ∃ q, y.2.2.1 = q := ⟨_, rfl⟩
        rw [hK0] at hd0
        rw [hK1] at hd1
        rw [hK2] at hd2
        have hbw1 := hbw.trans (hal.mono hsz)
        have d0 := (hbw1.cell (p := ⟨b', o' + k * 4, none⟩) hbB').trans hd0
        have d1 := (hbw1.cell (p := ⟨b', o' + k * 4 + 1, none⟩) hbB').trans hd1
        have d2 := (hbw1.cell (p := ⟨b', o' + k * 4 + 2, none⟩) hbB').trans hd2
        have d3 := (hbw1.cell (p := ⟨b', o' + k * 4 + 3, none⟩) hbB').trans hd3
        obtain ⟨p, hp⟩ : ∃ p, sumAt xs ys k = p := ⟨_, rfl⟩
        have hp2 : decide (nx = ny) = p := by rw [← hp]; unfold sumAt; rw [rowAt_get hx, opAt_get hy, hlx.1, hly.1]
        have hal2 := hal.alloc hal.size (.cells #[.int .i64 K0, .int .i64 K1, .int .i64 K2, .slice ay ny cy] 156 (0, 0))
        have HBW := Lib.hid (hbw.trans (hal2.mono hsz))
        have HC := Lib.hid (implSumFit_c ((wr.alloc (.cells #[.slice ax nx cx] 158 (0, 0))).alloc (.cells #[.int .i64 K0, .int .i64 K1, .int .i64 K2, .slice ay ny cy] 156 (0, 0))) ax nx cx K0 K1 K2 ay ny cy)
        rw [hp2] at HC
        have HP := Lib.hid hp
        clear hx hy hlx hly hbx hbw hbw1 hc0 hd0 hd1 hd2 hd3 hK0 hK1 hK2 hp hp2 hal hal2 hbk hs1
        cases p
        · have hdf : d = false := by rw [HD.out]; exact eqAll_no (by rw [HL.out.1]; exact hlt) HP.out
          subst hdf
          go_wp2_with fail
          refine HC.out.mono ?_
          rintro e w1 ⟨rfl, hb⟩
          have HB1 := Lib.hid (HBW.out.trans (hb.mono HBW.out.size))
          clear hb
          go_wp2_with fail
          go_ret
          exact ⟨rfl, HB1.out⟩
        · go_wp2_with fail
          refine HC.out.mono ?_
          rintro e w1 ⟨rfl, hb⟩
          have HB1 := Lib.hid (HBW.out.trans (hb.mono HBW.out.size))
          clear hb
          go_wp2_with fail
          go_roundw
          case rel =>
            refine ⟨k + 1, by omega, by go_num, Lib.hid fun i hi => ?_, HB1.out⟩
            by_cases e : i = k
            · subst e
              exact HP.out
            · exact hall.out i (by omega)
          case measure => simp [intOf]; omega
      · obtain rfl : k = n := by omega
        have hdt : d = true := by
          rw [HD.out]
          exact eqAll_yes (by rw [HL.out.1, HL'.out.1]) fun j hj => hall.out j (by rw [← HL.out.1]; exact hj)
        subst hdt
        have HWW := Lib.hid hbw
        clear hbw
        go_wp2_with fail
        go_ret
        exact ⟨rfl, HWW.out⟩
  · have hne : ((n : Int) != (n' : Int)) = true := by simpa using fun e : (n : Int) = n' => hnn (by omega)
    have hdf : d = false := by
      rw [HD.out]
      exact eqAll_len fun e => hnn (by rw [← HL.out.1, ← HL'.out.1, e])
    subst hdf
    clear hnn
    go_enter Tryz.func185, Tryz.ntmps185
    go_wp2_with fail
    go_ret
    exact ⟨rfl, Below.refl _ _⟩
theorem eg_rowsFit : ∀ args w, (callFunc 189 args).run Tryz.prog w = .ok (.enter 189 args) w := enters_of Tryz.func189 (by kernel_rfl) rfl
set_option maxRecDepth 100000 in
set_option maxHeartbeats 3200000 in
theorem equalFunc_sizes (w : World) (a : Option Addr) (n c : Nat) (xs : List dRow) (h : ListAt shRow (Under w.heap.size) w a n xs) (hb : (Shape.list shRow).bulk xs ≤ 1048576) (a' : Option Addr) (n' c' : Nat) (ys : List Int) (h' : IntsIn w.heap.size w a' n' ys) (hn' : n' ≤ 1048576) :
    Calls Tryz.prog 188 #[.slice a n c, .slice a' n' c', .func (.func 189) #[] #[]] w fun e w' => e = .returned (.bool (eqAll xs.length ys.length (sizeAt xs ys))) ∧ Below w.heap.size w w' := by
  have hbk := bulk_list shRow h
  rw [hbk] at hb
  have hn1 : n ≤ 1048576 := by omega
  have HL := Lib.hid h
  have HL' := Lib.hid h'
  have HB := Lib.hid hb
  have eg := eg_rowsFit
  obtain ⟨d, hd⟩ : ∃ d, d = eqAll xs.length ys.length (sizeAt xs ys) := ⟨_, rfl⟩
  rw [← hd]
  have HD := Lib.hid hd
  clear h h' hb hbk hd
  by_cases hnn : n = n'
  · subst hnn
    go_enter Tryz.func188, Tryz.ntmps188
    go_wp2_with fail
    go_loopw [17] (fun i wr => ∃ k : Nat, k ≤ n ∧ i = .int .i64 k ∧ Hid (∀ j : Nat, j < k → sizeAt xs ys j = true) ∧ Below w.heap.size w wr) (fun i _ => n - (intOf i).toNat)
    case atStart => exact ⟨0, Nat.zero_le _, rfl, Lib.hid fun j hj => absurd hj (Nat.not_lt_zero _), Below.refl _ _⟩
    case round =>
      obtain ⟨k, hk, rfl, hall, hbw⟩ := hrel
      have hsz := hbw.size
      by_cases hlt : k < n
      · obtain ⟨b, o, x, ax, nx, cx, hx, rfl, hbB, hc0, -, -, hlx⟩ := row_at HL.out k hlt
        have hbx := bulk_mem shRow.bulk xs k x hx
        rw [shRow_bulk, bulk_ints, hlx.1] at hbx
        have hnx : nx ≤ 1048576 := by have := HB.out; omega
        have hal := (Below.refl wr.heap.size wr).alloc (Nat.le_refl _) (.cells #[.slice ax nx cx] 158 (0, 0))
        have hbk := heap_alloc_new wr (.cells #[.slice ax nx cx] 158 (0, 0))
        have hs1 : (wr.alloc (.cells #[.slice ax nx cx] 158 (0, 0))).heap.size = wr.heap.size + 1 := by simp
        have c0 := (hbw.cell (p := ⟨b, o + k, none⟩) hbB).trans hc0
        obtain ⟨b', o', rfl, hbB', hd0⟩ := HL'.out.cells k hlt
        obtain ⟨Y, hY⟩ : ∃ q, ys.getD k 0 = q := ⟨_, rfl⟩
        rw [hY] at hd0
        have hbw1 := hbw.trans (hal.mono hsz)
        have d0 := (hbw1.cell (p := ⟨b', o' + k, none⟩) hbB').trans hd0
        obtain ⟨p, hp⟩ : ∃ p, sizeAt xs ys k = p := ⟨_, rfl⟩
        have hp2 : isOfB x Y = p := by rw [← hp, ← hY]; unfold sizeAt; rw [rowAt_get hx]
        have HBW := Lib.hid hbw1
        have HC := Lib.hid (implRowFit_c (wr.alloc (.cells #[.slice ax nx cx] 158 (0, 0))) ax nx cx x Y (((hlx.below hbw1 (Nat.le_refl _)).ints hnx).le hbw1.size))
        rw [hp2] at HC
        have HP := Lib.hid hp
        clear hx hlx hbx hbw hbw1 hc0 hd0 hY hp hp2 hal hbk hs1
        cases p
        · have hdf : d = false := by rw [HD.out]; exact eqAll_no (by rw [HL.out.1]; exact hlt) HP.out
          subst hdf
          go_wp2_with fail
          refine HC.out.mono ?_
          rintro e w1 ⟨rfl, hb⟩
          have HB1 := Lib.hid (HBW.out.trans (hb.mono HBW.out.size))
          clear hb
          go_wp2_with fail
          go_ret
          exact ⟨rfl, HB1.out⟩
        · go_wp2_with fail
          refine HC.out.mono ?_
          rintro e w1 ⟨rfl, hb⟩
          have HB1 := Lib.hid (HBW.out.trans (hb.mono HBW.out.size))
          clear hb
          go_wp2_with fail
          go_roundw
          case rel =>
            refine ⟨k + 1, by omega, by go_num, Lib.hid fun i hi => ?_, HB1.out⟩
            by_cases e : i = k
            · subst e
              exact HP.out
            · exact hall.out i (by omega)
          case measure => simp [intOf]; omega
      · obtain rfl : k = n := by omega
        have hdt : d = true := by
          rw [HD.out]
          exact eqAll_yes (by rw [HL.out.1, HL'.out.len]) fun j hj => hall.out j (by rw [← HL.out.1]; exact hj)
        subst hdt
        have HWW := Lib.hid hbw
        clear hbw
        go_wp2_with fail
        go_ret
        exact ⟨rfl, HWW.out⟩
  · have hne : ((n : Int) != (n' : Int)) = true := by simpa using fun e : (n : Int) = n' => hnn (by omega)
    have hdf : d = false := by
      rw [HD.out]
      exact eqAll_len fun e => hnn (by rw [← HL.out.1, ← HL'.out.len, e])
    subst hdf
    clear hnn
    go_enter Tryz.func188, Tryz.ntmps188
    go_wp2_with fail
    go_ret
    exact ⟨rfl, Below.refl _ _⟩
end Go.Proofs.YtcooobnaocbdjaaGreat
