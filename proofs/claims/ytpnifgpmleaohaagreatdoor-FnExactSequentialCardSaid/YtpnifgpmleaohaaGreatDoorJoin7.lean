/-
  The model's functions on rows of numbers.
-/
import Derived.Test.YtpnifgpmleaohaaGreatDoorJoin6
import Derived.Deep.QuietTactic
import Derived.BigQuiet
namespace Go.Proofs.YtpnifgpmleaohaaGreatDoor
open Go.RowKit
set_option linter.unusedVariables false

theorem Row.empty (w : World) (o : Obj) (h : o = .cells #[] 3 (0, 0)) : Row w.heap.size (w.alloc o) (.slice (some ⟨w.heap.size, 0, none⟩) 0 0) [] := by
  subst h
  exact ⟨rfl, .inr ⟨_, 0, #[], rfl, Nat.le_refl _, heap_alloc_new w _, Nat.le_refl _, Nat.zero_le _, rfl, rfl⟩⟩
theorem drewN_below {B : Nat} {w w' : World} (h : Below B w w') (m : Nat) : Below B w (w'.drewN m) := h.trans ⟨rfl, rfl, rfl, Nat.le_refl _, fun _ _ => rfl⟩
theorem Row.drewN {base : Nat} {w : World} {v : Value} {zs : List Int} (h : Row base w v zs) (m : Nat) : Row base (w.drewN m) v zs := h.below ⟨rfl, rfl, rfl, Nat.le_refl _, fun _ _ => rfl⟩

set_option maxRecDepth 100000 in
theorem specVecAdd_any (w : World) (a1 : Option Addr) (n1 c1 : Nat) (xs : List Int) (a2 : Option Addr) (n2 c2 : Nat) (ys : List Int) (h1 : IntsIn w.heap.size w a1 n1 xs) (h2 : IntsIn w.heap.size w a2 n2 ys) :
    Calls Tryz.prog 216 #[.slice a1 n1 c1, .slice a2 n2 c2] w (RowB w (rowP addN xs ys) (flagP addB xs ys)) := by
  obtain ⟨i0, hi, hz0, hz1, hz2⟩ := info_parts Tryz.infoI64
  have hr1 := h1.room
  have HX := Lib.hid h1
  have HY := Lib.hid h2
  cases hp : pairB xs ys with
  | false =>
    rw [flagP_no addB hp, rowP_no addN hp]
    have HP := Lib.hid hp
    clear hp h1 h2
    go_enter Tryz.func216, Tryz.ntmps216
    go_wp2_with fail
    go_loopw [6, 7, 8] (fun m o i wr => i = .int .i64 0 ∧ o = .bool false ∧ Row w.heap.size wr m [] ∧ Below w.heap.size w wr) (fun _ _ _ _ => 0)
    case atStart => exact ⟨rfl, rfl, Row.empty w _ rfl, (Below.refl _ _).alloc (Nat.le_refl _) _⟩
    case round =>
      obtain ⟨rfl, rfl, hrow, hb⟩ := hrel
      have HR := Lib.hid hrow
      have HB := Lib.hid hb
      clear hrow hb
      by_cases hlt : 0 < n1
      · have hP := l3Pair_any wr a1 n1 c1 xs a2 n2 c2 ys ((HX.out.below HB.out (Nat.le_refl _)).le HB.out.size) ((HY.out.below HB.out (Nat.le_refl _)).le HB.out.size)
        rw [HP.out] at hP
        have HQ := Lib.hid hP
        clear hP
        go_wp2_with fail
        refine HQ.out.mono ?_
        rintro e w' ⟨rfl, rfl⟩
        go_wp2_with fail
        go_ret2
        exact ⟨_, rfl, HR.out, HB.out⟩
      · have hge : ¬ (0 : Int) < (n1 : Int) := by omega
        have hdd : decide ((0 : Int) < (n1 : Int)) = false := decide_eq_false hge
        go_wp2_with fail
        go_ret2
        exact ⟨_, rfl, HR.out, HB.out⟩
  | true =>
    obtain ⟨hp1, hp2, hl⟩ := pairB_has hp
    rw [flagP_yes addB hp, rowP_yes addN hp, h1.len]
    have hnn : n1 = n2 := by rw [← h1.len, ← h2.len]; exact hl
    subst hnn
    have hn6 := (vecOkB_has hp1).2.1
    rw [h1.len] at hn6
    have HP := Lib.hid hp
    clear hp h1 h2 hp1 hp2 hl
    go_enter Tryz.func216, Tryz.ntmps216
    go_wp2_with fail
    go_loopw [6, 7, 8] (fun m o i wr => ∃ k : Nat, k ≤ n1 ∧ i = .int .i64 k ∧ o = .bool (flagK addB xs ys k) ∧ Row w.heap.size wr m (rowK addN xs ys k) ∧ Below w.heap.size w wr) (fun _ _ i _ => n1 - (intOf i).toNat)
    case atStart => exact ⟨0, Nat.zero_le _, rfl, rfl, Row.empty w _ rfl, (Below.refl _ _).alloc (Nat.le_refl _) _⟩
    case round =>
      obtain ⟨k, hk, rfl, rfl, hrow, hb⟩ := hrel
      have hl := rowK_length addN xs ys k
      have HR := Lib.hid hrow
      have HB := Lib.hid hb
      clear hrow hb
      by_cases hlt : k < n1
      · obtain ⟨b, o, rfl, hbB, hcell0⟩ := HX.out.cells k hlt
        obtain ⟨b', o', rfl, hbB', hcell0'⟩ := HY.out.cells k hlt
        have hP := l3Pair_any wr _ n1 c1 xs _ n1 c2 ys ((HX.out.below HB.out (Nat.le_refl _)).le HB.out.size) ((HY.out.below HB.out (Nat.le_refl _)).le HB.out.size)
        rw [HP.out] at hP
        have HQ := Lib.hid hP
        obtain ⟨X, hX⟩ : ∃ X, X = xs.getD k 0 := ⟨_, rfl⟩
        obtain ⟨Y, hY⟩ : ∃ Y, Y = ys.getD k 0 := ⟨_, rfl⟩
        rw [← hX] at hcell0
        rw [← hY] at hcell0'
        have hcell := (HB.out.cell (p := ⟨b, o + k, none⟩) hbB).trans hcell0
        have hcell' := (HB.out.cell (p := ⟨b', o' + k, none⟩) hbB').trans hcell0'
        obtain ⟨fl, hfl⟩ : ∃ fl, flagK addB xs ys k = fl := ⟨_, rfl⟩
        obtain ⟨rn, hrn⟩ : ∃ rn, addN X Y = rn := ⟨_, rfl⟩
        obtain ⟨go, hgo⟩ : ∃ go, addB X Y = go := ⟨_, rfl⟩
        have hT := fun w => specFixAdd_any X Y w
        rw [hgo, hrn] at hT
        have HT := Lib.hid hT
        have e1 : flagK addB xs ys (k + 1) = (fl || go) := by rw [flagK, hfl, ← hX, ← hY, hgo]
        have e2 : rowK addN xs ys (k + 1) = rowK addN xs ys k ++ [rn] := by rw [rowK, ← hX, ← hY, hrn]
        have E1 := Lib.hid e1
        have E2 := Lib.hid e2
        rw [hfl]
        clear hX hY hcell0 hcell0' hfl hgo hrn hT e1 e2 hP
        go_wp2_with fail
        refine HQ.out.mono ?_
        rintro e w' ⟨rfl, rfl⟩
        go_wp2_with fail
        go_quiet ((go_at_call 124; refine Calls.quiet_of_same ((HT.out _).mono fun e w' ⟨he, hw⟩ => ⟨he, hw.symm⟩)))
        have hbq : Below w.heap.size w (wr.drewN nq) := drewN_below HB.out nq
        have hrq := HR.out.drewN nq
        generalize wr.drewN nq = wq at hbq hrq ⊢
        have hown : wq.ownsRow w.heap.size 3 1 _ _ (icells _) := hrq
        have hsz := hbq.size
        have HRQ := Lib.hid hrq
        have HBQ := Lib.hid hbq
        clear hrq hbq
        cases fl
        · go_wp2_with (at_builtin; refine wpList_append_own _ rfl _ _ 28 rfl w.heap.size 3 i0 (.int .i64 0) 1 8 Tryz.underlying28 hi hz0 hz1 hz2 rfl (by decide) _ _ _ rfl (hown.alloc _) ⟨wq.heap.size, 0, none⟩ 1 1 (icells [rn]) rfl rfl (cell_num_put _ _ _) (icells_one _) (by unfold maxLen; omega) (by omega) (by simp; omega) ?_; intro v' w2 hown' hgrow _)
          have hput := Row.put HRQ.out hsz _ hown' hgrow
          clear hown' hgrow hown
          go_wp2_with fail
          go_roundw
          case rel => exact ⟨k + 1, by omega, by go_num, by rw [E1.out]; rfl, by rw [E2.out]; exact hput.1, HBQ.out.trans hput.2⟩
          case measure => simp [intOf]; omega
        · go_wp2_with (at_builtin; refine wpList_append_own _ rfl _ _ 28 rfl w.heap.size 3 i0 (.int .i64 0) 1 8 Tryz.underlying28 hi hz0 hz1 hz2 rfl (by decide) _ _ _ rfl (hown.alloc _) ⟨wq.heap.size, 0, none⟩ 1 1 (icells [rn]) rfl rfl (cell_num_put _ _ _) (icells_one _) (by unfold maxLen; omega) (by omega) (by simp; omega) ?_; intro v' w2 hown' hgrow _)
          have hput := Row.put HRQ.out hsz _ hown' hgrow
          clear hown' hgrow hown
          go_wp2_with fail
          go_roundw
          case rel => exact ⟨k + 1, by omega, by go_num, by rw [E1.out]; rfl, by rw [E2.out]; exact hput.1, HBQ.out.trans hput.2⟩
          case measure => simp [intOf]; omega
      · obtain rfl : k = n1 := by omega
        go_wp2_with fail
        go_ret2
        exact ⟨_, rfl, HR.out, HB.out⟩

set_option maxRecDepth 100000 in
theorem specVecSub_any (w : World) (a1 : Option Addr) (n1 c1 : Nat) (xs : List Int) (a2 : Option Addr) (n2 c2 : Nat) (ys : List Int) (h1 : IntsIn w.heap.size w a1 n1 xs) (h2 : IntsIn w.heap.size w a2 n2 ys) :
    Calls Tryz.prog 109 #[.slice a1 n1 c1, .slice a2 n2 c2] w (RowB w (rowP subN xs ys) (flagP subB xs ys)) := by
  obtain ⟨i0, hi, hz0, hz1, hz2⟩ := info_parts Tryz.infoI64
  have hr1 := h1.room
  have HX := Lib.hid h1
  have HY := Lib.hid h2
  cases hp : pairB xs ys with
  | false =>
    rw [flagP_no subB hp, rowP_no subN hp]
    have HP := Lib.hid hp
    clear hp h1 h2
    go_enter Tryz.func109, Tryz.ntmps109
    go_wp2_with fail
    go_loopw [6, 7, 8] (fun m o i wr => i = .int .i64 0 ∧ o = .bool false ∧ Row w.heap.size wr m [] ∧ Below w.heap.size w wr) (fun _ _ _ _ => 0)
    case atStart => exact ⟨rfl, rfl, Row.empty w _ rfl, (Below.refl _ _).alloc (Nat.le_refl _) _⟩
    case round =>
      obtain ⟨rfl, rfl, hrow, hb⟩ := hrel
      have HR := Lib.hid hrow
      have HB := Lib.hid hb
      clear hrow hb
      by_cases hlt : 0 < n1
      · have hP := l3Pair_any wr a1 n1 c1 xs a2 n2 c2 ys ((HX.out.below HB.out (Nat.le_refl _)).le HB.out.size) ((HY.out.below HB.out (Nat.le_refl _)).le HB.out.size)
        rw [HP.out] at hP
        have HQ := Lib.hid hP
        clear hP
        go_wp2_with fail
        refine HQ.out.mono ?_
        rintro e w' ⟨rfl, rfl⟩
        go_wp2_with fail
        go_ret2
        exact ⟨_, rfl, HR.out, HB.out⟩
      · have hge : ¬ (0 : Int) < (n1 : Int) := by omega
        have hdd : decide ((0 : Int) < (n1 : Int)) = false := decide_eq_false hge
        go_wp2_with fail
        go_ret2
        exact ⟨_, rfl, HR.out, HB.out⟩
  | true =>
    obtain ⟨hp1, hp2, hl⟩ := pairB_has hp
    rw [flagP_yes subB hp, rowP_yes subN hp, h1.len]
    have hnn : n1 = n2 := by rw [← h1.len, ← h2.len]; exact hl
    subst hnn
    have hn6 := (vecOkB_has hp1).2.1
    rw [h1.len] at hn6
    have HP := Lib.hid hp
    clear hp h1 h2 hp1 hp2 hl
    go_enter Tryz.func109, Tryz.ntmps109
    go_wp2_with fail
    go_loopw [6, 7, 8] (fun m o i wr => ∃ k : Nat, k ≤ n1 ∧ i = .int .i64 k ∧ o = .bool (flagK subB xs ys k) ∧ Row w.heap.size wr m (rowK subN xs ys k) ∧ Below w.heap.size w wr) (fun _ _ i _ => n1 - (intOf i).toNat)
    case atStart => exact ⟨0, Nat.zero_le _, rfl, rfl, Row.empty w _ rfl, (Below.refl _ _).alloc (Nat.le_refl _) _⟩
    case round =>
      obtain ⟨k, hk, rfl, rfl, hrow, hb⟩ := hrel
      have hl := rowK_length subN xs ys k
      have HR := Lib.hid hrow
      have HB := Lib.hid hb
      clear hrow hb
      by_cases hlt : k < n1
      · obtain ⟨b, o, rfl, hbB, hcell0⟩ := HX.out.cells k hlt
        obtain ⟨b', o', rfl, hbB', hcell0'⟩ := HY.out.cells k hlt
        have hP := l3Pair_any wr _ n1 c1 xs _ n1 c2 ys ((HX.out.below HB.out (Nat.le_refl _)).le HB.out.size) ((HY.out.below HB.out (Nat.le_refl _)).le HB.out.size)
        rw [HP.out] at hP
        have HQ := Lib.hid hP
        obtain ⟨X, hX⟩ : ∃ X, X = xs.getD k 0 := ⟨_, rfl⟩
        obtain ⟨Y, hY⟩ : ∃ Y, Y = ys.getD k 0 := ⟨_, rfl⟩
        rw [← hX] at hcell0
        rw [← hY] at hcell0'
        have hcell := (HB.out.cell (p := ⟨b, o + k, none⟩) hbB).trans hcell0
        have hcell' := (HB.out.cell (p := ⟨b', o' + k, none⟩) hbB').trans hcell0'
        obtain ⟨fl, hfl⟩ : ∃ fl, flagK subB xs ys k = fl := ⟨_, rfl⟩
        obtain ⟨rn, hrn⟩ : ∃ rn, subN X Y = rn := ⟨_, rfl⟩
        obtain ⟨go, hgo⟩ : ∃ go, subB X Y = go := ⟨_, rfl⟩
        have hT := fun w => specFixSub_any X Y w
        rw [hgo, hrn] at hT
        have HT := Lib.hid hT
        have e1 : flagK subB xs ys (k + 1) = (fl || go) := by rw [flagK, hfl, ← hX, ← hY, hgo]
        have e2 : rowK subN xs ys (k + 1) = rowK subN xs ys k ++ [rn] := by rw [rowK, ← hX, ← hY, hrn]
        have E1 := Lib.hid e1
        have E2 := Lib.hid e2
        rw [hfl]
        clear hX hY hcell0 hcell0' hfl hgo hrn hT e1 e2 hP
        go_wp2_with fail
        refine HQ.out.mono ?_
        rintro e w' ⟨rfl, rfl⟩
        go_wp2_with fail
        go_quiet ((go_at_call 175; refine Calls.quiet_of_same ((HT.out _).mono fun e w' ⟨he, hw⟩ => ⟨he, hw.symm⟩)))
        have hbq : Below w.heap.size w (wr.drewN nq) := drewN_below HB.out nq
        have hrq := HR.out.drewN nq
        generalize wr.drewN nq = wq at hbq hrq ⊢
        have hown : wq.ownsRow w.heap.size 3 1 _ _ (icells _) := hrq
        have hsz := hbq.size
        have HRQ := Lib.hid hrq
        have HBQ := Lib.hid hbq
        clear hrq hbq
        cases fl
        · go_wp2_with (at_builtin; refine wpList_append_own _ rfl _ _ 28 rfl w.heap.size 3 i0 (.int .i64 0) 1 8 Tryz.underlying28 hi hz0 hz1 hz2 rfl (by decide) _ _ _ rfl (hown.alloc _) ⟨wq.heap.size, 0, none⟩ 1 1 (icells [rn]) rfl rfl (cell_num_put _ _ _) (icells_one _) (by unfold maxLen; omega) (by omega) (by simp; omega) ?_; intro v' w2 hown' hgrow _)
          have hput := Row.put HRQ.out hsz _ hown' hgrow
          clear hown' hgrow hown
          go_wp2_with fail
          go_roundw
          case rel => exact ⟨k + 1, by omega, by go_num, by rw [E1.out]; rfl, by rw [E2.out]; exact hput.1, HBQ.out.trans hput.2⟩
          case measure => simp [intOf]; omega
        · go_wp2_with (at_builtin; refine wpList_append_own _ rfl _ _ 28 rfl w.heap.size 3 i0 (.int .i64 0) 1 8 Tryz.underlying28 hi hz0 hz1 hz2 rfl (by decide) _ _ _ rfl (hown.alloc _) ⟨wq.heap.size, 0, none⟩ 1 1 (icells [rn]) rfl rfl (cell_num_put _ _ _) (icells_one _) (by unfold maxLen; omega) (by omega) (by simp; omega) ?_; intro v' w2 hown' hgrow _)
          have hput := Row.put HRQ.out hsz _ hown' hgrow
          clear hown' hgrow hown
          go_wp2_with fail
          go_roundw
          case rel => exact ⟨k + 1, by omega, by go_num, by rw [E1.out]; rfl, by rw [E2.out]; exact hput.1, HBQ.out.trans hput.2⟩
          case measure => simp [intOf]; omega
      · obtain rfl : k = n1 := by omega
        go_wp2_with fail
        go_ret2
        exact ⟨_, rfl, HR.out, HB.out⟩

set_option maxRecDepth 100000 in
theorem specVecScale_any (c : Int) (w : World) (a1 : Option Addr) (n1 c1 : Nat) (xs : List Int) (h1 : IntsIn w.heap.size w a1 n1 xs) :
    Calls Tryz.prog 218 #[.int .i64 c, .slice a1 n1 c1] w (RowB w (scaleN c xs) (scaleB c xs)) := by
  obtain ⟨i0, hi, hz0, hz1, hz2⟩ := info_parts Tryz.infoI64
  have hr1 := h1.room
  have HX := Lib.hid h1
  have hF := fun w => specFixOk_any c w
  cases hp : vecOkB xs with
  | false =>
    have hpp : pairB xs xs = false := by rw [pairB_self]; exact hp
    have e1 : scaleN c xs = [] := by unfold scaleN; rw [rowP_no _ hpp]; split <;> rfl
    have e2 : scaleB c xs = false := by unfold scaleB; rw [flagP_no _ hpp, Bool.and_false]
    rw [e1, e2]
    have HP := Lib.hid hp
    clear hp h1 hF hpp e1 e2
    go_enter Tryz.func218, Tryz.ntmps218
    go_wp2_with fail
    go_loopw [6, 7, 8] (fun m o i wr => i = .int .i64 0 ∧ o = .bool false ∧ Row w.heap.size wr m [] ∧ Below w.heap.size w wr) (fun _ _ _ _ => 0)
    case atStart => exact ⟨rfl, rfl, Row.empty w _ rfl, (Below.refl _ _).alloc (Nat.le_refl _) _⟩
    case round =>
      obtain ⟨rfl, rfl, hrow, hb⟩ := hrel
      have HR := Lib.hid hrow
      have HB := Lib.hid hb
      clear hrow hb
      by_cases hlt : 0 < n1
      · have hP := specVecOk_any wr a1 n1 c1 xs ((HX.out.below HB.out (Nat.le_refl _)).le HB.out.size)
        rw [HP.out] at hP
        have HQ := Lib.hid hP
        clear hP
        go_wp2_with fail
        refine HQ.out.mono ?_
        rintro e w' ⟨rfl, rfl⟩
        go_wp2_with fail
        go_ret2
        exact ⟨_, rfl, HR.out, HB.out⟩
      · have hge : ¬ (0 : Int) < (n1 : Int) := by omega
        have hdd : decide ((0 : Int) < (n1 : Int)) = false := decide_eq_false hge
        go_wp2_with fail
        go_ret2
        exact ⟨_, rfl, HR.out, HB.out⟩
  | true =>
   cases hc : okB c with
   | false =>
    have e1 : scaleN c xs = [] := by unfold scaleN; rw [hc]; rfl
    have e2 : scaleB c xs = false := by unfold scaleB; rw [hc]; rfl
    rw [e1, e2]
    rw [hc] at hF
    have HF := Lib.hid hF
    have HP := Lib.hid hp
    clear hp h1 hF hc e1 e2
    go_enter Tryz.func218, Tryz.ntmps218
    go_wp2_with fail
    go_loopw [6, 7, 8] (fun m o i wr => i = .int .i64 0 ∧ o = .bool false ∧ Row w.heap.size wr m [] ∧ Below w.heap.size w wr) (fun _ _ _ _ => 0)
    case atStart => exact ⟨rfl, rfl, Row.empty w _ rfl, (Below.refl _ _).alloc (Nat.le_refl _) _⟩
    case round =>
      obtain ⟨rfl, rfl, hrow, hb⟩ := hrel
      have HR := Lib.hid hrow
      have HB := Lib.hid hb
      clear hrow hb
      by_cases hlt : 0 < n1
      · have hP := specVecOk_any wr a1 n1 c1 xs ((HX.out.below HB.out (Nat.le_refl _)).le HB.out.size)
        rw [HP.out] at hP
        have HQ := Lib.hid hP
        clear hP
        go_wp2_with fail
        refine HQ.out.mono ?_
        rintro e w' ⟨rfl, rfl⟩
        go_wp2_with fail
        refine (HF.out _).mono ?_
        rintro e w' ⟨rfl, rfl⟩
        go_wp2_with fail
        go_ret2
        exact ⟨_, rfl, HR.out, HB.out⟩
      · have hge : ¬ (0 : Int) < (n1 : Int) := by omega
        have hdd : decide ((0 : Int) < (n1 : Int)) = false := decide_eq_false hge
        go_wp2_with fail
        go_ret2
        exact ⟨_, rfl, HR.out, HB.out⟩
   | true =>
    have hpp : pairB xs xs = true := by rw [pairB_self]; exact hp
    have e1 : scaleN c xs = rowK (fun x _ => mulN c x) xs xs n1 := by unfold scaleN; rw [hc, rowP_yes _ hpp, h1.len]; rfl
    have e2 : scaleB c xs = flagK (fun x _ => mulB c x) xs xs n1 := by unfold scaleB; rw [hc, flagP_yes _ hpp, h1.len]; rfl
    rw [e1, e2]
    have hn6 := (vecOkB_has hp).2.1
    rw [h1.len] at hn6
    rw [hc] at hF
    have HF := Lib.hid hF
    have HP := Lib.hid hp
    clear hp h1 hpp hF hc e1 e2
    go_enter Tryz.func218, Tryz.ntmps218
    go_wp2_with fail
    go_loopw [6, 7, 8] (fun m o i wr => ∃ k : Nat, k ≤ n1 ∧ i = .int .i64 k ∧ o = .bool (flagK (fun x _ => mulB c x) xs xs k) ∧ Row w.heap.size wr m (rowK (fun x _ => mulN c x) xs xs k) ∧ Below w.heap.size w wr) (fun _ _ i _ => n1 - (intOf i).toNat)
    case atStart => exact ⟨0, Nat.zero_le _, rfl, rfl, Row.empty w _ rfl, (Below.refl _ _).alloc (Nat.le_refl _) _⟩
    case round =>
      obtain ⟨k, hk, rfl, rfl, hrow, hb⟩ := hrel
      have hl := rowK_length (fun x _ => mulN c x) xs xs k
      have HR := Lib.hid hrow
      have HB := Lib.hid hb
      clear hrow hb
      by_cases hlt : k < n1
      · obtain ⟨b, o, rfl, hbB, hcell0⟩ := HX.out.cells k hlt
        have hP := specVecOk_any wr _ n1 c1 xs ((HX.out.below HB.out (Nat.le_refl _)).le HB.out.size)
        rw [HP.out] at hP
        have HQ := Lib.hid hP
        obtain ⟨X, hX⟩ : ∃ X, X = xs.getD k 0 := ⟨_, rfl⟩
        rw [← hX] at hcell0
        have hcell := (HB.out.cell (p := ⟨b, o + k, none⟩) hbB).trans hcell0
        obtain ⟨fl, hfl⟩ : ∃ fl, flagK (fun x _ => mulB c x) xs xs k = fl := ⟨_, rfl⟩
        obtain ⟨rn, hrn⟩ : ∃ rn, mulN c X = rn := ⟨_, rfl⟩
        obtain ⟨go, hgo⟩ : ∃ go, mulB c X = go := ⟨_, rfl⟩
        have hT := fun w => specFixMul_any c X w
        rw [hgo, hrn] at hT
        have HT := Lib.hid hT
        have e1 : flagK (fun x _ => mulB c x) xs xs (k + 1) = (fl || go) := by rw [flagK, hfl, ← hX, hgo]
        have e2 : rowK (fun x _ => mulN c x) xs xs (k + 1) = rowK (fun x _ => mulN c x) xs xs k ++ [rn] := by rw [rowK, ← hX, hrn]
        have E1 := Lib.hid e1
        have E2 := Lib.hid e2
        rw [hfl]
        obtain ⟨zs, hzs⟩ : ∃ zs, rowK (fun x _ => mulN c x) xs xs k = zs := ⟨_, rfl⟩
        rw [hzs] at HR E2 hl
        have hown : wr.ownsRow w.heap.size 3 1 _ _ (icells _) := HR.out
        have hsz := HB.out.size
        clear hX hcell0 hfl hgo hrn hT e1 e2 hP hzs
        cases fl
        all_goals
          go_wp2_with fail
          refine HQ.out.mono ?_
          rintro e w' ⟨rfl, rfl⟩
          go_wp2_with fail
          refine (HF.out _).mono ?_
          rintro e w' ⟨rfl, rfl⟩
          go_wp2_with fail
          refine (HT.out _).mono ?_
          rintro e w' ⟨rfl, rfl⟩
          go_wp2_with (at_builtin; refine wpList_append_own _ rfl _ _ 28 rfl w.heap.size 3 i0 (.int .i64 0) 1 8 Tryz.underlying28 hi hz0 hz1 hz2 rfl (by decide) _ _ _ rfl (hown.alloc _) ⟨wr.heap.size, 0, none⟩ 1 1 (icells [rn]) rfl rfl (cell_num_put _ _ _) (icells_one _) (by unfold maxLen; omega) (by omega) (by simp; omega) ?_; intro v' w2 hown' hgrow _)
          have hput := Row.put HR.out hsz _ hown' hgrow
          clear hown' hgrow hown
          go_wp2_with fail
          go_roundw
          case rel => exact ⟨k + 1, by omega, by go_num, by rw [E1.out]; rfl, by rw [E2.out]; exact hput.1, HB.out.trans hput.2⟩
          case measure => simp [intOf]; omega
      · obtain rfl : k = n1 := by omega
        go_wp2_with fail
        go_ret2
        exact ⟨_, rfl, HR.out, HB.out⟩

set_option maxRecDepth 100000 in
theorem specVecRelu_any (w : World) (a1 : Option Addr) (n1 c1 : Nat) (xs : List Int) (h1 : IntsIn w.heap.size w a1 n1 xs) :
    Calls Tryz.prog 217 #[.slice a1 n1 c1] w (RowV w (rowP (fun x _ => reluN x) xs xs)) := by
  obtain ⟨i0, hi, hz0, hz1, hz2⟩ := info_parts Tryz.infoI64
  have hr1 := h1.room
  have HX := Lib.hid h1
  cases hp : vecOkB xs with
  | false =>
    have hpp : pairB xs xs = false := by rw [pairB_self]; exact hp
    rw [rowP_no _ hpp]
    have HP := Lib.hid hp
    clear hp h1 hpp
    go_enter Tryz.func217, Tryz.ntmps217
    go_wp2_with fail
    go_loopw [3, 4] (fun m i wr => i = .int .i64 0 ∧ Row w.heap.size wr m [] ∧ Below w.heap.size w wr) (fun _ _ _ => 0)
    case atStart => exact ⟨rfl, Row.empty w _ rfl, (Below.refl _ _).alloc (Nat.le_refl _) _⟩
    case round =>
      obtain ⟨rfl, hrow, hb⟩ := hrel
      have HR := Lib.hid hrow
      have HB := Lib.hid hb
      clear hrow hb
      by_cases hlt : 0 < n1
      · have hP := specVecOk_any wr a1 n1 c1 xs ((HX.out.below HB.out (Nat.le_refl _)).le HB.out.size)
        rw [HP.out] at hP
        have HQ := Lib.hid hP
        clear hP
        go_wp2_with fail
        refine HQ.out.mono ?_
        rintro e w' ⟨rfl, rfl⟩
        go_wp2_with fail
        go_ret
        exact ⟨_, rfl, HR.out, HB.out⟩
      · have hge : ¬ (0 : Int) < (n1 : Int) := by omega
        have hdd : decide ((0 : Int) < (n1 : Int)) = false := decide_eq_false hge
        go_wp2_with fail
        go_ret
        exact ⟨_, rfl, HR.out, HB.out⟩
  | true =>
    have hpp : pairB xs xs = true := by rw [pairB_self]; exact hp
    rw [rowP_yes _ hpp, h1.len]
    have hn6 := (vecOkB_has hp).2.1
    rw [h1.len] at hn6
    have HP := Lib.hid hp
    clear hp h1 hpp
    go_enter Tryz.func217, Tryz.ntmps217
    go_wp2_with fail
    go_loopw [3, 4] (fun m i wr => ∃ k : Nat, k ≤ n1 ∧ i = .int .i64 k ∧ Row w.heap.size wr m (rowK (fun x _ => reluN x) xs xs k) ∧ Below w.heap.size w wr) (fun _ i _ => n1 - (intOf i).toNat)
    case atStart => exact ⟨0, Nat.zero_le _, rfl, Row.empty w _ rfl, (Below.refl _ _).alloc (Nat.le_refl _) _⟩
    case round =>
      obtain ⟨k, hk, rfl, hrow, hb⟩ := hrel
      have hl := rowK_length (fun x _ => reluN x) xs xs k
      have HR := Lib.hid hrow
      have HB := Lib.hid hb
      clear hrow hb
      by_cases hlt : k < n1
      · obtain ⟨b, o, rfl, hbB, hcell0⟩ := HX.out.cells k hlt
        have hP := specVecOk_any wr _ n1 c1 xs ((HX.out.below HB.out (Nat.le_refl _)).le HB.out.size)
        rw [HP.out] at hP
        have HQ := Lib.hid hP
        obtain ⟨X, hX⟩ : ∃ X, X = xs.getD k 0 := ⟨_, rfl⟩
        rw [← hX] at hcell0
        have hcell := (HB.out.cell (p := ⟨b, o + k, none⟩) hbB).trans hcell0
        obtain ⟨rn, hrn⟩ : ∃ rn, reluN X = rn := ⟨_, rfl⟩
        have hT := fun w => specRelu_any X w
        rw [hrn] at hT
        have HT := Lib.hid hT
        have e2 : rowK (fun x _ => reluN x) xs xs (k + 1) = rowK (fun x _ => reluN x) xs xs k ++ [rn] := by rw [rowK, ← hX, hrn]
        have E2 := Lib.hid e2
        obtain ⟨zs, hzs⟩ : ∃ zs, rowK (fun x _ => reluN x) xs xs k = zs := ⟨_, rfl⟩
        rw [hzs] at HR E2 hl
        have hown : wr.ownsRow w.heap.size 3 1 _ _ (icells _) := HR.out
        have hsz := HB.out.size
        clear hX hcell0 hrn hT e2 hP hzs
        · go_wp2_with fail
          refine HQ.out.mono ?_
          rintro e w' ⟨rfl, rfl⟩
          go_wp2_with fail
          refine (HT.out _).mono ?_
          rintro e w' ⟨rfl, rfl⟩
          go_wp2_with (at_builtin; refine wpList_append_own _ rfl _ _ 28 rfl w.heap.size 3 i0 (.int .i64 0) 1 8 Tryz.underlying28 hi hz0 hz1 hz2 rfl (by decide) _ _ _ rfl (hown.alloc _) ⟨wr.heap.size, 0, none⟩ 1 1 (icells [rn]) rfl rfl (cell_num_put _ _ _) (icells_one _) (by unfold maxLen; omega) (by omega) (by simp; omega) ?_; intro v' w2 hown' hgrow _)
          have hput := Row.put HR.out hsz _ hown' hgrow
          clear hown' hgrow hown
          go_wp2_with fail
          go_roundw
          case rel => exact ⟨k + 1, by omega, by go_num, by rw [E2.out]; exact hput.1, HB.out.trans hput.2⟩
          case measure => simp [intOf]; omega
      · obtain rfl : k = n1 := by omega
        go_wp2_with fail
        go_ret
        exact ⟨_, rfl, HR.out, HB.out⟩

set_option maxRecDepth 100000 in
theorem specVecMask_any (w : World) (a1 : Option Addr) (n1 c1 : Nat) (xs : List Int) (a2 : Option Addr) (n2 c2 : Nat) (ys : List Int) (h1 : IntsIn w.heap.size w a1 n1 xs) (h2 : IntsIn w.heap.size w a2 n2 ys) :
    Calls Tryz.prog 220 #[.slice a1 n1 c1, .slice a2 n2 c2] w (RowV w (rowP maskN xs ys)) := by
  obtain ⟨i0, hi, hz0, hz1, hz2⟩ := info_parts Tryz.infoI64
  have hr1 := h1.room
  have HX := Lib.hid h1
  have HY := Lib.hid h2
  cases hp : pairB xs ys with
  | false =>
    rw [rowP_no _ hp]
    have HP := Lib.hid hp
    clear hp h1 h2
    go_enter Tryz.func220, Tryz.ntmps220
    go_wp2_with fail
    go_loopw [5, 6] (fun m i wr => i = .int .i64 0 ∧ Row w.heap.size wr m [] ∧ Below w.heap.size w wr) (fun _ _ _ => 0)
    case atStart => exact ⟨rfl, Row.empty w _ rfl, (Below.refl _ _).alloc (Nat.le_refl _) _⟩
    case round =>
      obtain ⟨rfl, hrow, hb⟩ := hrel
      have HR := Lib.hid hrow
      have HB := Lib.hid hb
      clear hrow hb
      by_cases hlt : 0 < n1
      · have hP := l3Pair_any wr a1 n1 c1 xs a2 n2 c2 ys ((HX.out.below HB.out (Nat.le_refl _)).le HB.out.size) ((HY.out.below HB.out (Nat.le_refl _)).le HB.out.size)
        rw [HP.out] at hP
        have HQ := Lib.hid hP
        clear hP
        go_wp2_with fail
        refine HQ.out.mono ?_
        rintro e w' ⟨rfl, rfl⟩
        go_wp2_with fail
        go_ret
        exact ⟨_, rfl, HR.out, HB.out⟩
      · have hge : ¬ (0 : Int) < (n1 : Int) := by omega
        have hdd : decide ((0 : Int) < (n1 : Int)) = false := decide_eq_false hge
        go_wp2_with fail
        go_ret
        exact ⟨_, rfl, HR.out, HB.out⟩
  | true =>
    obtain ⟨hp1, hp2, hl⟩ := pairB_has hp
    rw [rowP_yes _ hp, h1.len]
    have hnn : n1 = n2 := by rw [← h1.len, ← h2.len]; exact hl
    subst hnn
    have hn6 := (vecOkB_has hp1).2.1
    rw [h1.len] at hn6
    have HP := Lib.hid hp
    clear hp h1 h2 hp1 hp2 hl
    go_enter Tryz.func220, Tryz.ntmps220
    go_wp2_with fail
    go_loopw [5, 6] (fun m i wr => ∃ k : Nat, k ≤ n1 ∧ i = .int .i64 k ∧ Row w.heap.size wr m (rowK maskN xs ys k) ∧ Below w.heap.size w wr) (fun _ i _ => n1 - (intOf i).toNat)
    case atStart => exact ⟨0, Nat.zero_le _, rfl, Row.empty w _ rfl, (Below.refl _ _).alloc (Nat.le_refl _) _⟩
    case round =>
      obtain ⟨k, hk, rfl, hrow, hb⟩ := hrel
      have hl := rowK_length maskN xs ys k
      have HR := Lib.hid hrow
      have HB := Lib.hid hb
      clear hrow hb
      by_cases hlt : k < n1
      · obtain ⟨b, o, rfl, hbB, hcell0⟩ := HX.out.cells k hlt
        obtain ⟨b', o', rfl, hbB', hcell0'⟩ := HY.out.cells k hlt
        have hP := l3Pair_any wr _ n1 c1 xs _ n1 c2 ys ((HX.out.below HB.out (Nat.le_refl _)).le HB.out.size) ((HY.out.below HB.out (Nat.le_refl _)).le HB.out.size)
        rw [HP.out] at hP
        have HQ := Lib.hid hP
        obtain ⟨X, hX⟩ : ∃ X, X = xs.getD k 0 := ⟨_, rfl⟩
        rw [← hX] at hcell0
        have hcell := (HB.out.cell (p := ⟨b, o + k, none⟩) hbB).trans hcell0
        obtain ⟨Y, hY⟩ : ∃ Y, Y = ys.getD k 0 := ⟨_, rfl⟩
        rw [← hY] at hcell0'
        have hcell' := (HB.out.cell (p := ⟨b', o' + k, none⟩) hbB').trans hcell0'
        have e2 : rowK maskN xs ys (k + 1) = rowK maskN xs ys k ++ [maskN X Y] := by rw [rowK, ← hX, ← hY]
        obtain ⟨zs, hzs⟩ : ∃ zs, rowK maskN xs ys k = zs := ⟨_, rfl⟩
        rw [hzs] at HR e2 hl
        have hown : wr.ownsRow w.heap.size 3 1 _ _ (icells _) := HR.out
        have hsz := HB.out.size
        by_cases hx : 0 < X
        · have ht : decide (X > 0) = true := decide_eq_true hx
          rw [maskN_yes Y hx] at e2
          have E2 := Lib.hid e2
          clear hX hY hcell0 hcell0' e2 hP hzs
          go_wp2_with fail
          refine HQ.out.mono ?_
          rintro e w' ⟨rfl, rfl⟩
          go_wp2_with (at_builtin; refine wpList_append_own _ rfl _ _ 28 rfl w.heap.size 3 i0 (.int .i64 0) 1 8 Tryz.underlying28 hi hz0 hz1 hz2 rfl (by decide) _ _ _ rfl (hown.alloc _) ⟨wr.heap.size, 0, none⟩ 1 1 (icells [Y]) rfl rfl (cell_num_put _ _ _) (icells_one _) (by unfold maxLen; omega) (by omega) (by simp; omega) ?_; intro v' w2 hown' hgrow _)
          have hput := Row.put HR.out hsz _ hown' hgrow
          clear hown' hgrow hown
          go_wp2_with fail
          go_roundw
          case rel => exact ⟨k + 1, by omega, by go_num, by rw [E2.out]; exact hput.1, HB.out.trans hput.2⟩
          case measure => simp [intOf]; omega
        · have ht : decide (X > 0) = false := decide_eq_false hx
          rw [maskN_no Y hx] at e2
          have E2 := Lib.hid e2
          clear hX hY hcell0 hcell0' e2 hP hzs
          go_wp2_with fail
          refine HQ.out.mono ?_
          rintro e w' ⟨rfl, rfl⟩
          go_wp2_with (at_builtin; refine wpList_append_own _ rfl _ _ 28 rfl w.heap.size 3 i0 (.int .i64 0) 1 8 Tryz.underlying28 hi hz0 hz1 hz2 rfl (by decide) _ _ _ rfl (hown.alloc _) ⟨wr.heap.size, 0, none⟩ 1 1 (icells [0]) rfl rfl (cell_num_put _ _ _) (icells_one _) (by unfold maxLen; omega) (by omega) (by simp; omega) ?_; intro v' w2 hown' hgrow _)
          have hput := Row.put HR.out hsz _ hown' hgrow
          clear hown' hgrow hown
          go_wp2_with fail
          go_roundw
          case rel => exact ⟨k + 1, by omega, by go_num, by rw [E2.out]; exact hput.1, HB.out.trans hput.2⟩
          case measure => simp [intOf]; omega
      · obtain rfl : k = n1 := by omega
        go_wp2_with fail
        go_ret
        exact ⟨_, rfl, HR.out, HB.out⟩

set_option maxRecDepth 100000 in
theorem specVecDot_any (w : World) (a1 : Option Addr) (n1 c1 : Nat) (xs : List Int) (a2 : Option Addr) (n2 c2 : Nat) (ys : List Int) (h1 : IntsIn w.heap.size w a1 n1 xs) (h2 : IntsIn w.heap.size w a2 n2 ys) :
    Calls Tryz.prog 173 #[.slice a1 n1 c1, .slice a2 n2 c2] w (NumB w (dotN xs ys) (dotB xs ys)) := by
  have hr1 := h1.room
  have HX := Lib.hid h1
  have HY := Lib.hid h2
  cases hp : pairB xs ys with
  | false =>
    rw [dotN_no hp, dotB_no hp]
    have HP := Lib.hid hp
    clear hp h1 h2
    go_enter Tryz.func173, Tryz.ntmps173
    go_wp2_with fail
    go_loopw [6, 7, 8] (fun m o i wr => i = .int .i64 0 ∧ o = .bool false ∧ m = .int .i64 0 ∧ Below w.heap.size w wr) (fun _ _ _ _ => 0)
    case atStart => exact ⟨rfl, rfl, rfl, Below.refl _ _⟩
    case round =>
      obtain ⟨rfl, rfl, rfl, hb⟩ := hrel
      have HB := Lib.hid hb
      clear hb
      by_cases hlt : 0 < n1
      · have hP := l3Pair_any wr a1 n1 c1 xs a2 n2 c2 ys ((HX.out.below HB.out (Nat.le_refl _)).le HB.out.size) ((HY.out.below HB.out (Nat.le_refl _)).le HB.out.size)
        rw [HP.out] at hP
        have HQ := Lib.hid hP
        clear hP
        go_wp2_with fail
        refine HQ.out.mono ?_
        rintro e w' ⟨rfl, rfl⟩
        go_wp2_with fail
        go_ret2
        exact ⟨rfl, HB.out⟩
      · have hge : ¬ (0 : Int) < (n1 : Int) := by omega
        have hdd : decide ((0 : Int) < (n1 : Int)) = false := decide_eq_false hge
        go_wp2_with fail
        go_ret2
        exact ⟨rfl, HB.out⟩
  | true =>
    obtain ⟨hp1, hp2, hl⟩ := pairB_has hp
    rw [dotN_yes hp, dotB_yes hp, h1.len]
    have hnn : n1 = n2 := by rw [← h1.len, ← h2.len]; exact hl
    subst hnn
    have hn6 := (vecOkB_has hp1).2.1
    rw [h1.len] at hn6
    have HP := Lib.hid hp
    clear hp h1 h2 hp1 hp2 hl
    go_enter Tryz.func173, Tryz.ntmps173
    go_wp2_with fail
    go_loopw [6, 7, 8] (fun m o i wr => ∃ k : Nat, k ≤ n1 ∧ i = .int .i64 k ∧ o = .bool (dotKB xs ys k) ∧ m = .int .i64 (dotK xs ys k) ∧ Below w.heap.size w wr) (fun _ _ i _ => n1 - (intOf i).toNat)
    case atStart => exact ⟨0, Nat.zero_le _, rfl, rfl, rfl, Below.refl _ _⟩
    case round =>
      obtain ⟨k, hk, rfl, rfl, rfl, hb⟩ := hrel
      have HB := Lib.hid hb
      clear hb
      by_cases hlt : k < n1
      · obtain ⟨b, o, rfl, hbB, hcell0⟩ := HX.out.cells k hlt
        obtain ⟨b', o', rfl, hbB', hcell0'⟩ := HY.out.cells k hlt
        have hP := l3Pair_any wr _ n1 c1 xs _ n1 c2 ys ((HX.out.below HB.out (Nat.le_refl _)).le HB.out.size) ((HY.out.below HB.out (Nat.le_refl _)).le HB.out.size)
        rw [HP.out] at hP
        have HQ := Lib.hid hP
        obtain ⟨X, hX⟩ : ∃ X, X = xs.getD k 0 := ⟨_, rfl⟩
        rw [← hX] at hcell0
        have hcell := (HB.out.cell (p := ⟨b, o + k, none⟩) hbB).trans hcell0
        obtain ⟨Y, hY⟩ : ∃ Y, Y = ys.getD k 0 := ⟨_, rfl⟩
        rw [← hY] at hcell0'
        have hcell' := (HB.out.cell (p := ⟨b', o' + k, none⟩) hbB').trans hcell0'
        obtain ⟨sk, hsk⟩ : ∃ sk, dotK xs ys k = sk := ⟨_, rfl⟩
        obtain ⟨fl, hfl⟩ : ∃ fl, dotKB xs ys k = fl := ⟨_, rfl⟩
        obtain ⟨pn, hpn⟩ : ∃ pn, mulN X Y = pn := ⟨_, rfl⟩
        obtain ⟨po, hpo⟩ : ∃ po, mulB X Y = po := ⟨_, rfl⟩
        obtain ⟨sn, hsn⟩ : ∃ sn, addN sk pn = sn := ⟨_, rfl⟩
        obtain ⟨so, hso⟩ : ∃ so, addB sk pn = so := ⟨_, rfl⟩
        have hT := fun w => specFixMul_any X Y w
        rw [hpn, hpo] at hT
        have HT := Lib.hid hT
        have hU := fun w => specFixAdd_any sk pn w
        rw [hsn, hso] at hU
        have HU := Lib.hid hU
        have e1 : dotKB xs ys (k + 1) = (fl || (po || so)) := by
          show (dotKB xs ys k || dotG (dotK xs ys k) (xs.getD k 0) (ys.getD k 0)) = _
          rw [hfl, hsk, ← hX, ← hY, dotG, hpo, hpn, hso]
        have e2 : dotK xs ys (k + 1) = sn := by
          show dotF (dotK xs ys k) (xs.getD k 0) (ys.getD k 0) = _
          rw [hsk, ← hX, ← hY, dotF, hpn, hsn]
        have E1 := Lib.hid e1
        have E2 := Lib.hid e2
        rw [hfl, hsk]
        clear hX hY hcell0 hcell0' hsk hfl hpn hpo hsn hso hT hU e1 e2 hP
        go_wp2_with fail
        refine HQ.out.mono ?_
        rintro e w' ⟨rfl, rfl⟩
        go_wp2_with fail
        go_quiet ((go_at_call 219; refine Calls.quiet_of_same ((HT.out _).mono fun e w' ⟨he, hw⟩ => ⟨he, hw.symm⟩)))
        have hbq : Below w.heap.size w (wr.drewN nq) := drewN_below HB.out nq
        generalize wr.drewN nq = wq at hbq ⊢
        have HBQ := Lib.hid hbq
        clear hbq
        cases fl <;> cases po
        all_goals
          go_wp2_with fail
          refine (HU.out _).mono ?_
          rintro e w' ⟨rfl, rfl⟩
          go_wp2_with fail
          go_roundw
          case rel => exact ⟨k + 1, by omega, by go_num, by rw [E1.out]; rfl, by rw [E2.out], HBQ.out⟩
          case measure => simp [intOf]; omega
      · obtain rfl : k = n1 := by omega
        go_wp2_with fail
        go_ret2
        exact ⟨rfl, HB.out⟩
end Go.Proofs.YtpnifgpmleaohaaGreatDoor
