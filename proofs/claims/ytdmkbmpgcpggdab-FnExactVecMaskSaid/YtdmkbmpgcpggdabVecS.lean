/-
  The model's functions on rows of numbers.
-/
import Derived.Test.YtdmkbmpgcpggdabVecI
import Derived.Deep.QuietTactic
import Derived.BigQuiet
namespace Go.Proofs.Ytdmkbmpgcpggdab
open Go.RowKit
set_option linter.unusedVariables false

theorem Row.empty (w : World) (o : Obj) (h : o = .cells #[] 3 (0, 0)) : Row w.heap.size (w.alloc o) (.slice (some ⟨w.heap.size, 0, none⟩) 0 0) [] := by
  subst h
  exact ⟨rfl, .inr ⟨_, 0, #[], rfl, Nat.le_refl _, heap_alloc_new w _, Nat.le_refl _, Nat.zero_le _, rfl, rfl⟩⟩
theorem drewN_below {B : Nat} {w w' : World} (h : Below B w w') (m : Nat) : Below B w (w'.drewN m) := h.trans ⟨rfl, rfl, rfl, Nat.le_refl _, fun _ _ => rfl⟩
theorem Row.drewN {base : Nat} {w : World} {v : Value} {zs : List Int} (h : Row base w v zs) (m : Nat) : Row base (w.drewN m) v zs := h.below ⟨rfl, rfl, rfl, Nat.le_refl _, fun _ _ => rfl⟩

set_option maxRecDepth 100000 in
theorem specVecMask_any (w : World) (a1 : Option Addr) (n1 c1 : Nat) (xs : List Int) (a2 : Option Addr) (n2 c2 : Nat) (ys : List Int) (h1 : IntsIn w.heap.size w a1 n1 xs) (h2 : IntsIn w.heap.size w a2 n2 ys) :
    Calls Try.prog 10 #[.slice a1 n1 c1, .slice a2 n2 c2] w (RowV w (rowP maskN xs ys)) := by
  obtain ⟨i0, hi, hz0, hz1, hz2⟩ := info_parts Try.infoI64
  have hr1 := h1.room
  have HX := Lib.hid h1
  have HY := Lib.hid h2
  cases hp : pairB xs ys with
  | false =>
    rw [rowP_no _ hp]
    have HP := Lib.hid hp
    clear hp h1 h2
    go_enter Try.func10, Try.ntmps10
    go_wp2_with fail
    go_loopw [5, 6] (fun m i wr => i = .int .i64 0 ∧ Row w.heap.size wr m [] ∧ Below w.heap.size w wr) (fun _ _ _ => 0)
    case atStart => exact ⟨rfl, Row.empty w _ rfl, (Below.refl _ _).alloc (Nat.le_refl _) _⟩
    case round =>
      obtain ⟨rfl, hrow, hb⟩ := hrel
      have HR := Lib.hid hrow
      have HB := Lib.hid hb
      clear hrow hb
      by_cases hlt : 0 < n1
      · have hP := l3Pair_any wr a1 n1 c1 xs a2 n2 c2 ys ((HX.out.below HB.out (Nat.le_refl _)).le HB.out.size) ((HY.out.below HB.out (Nat.le_refl _)).le HB.out.size)
        rw [HP.out] at hP
        have HQ := Lib.hid hP
        clear hP
        go_wp2_with fail
        refine HQ.out.mono ?_
        rintro e w' ⟨rfl, rfl⟩
        go_wp2_with fail
        go_ret
        exact ⟨_, rfl, HR.out, HB.out⟩
      · have hge : ¬ (0 : Int) < (n1 : Int) := by omega
        have hdd : decide ((0 : Int) < (n1 : Int)) = false := decide_eq_false hge
        go_wp2_with fail
        go_ret
        exact ⟨_, rfl, HR.out, HB.out⟩
  | true =>
    obtain ⟨hp1, hp2, hl⟩ := pairB_has hp
    rw [rowP_yes _ hp, h1.len]
    have hnn : n1 = n2 := by rw [← h1.len, ← h2.len]; exact hl
    subst hnn
    have hn6 := (vecOkB_has hp1).2.1
    rw [h1.len] at hn6
    have HP := Lib.hid hp
    clear hp h1 h2 hp1 hp2 hl
    go_enter Try.func10, Try.ntmps10
    go_wp2_with fail
    go_loopw [5, 6] (fun m i wr => ∃ k : Nat, k ≤ n1 ∧ i = .int .i64 k ∧ Row w.heap.size wr m (rowK maskN xs ys k) ∧ Below w.heap.size w wr) (fun _ i _ => n1 - (intOf i).toNat)
    case atStart => exact ⟨0, Nat.zero_le _, rfl, Row.empty w _ rfl, (Below.refl _ _).alloc (Nat.le_refl _) _⟩
    case round =>
      obtain ⟨k, hk, rfl, hrow, hb⟩ := hrel
      have hl := rowK_length maskN xs ys k
      have HR := Lib.hid hrow
      have HB := Lib.hid hb
      clear hrow hb
      by_cases hlt : k < n1
      · obtain ⟨b, o, rfl, hbB, hcell0⟩ := HX.out.cells k hlt
        obtain ⟨b', o', rfl, hbB', hcell0'⟩ := HY.out.cells k hlt
        have hP := l3Pair_any wr _ n1 c1 xs _ n1 c2 ys ((HX.out.below HB.out (Nat.le_refl _)).le HB.out.size) ((HY.out.below HB.out (Nat.le_refl _)).le HB.out.size)
        rw [HP.out] at hP
        have HQ := Lib.hid hP
        obtain ⟨X, hX⟩ : ∃ X, X = xs.getD k 0 := ⟨_, rfl⟩
        rw [← hX] at hcell0
        have hcell := (HB.out.cell (p := ⟨b, o + k, none⟩) hbB).trans hcell0
        obtain ⟨Y, hY⟩ : ∃ Y, Y = ys.getD k 0 := ⟨_, rfl⟩
        rw [← hY] at hcell0'
        have hcell' := (HB.out.cell (p := ⟨b', o' + k, none⟩) hbB').trans hcell0'
        have e2 : rowK maskN xs ys (k + 1) = rowK maskN xs ys k ++ [maskN X Y] := by rw [rowK, ← hX, ← hY]
        obtain ⟨zs, hzs⟩ : ∃ zs, rowK maskN xs ys k = zs := ⟨_, rfl⟩
        rw [hzs] at HR e2 hl
        have hown : wr.ownsRow w.heap.size 3 1 _ _ (icells _) := HR.out
        have hsz := HB.out.size
        by_cases hx : 0 < X
        · have ht : decide (X > 0) = true := decide_eq_true hx
          rw [maskN_yes Y hx] at e2
          have E2 := Lib.hid e2
          clear hX hY hcell0 hcell0' e2 hP hzs
          go_wp2_with fail
          refine HQ.out.mono ?_
          rintro e w' ⟨rfl, rfl⟩
          go_wp2_with (at_builtin; refine wpList_append_own _ rfl _ _ 22 rfl w.heap.size 3 i0 (.int .i64 0) 1 8 Try.underlying22 hi hz0 hz1 hz2 rfl (by decide) _ _ _ rfl (hown.alloc _) ⟨wr.heap.size, 0, none⟩ 1 1 (icells [Y]) rfl rfl (cell_num_put _ _ _) (icells_one _) (by unfold maxLen; omega) (by omega) (by simp; omega) ?_; intro v' w2 hown' hgrow _)
          have hput := Row.put HR.out hsz _ hown' hgrow
          clear hown' hgrow hown
          go_wp2_with fail
          go_roundw
          case rel => exact ⟨k + 1, by omega, by go_num, by rw [E2.out]; exact hput.1, HB.out.trans hput.2⟩
          case measure => simp [intOf]; omega
        · have ht : decide (X > 0) = false := decide_eq_false hx
          rw [maskN_no Y hx] at e2
          have E2 := Lib.hid e2
          clear hX hY hcell0 hcell0' e2 hP hzs
          go_wp2_with fail
          refine HQ.out.mono ?_
          rintro e w' ⟨rfl, rfl⟩
          go_wp2_with (at_builtin; refine wpList_append_own _ rfl _ _ 22 rfl w.heap.size 3 i0 (.int .i64 0) 1 8 Try.underlying22 hi hz0 hz1 hz2 rfl (by decide) _ _ _ rfl (hown.alloc _) ⟨wr.heap.size, 0, none⟩ 1 1 (icells [0]) rfl rfl (cell_num_put _ _ _) (icells_one _) (by unfold maxLen; omega) (by omega) (by simp; omega) ?_; intro v' w2 hown' hgrow _)
          have hput := Row.put HR.out hsz _ hown' hgrow
          clear hown' hgrow hown
          go_wp2_with fail
          go_roundw
          case rel => exact ⟨k + 1, by omega, by go_num, by rw [E2.out]; exact hput.1, HB.out.trans hput.2⟩
          case measure => simp [intOf]; omega
      · obtain rfl : k = n1 := by omega
        go_wp2_with fail
        go_ret
        exact ⟨_, rfl, HR.out, HB.out⟩

end Go.Proofs.Ytdmkbmpgcpggdab
