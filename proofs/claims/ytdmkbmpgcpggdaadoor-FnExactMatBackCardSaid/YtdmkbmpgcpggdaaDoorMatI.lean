/-
  The program's functions on tables of numbers.
-/
import Derived.Test.YtdmkbmpgcpggdaaDoorChunk
import Derived.Test.YtdmkbmpgcpggdaaDoorVecI
import Derived.Test.YtdmkbmpgcpggdaaDoorMatT
namespace Go.Proofs.YtdmkbmpgcpggdaaDoor
open Go.RowKit Go.Shelf
set_option linter.unusedVariables false

set_option maxRecDepth 100000 in
set_option maxHeartbeats 1000000 in
theorem implMatOk_any (w : World) (r c : Int) (a : Option Addr) (n cp : Nat) (xs : List Int) (h : IntsIn w.heap.size w a n xs) (hcp : n ≤ cp) (hcap : cp ≤ 9223372036854775807) :
    Calls Tryd.prog 34 #[.agg #[.int .i64 r, .int .i64 c, .slice a n cp]] w fun e w' => e = .returned (.bool (matOkB r c xs)) ∧ Below w.heap.size w w' := by
  have hal : Below w.heap.size w (w.alloc (.cells #[.int .i64 r, .int .i64 c, .slice a n cp] 26 (0, 0))) := (Below.refl _ _).alloc (Nat.le_refl _) _
  have hroom := h.room
  have HX := Lib.hid ((h.below hal (Nat.le_refl _)).le hal.size)
  have HAL := Lib.hid hal
  have HR := Lib.hid (fun w => implDimOk_any r w)
  have HC := Lib.hid (fun w => implDimOk_any c w)
  have HA := Lib.hid (implAllOk_any _ a n cp xs HX.out)
  have hd : matOkB r c xs = (inB 1 6 r && inB 1 6 c && decide ((n : Int) = r * c) && xs.all okB) := by unfold matOkB; rw [h.len]
  rw [hd]
  obtain ⟨q, hq⟩ : ∃ q, xs.all okB = q := ⟨_, rfl⟩
  rw [hq] at HA ⊢
  clear hd hq h hal
  cases hi : inB 1 6 r with
  | false =>
    rw [hi] at HR
    clear hi
    go_enter Tryd.func34, Tryd.ntmps34
    go_wp2_with fail
    refine (HR.out _).mono ?_
    rintro e w' ⟨rfl, rfl⟩
    go_wp2_with fail
    go_ret
    exact ⟨rfl, HAL.out⟩
  | true =>
    cases ho : inB 1 6 c with
    | false =>
      rw [hi] at HR
      rw [ho] at HC
      clear hi ho
      go_enter Tryd.func34, Tryd.ntmps34
      go_wp2_with fail
      refine (HR.out _).mono ?_
      rintro e w' ⟨rfl, rfl⟩
      go_wp2_with fail
      refine (HC.out _).mono ?_
      rintro e w' ⟨rfl, rfl⟩
      go_wp2_with fail
      go_ret
      exact ⟨rfl, HAL.out⟩
    | true =>
      have hp := prod36 hi ho
      obtain ⟨P, hP⟩ : ∃ P, r * c = P := ⟨_, rfl⟩
      have hw : wrap64 (r * c) = P := by rw [IntWalk.wrap64_in (r * c) (by omega)]; exact hP
      rw [hi] at HR
      rw [ho] at HC
      rw [hP] at hp ⊢
      clear hi ho hP
      by_cases hn : (n : Int) = P
      · subst hn
        rw [decide_eq_true rfl]
        clear hp
        go_enter Tryd.func34, Tryd.ntmps34
        go_wp2_with fail
        refine (HR.out _).mono ?_
        rintro e w' ⟨rfl, rfl⟩
        go_wp2_with fail
        refine (HC.out _).mono ?_
        rintro e w' ⟨rfl, rfl⟩
        go_wp2_with fail
        refine HA.out.mono ?_
        rintro e w' ⟨rfl, rfl⟩
        go_wp2_with fail
        go_ret
        exact ⟨by simp, HAL.out⟩
      · have hne : ((n : Int) == P) = false := by simpa using hn
        rw [decide_eq_false hn]
        clear hn hp
        go_enter Tryd.func34, Tryd.ntmps34
        go_wp2_with fail
        refine (HR.out _).mono ?_
        rintro e w' ⟨rfl, rfl⟩
        go_wp2_with fail
        refine (HC.out _).mono ?_
        rintro e w' ⟨rfl, rfl⟩
        go_wp2_with fail
        go_ret
        exact ⟨by simp, HAL.out⟩
end Go.Proofs.YtdmkbmpgcpggdaaDoor
