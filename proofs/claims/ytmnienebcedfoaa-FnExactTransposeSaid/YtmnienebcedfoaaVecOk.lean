/-
  VecOk, of both sides.
-/
import Derived.Test.YtmnienebcedfoaaRow
import Derived.Test.YtmnienebcedfoaaVecM
import Derived.Test.YtmnienebcedfoaaSpecFix
namespace Go.Proofs.Ytmnienebcedfoaa
open Go.RowKit
set_option linter.unusedVariables false

set_option maxRecDepth 100000 in
theorem implVecOk_any (w : World) (a : Option Addr) (n c : Nat) (xs : List Int) (h : IntsIn w.heap.size w a n xs) :
    Calls Try.prog 22 #[.slice a n c] w fun e w' => e = .returned (.bool (vecOkB xs)) ∧ w = w' := by
  have hr := h.room
  have H := Lib.hid h
  clear h
  obtain ⟨d, hd⟩ : ∃ d, d = vecOkB xs := ⟨_, rfl⟩
  rw [← hd]
  have HD := Lib.hid hd
  clear hd
  by_cases h0 : n < 1
  · have hdf : d = false := by rw [HD.out]; exact vecOkB_len (by rw [H.out.len]; omega)
    subst hdf
    have h0' : decide ((n : Int) < 1) = true := decide_eq_true (by omega)
    go_enter Try.func22, Try.ntmps22
    go_wp2_with fail
    go_ret
    exact ⟨rfl, rfl⟩
  · have h0' : decide ((n : Int) < 1) = false := decide_eq_false (by omega)
    by_cases h6 : 6 < n
    · have hdf : d = false := by rw [HD.out]; exact vecOkB_len (by rw [H.out.len]; omega)
      subst hdf
      have h6' : decide ((n : Int) > 6) = true := decide_eq_true (by omega)
      go_enter Try.func22, Try.ntmps22
      go_wp2_with fail
      go_ret
      exact ⟨rfl, rfl⟩
    · have h6' : decide ((n : Int) > 6) = false := decide_eq_false (by omega)
      go_enter Try.func22, Try.ntmps22
      go_wp2_with fail
      go_loop [15] (fun i => ∃ k : Nat, k ≤ n ∧ i = .int .i64 k ∧ Hid (∀ j, j < k → okB (xs.getD j 0) = true)) (fun i => n - (intOf i).toNat)
      case atStart => exact ⟨0, Nat.zero_le _, rfl, fun j hj => absurd hj (Nat.not_lt_zero _)⟩
      case round =>
        obtain ⟨k, hk, rfl, hall⟩ := hrel
        by_cases hlt : k < n
        · obtain ⟨b, o, rfl, hbB, hcell⟩ := H.out.cells k hlt
          obtain ⟨X, hX⟩ : ∃ X, X = xs.getD k 0 := ⟨_, rfl⟩
          rw [← hX] at hcell
          have HX := Lib.hid hX
          clear hX
          obtain ⟨o', ho⟩ : ∃ o', okB X = o' := ⟨_, rfl⟩
          have HS := Lib.hid (fun w => implFixOk_any X w)
          rw [ho] at HS
          have HO := Lib.hid ho
          clear ho
          cases o'
          · have hdf : d = false := by rw [HD.out]; exact vecOkB_place (by rw [H.out.len]; exact hlt) (by rw [← HX.out]; exact HO.out)
            subst hdf
            go_wp2_with fail
            refine (HS.out _).mono ?_
            rintro e w' ⟨rfl, rfl⟩
            go_wp2_with fail
            go_ret
            exact ⟨rfl, rfl⟩
          · go_wp2_with fail
            refine (HS.out _).mono ?_
            rintro e w' ⟨rfl, rfl⟩
            go_wp2_with fail
            go_round
            case rel =>
              refine ⟨k + 1, by omega, by go_num, show Hid _ from fun j hj => ?_⟩
              by_cases e : j = k
              · subst e; rw [← HX.out]; exact HO.out
              · exact hall.out j (by omega)
            case measure => simp [intOf]; omega
        · have hkn : k = n := by omega
          subst hkn
          have hdt : d = true := by
            rw [HD.out]
            have hl := H.out.len
            exact vecOkB_yes (by omega) (by omega) (fun j hj => hall.out j (by omega))
          subst hdt
          go_wp2_with fail
          go_ret
          exact ⟨rfl, rfl⟩

end Go.Proofs.Ytmnienebcedfoaa
