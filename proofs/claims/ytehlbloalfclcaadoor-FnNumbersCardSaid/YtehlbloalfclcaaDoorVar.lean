/-
  The contracts of spec.Var and impl.Var.
-/
import Derived.Test.YtehlbloalfclcaaDoorProg
import Derived.Test.YtehlbloalfclcaaDoorBytes
import Derived.Test.YtehlbloalfclcaaDoorVarM
import Derived.Test.YtehlbloalfclcaaDoorPut
import Derived.Test.YtehlbloalfclcaaDoorFixed
import Derived.Lib.Hide
import Derived.WalkSpells
import Derived.WalkLawsBesides
namespace Go.Proofs.YtehlbloalfclcaaDoor
open Go.RowKit
set_option linter.unusedVariables false

set_option maxRecDepth 100000 in
theorem implVar_yes (N : Nat) (w : World) (hN : N ≤ 562949953421311) :
    Calls Tryd.prog 9 #[.int .i64 N] w fun e w' => e = .returned (.string ⟨(varL N).toArray⟩) ∧ Below w.heap.size w w' := by
  have hd1 : decide ((N : Int) < 0) = false := by simp
  have hd2 : decide (562949953421311 < (N : Int)) = false := by simp; omega
  have hl7 := varL_len7 hN
  go_enter Tryd.func9, Tryd.ntmps9
  go_wp2
  clear hd1 hd2
  have HL7 := Lib.hid hl7
  clear hl7
  go_loopw [0, 3] (fun n v wr => ∃ (m k : Nat) (xs : List UInt8), m ≤ N ∧ xs.length = k ∧ Hid (xs ++ varL m = varL N) ∧ n = .int .i64 m ∧ wr.ownsRow w.heap.size 5 1 v k (bcells xs) ∧ Below w.heap.size w wr)
    (fun n _ _ => (intOf n).toNat)
  case atStart => exact ⟨N, 0, [], Nat.le_refl _, rfl, Lib.hid (by simp), rfl, World.ownsRow_nil _ _ _ _, Below.refl _ _⟩
  case round =>
    obtain ⟨m, k, xs, hmN, hk, hx, rfl, hown, hbl⟩ := hrel
    have hsz := hbl.size
    have hk7 : k ≤ 7 := by
      have h1 := congrArg List.length hx.out
      rw [List.length_append] at h1
      have := HL7.out
      omega
    have HK := Lib.hid hk
    clear hk
    by_cases hlt : 128 ≤ m
    · have HB : Hid (((m : Int) % 128 + 128) = ((UInt8.ofNat (128 + m % 128)).toNat : Int)) := Lib.hid (by rw [u8_ofNat_toNat _ (by omega)]; omega)
      have HX : Hid ((xs ++ [UInt8.ofNat (128 + m % 128)]) ++ varL (m / 128) = varL N) := Lib.hid (by rw [← hx.out, varL_big (n := m) (by omega)]; simp)
      go_wp2_with (go_at_call 23; refine (put_own w.heap.size wr.heap.size 1 1 k _ xs [UInt8.ofNat (128 + m % 128)] _ (hown.alloc _) (by simp; omega) (by simp) rfl Nat.one_pos (by omega) (cell_one_put _ _ _ _ HB.out)).mono ?_; rintro e w' ⟨v', rfl, ho, hb2⟩)
      go_roundw
      case rel => exact ⟨m / 128, k + 1, _, by omega, by rw [List.length_append, HK.out]; rfl, HX, by go_num, ho, (hbl.alloc hsz _).trans hb2⟩
      case measure => simp [intOf]; omega
    · have HB : Hid ((m : Int) = ((UInt8.ofNat m).toNat : Int)) := Lib.hid (by rw [u8_ofNat_toNat _ (by omega)])
      have HX : Hid (xs ++ [UInt8.ofNat m] = varL N) := Lib.hid (by rw [← hx.out, varL_small (n := m) (by omega)])
      go_wp2_with (go_at_call 23; refine (put_own w.heap.size wr.heap.size 1 1 k _ xs [UInt8.ofNat m] _ (hown.alloc _) (by simp; omega) (by simp) rfl Nat.one_pos (by omega) (cell_one_put _ _ _ _ HB.out)).mono ?_; rintro e w' ⟨v', rfl, ho, hb2⟩; have hcv := own_string (P := Tryd.prog) 22 9 Tryd.underlying22 Tryd.underlying5 Tryd.underlying9 ho)
      go_ret
      exact ⟨by rw [← HX.out]; rfl, (hbl.alloc hsz _).trans hb2⟩

set_option maxRecDepth 100000 in
theorem implVar_no (n : Int) (w : World) (h : n < 0 ∨ 562949953421311 < n) :
    Calls Tryd.prog 9 #[.int .i64 n] w fun e w' => e = .returned (.string ByteArray.empty) ∧ w = w' := by
  by_cases h1 : n < 0
  · clear h
    go_enter Tryd.func9, Tryd.ntmps9
    go_wp2
    go_ret
    exact ⟨rfl, rfl⟩
  · have h2 : 562949953421311 < n := by omega
    clear h
    go_enter Tryd.func9, Tryd.ntmps9
    go_wp2
    go_ret
    exact ⟨rfl, rfl⟩
set_option maxRecDepth 100000 in
theorem specVar_no (n : Int) (w : World) (h : n < 0 ∨ 562949953421311 < n) :
    Calls Tryd.prog 29 #[.int .i64 n] w fun e w' => e = .returned (.string ByteArray.empty) ∧ w = w' := by
  go_enter Tryd.func29, Tryd.ntmps29
  go_wp2_with (go_at_call 40; refine (l1In_no _ _ _ _ h).mono ?_; rintro e w' ⟨rfl, rfl⟩)
  go_ret
  exact ⟨rfl, rfl⟩

set_option maxRecDepth 100000 in
theorem specVar_yes (N : Nat) (w : World) (hN : N ≤ 562949953421311) :
    Calls Tryd.prog 29 #[.int .i64 N] w fun e w' => e = .returned (.string ⟨(varL N).toArray⟩) ∧ Below w.heap.size w w' := by
  obtain ⟨i0, hi, hz0, hz1, hz2⟩ := info_parts Tryd.infoU8
  have hl7 := Lib.hid (varL_len7 hN)
  have hN' : (N : Int) ≤ 562949953421311 := by omega
  go_enter Tryd.func29, Tryd.ntmps29
  go_wp2_with (go_at_call 40; refine (l1In_yes _ _ _ _ (by omega) hN').mono ?_; rintro e w' ⟨rfl, rfl⟩)
  go_loopw [0, 3] (fun n v wr => ∃ (m k : Nat) (xs : List UInt8), m ≤ N ∧ xs.length = k ∧ Hid (xs ++ varL m = varL N) ∧ n = .int .i64 m ∧ wr.ownsRow w.heap.size 5 1 v k (bcells xs) ∧ Below w.heap.size w wr)
    (fun n _ _ => (intOf n).toNat)
  case atStart => exact ⟨N, 0, [], Nat.le_refl _, rfl, Lib.hid (by simp), rfl, World.ownsRow_made w #[] 0 (Nat.le_refl _) (by unfold maxLen; omega) rfl, (Below.refl _ _).alloc (Nat.le_refl _) _⟩
  case round =>
    obtain ⟨m, k, xs, hmN, hk, hx, rfl, hown, hbl⟩ := hrel
    have hsz := hbl.size
    have hk7 : k ≤ 7 := by
      have h1 := congrArg List.length hx.out
      rw [List.length_append] at h1
      have := hl7.out
      omega
    have HK := Lib.hid hk
    clear hk
    by_cases hlt : 128 ≤ m
    · have HB : Hid ((128 + (m : Int) % 128) = ((UInt8.ofNat (128 + m % 128)).toNat : Int)) := Lib.hid (by rw [u8_ofNat_toNat _ (by omega)]; omega)
      have HX : Hid ((xs ++ [UInt8.ofNat (128 + m % 128)]) ++ varL (m / 128) = varL N) := Lib.hid (by rw [← hx.out, varL_big (n := m) (by omega)]; simp)
      go_wp2_with (at_builtin; refine wpList_append_own _ rfl _ _ 22 rfl w.heap.size 5 i0 (.int .u8 0) 1 1 Tryd.underlying22 hi hz0 hz1 hz2 rfl (by decide) _ _ _ rfl (hown.alloc _) ⟨wr.heap.size, 0, none⟩ 1 1 (bcells [UInt8.ofNat (128 + m % 128)]) rfl rfl (fun j u hu => by rw [Addr.add_lit, Nat.zero_add]; exact cell_one_put _ _ _ _ HB.out j u hu) (bcells_one _) (by unfold maxLen; omega) (by omega) (by simp; omega) ?_; intro v' w1 hown' hgrow _)
      go_roundw
      case rel => exact ⟨m / 128, k + 1, _, by omega, by rw [List.length_append, HK.out]; rfl, HX, by go_num, by rw [bcells_append]; exact hown', (hbl.alloc hsz _).grown hgrow (by simp; omega) (fun q hq => (hown.lt q hq).1)⟩
      case measure => simp [intOf]; omega
    · have HB : Hid ((m : Int) = ((UInt8.ofNat m).toNat : Int)) := Lib.hid (by rw [u8_ofNat_toNat _ (by omega)])
      have HX : Hid (xs ++ [UInt8.ofNat m] = varL N) := Lib.hid (by rw [← hx.out, varL_small (n := m) (by omega)])
      go_wp2_with (at_builtin; refine wpList_append_own _ rfl _ _ 22 rfl w.heap.size 5 i0 (.int .u8 0) 1 1 Tryd.underlying22 hi hz0 hz1 hz2 rfl (by decide) _ _ _ rfl (hown.alloc _) ⟨wr.heap.size, 0, none⟩ 1 1 (bcells [UInt8.ofNat m]) rfl rfl (fun j u hu => by rw [Addr.add_lit, Nat.zero_add]; exact cell_one_put _ _ _ _ HB.out j u hu) (bcells_one _) (by unfold maxLen; omega) (by omega) (by simp; omega) ?_; intro v' w1 hown' hgrow _; rw [← bcells_append] at hown'; have hcv := own_string (P := Tryd.prog) 22 9 Tryd.underlying22 Tryd.underlying5 Tryd.underlying9 hown')
      go_ret
      exact ⟨by rw [← HX.out]; rfl, (hbl.alloc hsz _).grown hgrow (by simp; omega) (fun q hq => (hown.lt q hq).1)⟩

/-- What Var tells. -/
def varI (n : Int) : ByteArray := if 0 ≤ n ∧ n ≤ 562949953421311 then ⟨(varL n.toNat).toArray⟩ else ByteArray.empty
theorem specVar_any (n : Int) (w : World) :
    Calls Tryd.prog 29 #[.int .i64 n] w fun e w' => e = .returned (.string (varI n)) ∧ Below w.heap.size w w' := by
  by_cases h : 0 ≤ n ∧ n ≤ 562949953421311
  · rw [varI, if_pos h]
    have h2 : n = (n.toNat : Int) := by omega
    generalize n.toNat = N at *
    subst h2
    exact specVar_yes N w (by omega)
  · rw [varI, if_neg h]
    exact (specVar_no n w (by omega)).mono fun e w' ⟨he, hw⟩ => ⟨he, hw ▸ Below.refl _ _⟩
theorem implVar_any (n : Int) (w : World) :
    Calls Tryd.prog 9 #[.int .i64 n] w fun e w' => e = .returned (.string (varI n)) ∧ Below w.heap.size w w' := by
  by_cases h : 0 ≤ n ∧ n ≤ 562949953421311
  · rw [varI, if_pos h]
    have h2 : n = (n.toNat : Int) := by omega
    generalize n.toNat = N at *
    subst h2
    exact implVar_yes N w (by omega)
  · rw [varI, if_neg h]
    exact (implVar_no n w (by omega)).mono fun e w' ⟨he, hw⟩ => ⟨he, hw ▸ Below.refl _ _⟩

end Go.Proofs.YtehlbloalfclcaaDoor
