/-
  The contract of spec.Dec.
-/
import Derived.Test.YtikjhpljaanakaaDoorProg
import Derived.Test.YtikjhpljaanakaaDoorBytes
import Derived.Test.YtikjhpljaanakaaDoorDecM
import Derived.Lib.Hide
import Derived.WalkSpells
import Derived.WalkLawsBesides
namespace Go.Proofs.YtikjhpljaanakaaDoor
open Go.RowKit
set_option linter.unusedVariables false

set_option maxRecDepth 100000 in
theorem specDec_zero (w : World) :
    Calls Tryd.prog 10 #[.int .i64 0] w fun e w' => e = .returned (.string ⟨(Lib.itoa 0).toArray⟩) ∧ Below w.heap.size w w' := by
  have e : Lib.itoa 0 = [48] := by simp [Lib.itoa, Lib.decDigits]
  rw [e]
  go_enter Tryd.func10, Tryd.ntmps10
  go_wp2
  go_ret
  exact ⟨rfl, Below.refl _ _⟩

set_option maxRecDepth 100000 in
theorem specDec_pos (U : Nat) (w : World) (h0 : 0 < U) (h1 : U ≤ 9223372036854775807) :
    Calls Tryd.prog 10 #[.int .i64 U] w fun e w' => e = .returned (.string ⟨(Lib.itoa U).toArray⟩) ∧ Below w.heap.size w w' := by
  have e : Lib.itoa U = preD U := by simp only [Lib.itoa, preD]; rw [if_neg (by omega), if_neg (by omega)]; simp
  have hl : (preD U).length ≤ 20 := by rw [preD_pos (by omega)]; exact decDigits_len20 (by omega)
  rw [e]
  have HL := Lib.hid hl
  clear e hl
  have hb0 : ((U : Int) == 0) = false := by simp; omega
  go_enter Tryd.func10, Tryd.ntmps10
  go_wp2
  clear hb0
  go_loopw [0, 3] (fun n v wr => ∃ (u : Nat) (xs : List UInt8), u ≤ U ∧ xs.length ≤ 20 ∧ Hid (preD u ++ xs = preD U) ∧ n = .int .i64 u ∧ v = .string ⟨xs.toArray⟩ ∧ Below w.heap.size w wr)
    (fun n _ _ => (intOf n).toNat)
  case atStart => exact ⟨U, [], Nat.le_refl _, by simp, Lib.hid (by simp), rfl, rfl, Below.refl _ _⟩
  case round =>
    obtain ⟨u, xs, hu, hx20, hx, rfl, rfl, hbl⟩ := hrel
    have hsz := hbl.size
    by_cases hlt : u = 0
    · subst hlt
      go_wp2
      go_ret
      exact ⟨by rw [← hx.out]; rfl, hbl⟩
    · have hb0 : ((u : Int) == 0) = false := by simpa using hlt
      have hb1 : ((u : Int) != 0) = true := by simpa using hlt
      obtain ⟨c, hc⟩ : ∃ c, c = UInt8.ofNat (48 + u % 10) := ⟨_, rfl⟩
      have HX : Hid (preD (u / 10) ++ c :: xs = preD U) := Lib.hid (by rw [← hx.out, preD_step hlt, hc]; simp)
      have hx19 : xs.length + 1 ≤ 20 := by
        have h1 := congrArg List.length HX.out
        have h2 := HL.out
        rw [List.length_append, List.length_cons] at h1
        omega
      have hcv := conv_one (P := Tryd.prog) wr 38 9 5 Tryd.underlying38 Tryd.underlying5 Tryd.underlying9 (48 + (u : Int) % 10) c (by rw [hc, u8_ofNat_toNat _ (by omega)]; omega)
      clear hc
      go_wp2
      refine ⟨⟨u / 10, c :: xs, by omega, by simpa using hx19, HX, by go_num, ?_, hbl.alloc hsz _⟩, by simp [intOf]; omega⟩
      exact congrArg Value.string (bytes_append [c] xs)

set_option maxRecDepth 100000 in
theorem specDec_neg (U : Nat) (w : World) (h0 : 0 < U) (h1 : U ≤ 9223372036854775808) :
    Calls Tryd.prog 10 #[.int .i64 (-(U : Int))] w fun e w' => e = .returned (.string ⟨(Lib.itoa (-(U : Int))).toArray⟩) ∧ Below w.heap.size w w' := by
  have e : Lib.itoa (-(U : Int)) = 45 :: preD U := by simp only [Lib.itoa, preD]; rw [if_pos (by omega), if_neg (by omega)]; simp
  have hl : (preD U).length ≤ 20 := by rw [preD_pos (by omega)]; exact decDigits_len20 (by omega)
  rw [e]
  have HL := Lib.hid hl
  clear e hl
  obtain ⟨Z, hZ⟩ : ∃ Z : Int, Z = -(U : Int) := ⟨_, rfl⟩
  rw [← hZ]
  have HZ := Lib.hid hZ
  have z0 : Z < 0 := by omega
  have z1 : -9223372036854775808 ≤ Z := by omega
  clear hZ
  have hb0 : (Z == 0) = false := by simp; omega
  go_enter Tryd.func10, Tryd.ntmps10
  go_wp2
  clear hb0
  go_loopw [0, 3] (fun n v wr => ∃ (u : Nat) (z : Int) (xs : List UInt8), Hid (z = -(u : Int)) ∧ u ≤ U ∧ z ≤ 0 ∧ -9223372036854775808 ≤ z ∧ xs.length ≤ 20 ∧ Hid (preD u ++ xs = preD U) ∧ n = .int .i64 z ∧ v = .string ⟨xs.toArray⟩ ∧ Below w.heap.size w wr)
    (fun n _ _ => (-(intOf n)).toNat)
  case atStart => exact ⟨U, Z, [], HZ, Nat.le_refl _, by omega, z1, by simp, Lib.hid (by simp), rfl, rfl, Below.refl _ _⟩
  case round =>
    obtain ⟨u, z, xs, hzu, hu, hz0, hz1, hx20, hx, rfl, rfl, hbl⟩ := hrel
    have hsz := hbl.size
    by_cases hlt : u = 0
    · have hzz : z = 0 := by rw [hzu.out, hlt]; rfl
      subst hzz
      subst hlt
      go_wp2
      go_ret
      refine ⟨?_, hbl⟩
      have hb := bytes_append [45] xs
      rw [← hx.out]
      exact congrArg (fun b => Ending.returned (Value.string b)) hb
    · have hz9 : z < 0 := by have := hzu.out; omega
      have hb1 : (z != 0) = true := by simp; omega
      obtain ⟨c, hc⟩ : ∃ c, c = UInt8.ofNat (48 + u % 10) := ⟨_, rfl⟩
      have HX : Hid (preD (u / 10) ++ c :: xs = preD U) := Lib.hid (by rw [← hx.out, preD_step hlt, hc]; simp)
      have hx19 : xs.length + 1 ≤ 20 := by
        have h1 := congrArg List.length HX.out
        have h2 := HL.out
        rw [List.length_append, List.length_cons] at h1
        omega
      obtain ⟨D, ht, hD⟩ : ∃ D, z.tmod 10 = D ∧ D = -((u % 10 : Nat) : Int) := ⟨_, rfl, by rw [hzu.out, Int.neg_tmod]; rfl⟩
      obtain ⟨Q, hq, hQ⟩ : ∃ Q, z.tdiv 10 = Q ∧ Q = -((u / 10 : Nat) : Int) := ⟨_, rfl, by rw [hzu.out, Int.neg_tdiv]; rfl⟩
      have hD0 : D ≤ 0 := by omega
      have hD9 : -9 ≤ D := by omega
      have hQ0 : Q ≤ 0 := by omega
      have hQ9 : -9223372036854775808 ≤ Q := by omega
      have HQ := Lib.hid hQ
      have HD := Lib.hid hD
      have hcx : ((c.toNat : Nat) : Int) = 48 + -D := by rw [hc, u8_ofNat_toNat _ (by omega)]; omega
      have HCX := Lib.hid hcx
      clear hQ hD hc hcx
      by_cases hd : D < 0
      · have hcv := conv_one (P := Tryd.prog) wr 38 9 5 Tryd.underlying38 Tryd.underlying5 Tryd.underlying9 (48 + -D) c HCX.out.symm
        go_wp2
        refine ⟨⟨u / 10, Q, c :: xs, HQ, by omega, hQ0, hQ9, by simpa using hx19, HX, rfl, ?_, hbl.alloc hsz _⟩, ?_⟩
        · exact congrArg Value.string (bytes_append [c] xs)
        · have := HQ.out; have := hzu.out; simp [intOf]; omega
      · have hcv := conv_one (P := Tryd.prog) wr 38 9 5 Tryd.underlying38 Tryd.underlying5 Tryd.underlying9 (48 + D) c (by have := HCX.out; omega)
        go_wp2
        refine ⟨⟨u / 10, Q, c :: xs, HQ, by omega, hQ0, hQ9, by simpa using hx19, HX, rfl, ?_, hbl.alloc hsz _⟩, ?_⟩
        · exact congrArg Value.string (bytes_append [c] xs)
        · have := HQ.out; have := hzu.out; simp [intOf]; omega

theorem specDec_any (n : Int) (w : World) (h0 : -9223372036854775808 ≤ n) (h1 : n ≤ 9223372036854775807) :
    Calls Tryd.prog 10 #[.int .i64 n] w fun e w' => e = .returned (.string ⟨(Lib.itoa n).toArray⟩) ∧ Below w.heap.size w w' := by
  rcases Int.lt_trichotomy n 0 with h | h | h
  · have e : n = -((n.natAbs : Nat) : Int) := by omega
    rw [e]
    exact specDec_neg n.natAbs w (by omega) (by omega)
  · subst h
    exact specDec_zero w
  · have e : n = ((n.toNat : Nat) : Int) := by omega
    rw [e]
    exact specDec_pos n.toNat w (by omega) (by omega)
end Go.Proofs.YtikjhpljaanakaaDoor
