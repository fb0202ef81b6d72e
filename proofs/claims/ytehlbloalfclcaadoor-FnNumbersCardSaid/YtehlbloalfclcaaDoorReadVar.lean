/-
  The contracts of spec.ReadVar and impl.ReadVar.
-/
import Derived.Test.YtehlbloalfclcaaDoorProg
import Derived.Test.YtehlbloalfclcaaDoorBytes
import Derived.Test.YtehlbloalfclcaaDoorReadVarM
import Derived.Test.YtehlbloalfclcaaDoorVar
import Derived.Test.YtehlbloalfclcaaDoorReadFixed
import Derived.Lib.Hide
import Derived.WalkSpells
import Derived.WalkLawsBesides
import Derived.Deep.RegionWith
import Derived.Lib.Strings
namespace Go.Proofs.YtehlbloalfclcaaDoor
open Go.RowKit
set_option linter.unusedVariables false

/-- What ReadVar tells. -/
def rvN (s : ByteArray) : Int := match rvO s.data.toList 7 with | some (n, _) => n | none => 0
def rvK (s : ByteArray) : Int := match rvO s.data.toList 7 with | some (_, k) => k | none => 0
theorem rv_some {s : ByteArray} {n k : Nat} (h : rvO s.data.toList 7 = some (n, k)) : rvN s = n ∧ rvK s = k := by simp [rvN, rvK, h]
theorem rv_none {s : ByteArray} (h : rvO s.data.toList 7 = none) : rvN s = 0 ∧ rvK s = 0 := by simp [rvN, rvK, h]
theorem i64_join' (i : Nat) (hi : i ≤ 62) (x y : Int) (hy0 : 0 ≤ y) (hy : y % 2 ^ i = 0) (hy1 : y < 4611686018427387904) (hx0 : 0 ≤ x) (hx : x < 2 ^ i) : bits .or .i64 x y = x + y := by
  have hc : bits .or .i64 x y = bits .or .i64 y x := by simp only [bits, BitVec.or_comm]
  rw [hc, i64_join i hi y x hy0 hy hy1 hx0 hx, Int.add_comm]
theorem loN_le {l : List UInt8} {k : Nat} (h : k ≤ 7) : loN l k ≤ 562949953421311 := by
  have h1 := loN_lt l k
  have h2 : 128 ^ k ≤ 128 ^ 7 := Nat.pow_le_pow_right (by omega) h
  have h3 : 128 ^ 7 = 562949953421312 := by decide
  omega

theorem pow7 (k : Nat) : 2 ^ (7 * k) = 128 ^ k := by rw [Nat.pow_mul]
theorem or_step (m D k : Nat) (hk : k < 7) (hm : m < 128 ^ k) : bits .or .i64 (m : Int) (wrap64 ((D : Int) % 128 * 2 ^ (7 * k))) = ((m + D % 128 * 128 ^ k : Nat) : Int) := by
  have hp : (2 : Int) ^ (7 * k) = ((128 ^ k : Nat) : Int) := by rw [← pow7]; simp
  have h2 : 128 ^ k ≤ 128 ^ 6 := Nat.pow_le_pow_right (by omega) (by omega)
  have h3 : 128 ^ 6 = 4398046511104 := by decide
  have hx : D % 128 * 128 ^ k < 128 * 4398046511104 := Nat.mul_lt_mul_of_lt_of_le (Nat.mod_lt _ (by omega)) (by omega) (by omega)
  have e : (D : Int) % 128 * 2 ^ (7 * k) = ((D % 128 * 128 ^ k : Nat) : Int) := by rw [hp]; push_cast; rfl
  rw [e, IntWalk.wrap64_in _ (by omega), i64_join' (7 * k) (by omega) _ _ (by omega) ?_ (by omega) (by omega) ?_]
  · push_cast; rfl
  · rw [hp, ← Int.natCast_emod, Nat.mul_mod_left]; rfl
  · rw [hp]; omega
theorem getD_lt128 {s : ByteArray} {k : Nat} (h : k < s.size) : (s.data.toList.getD k 0).toNat = s[k].toNat := by rw [str_getD s k h]

set_option maxRecDepth 100000 in
theorem implReadVar_any (s : ByteArray) (w : World) (hs : s.size ≤ 9223372036854775807) :
    Calls Tryd.prog 10 #[.string s] w fun e w' => e = .returned (.tuple #[.int .i64 (rvN s), .int .i64 (rvK s)]) ∧ w = w' := by
  go_enter Tryd.func10, Tryd.ntmps10
  go_wp2
  go_loop [4, 5] (fun n i => ∃ k m : Nat, k ≤ s.size ∧ k ≤ 7 ∧ Hid (m = loN s.data.toList k) ∧ Hid (∀ j, j < k → 128 ≤ (s.data.toList.getD j 0).toNat) ∧ n = .int .i64 m ∧ i = .int .i64 k) (fun _ i => 7 - (intOf i).toNat)
  case atStart => exact ⟨0, 0, Nat.zero_le _, Nat.zero_le _, Lib.hid (by simp [loN]), Lib.hid (fun j hj => by omega), rfl, rfl⟩
  case round =>
    obtain ⟨k, m, hk, hk7, hm, hb, rfl, rfl⟩ := hrel
    by_cases hlt : k < s.size
    · by_cases hlt7 : k < 7
      · have hb8 : (s[k].toNat : Int) < 256 := by have := s[k].toNat_lt; omega
        have hll : k < s.data.toList.length := by simpa using hlt
        have HO := Lib.hid (or_step m s[k].toNat k hlt7 (by rw [hm.out]; exact loN_lt _ _))
        have HS : Hid (loN s.data.toList (k + 1) = m + s[k].toNat % 128 * 128 ^ k) := Lib.hid (by rw [loN_snoc _ _ hll, getD_lt128 hlt, hm.out])
        have HA := Lib.hid (fun h => rvO_at (l := s.data.toList) (i := k) (f := 7) hll hlt7 hb.out h)
        rw [getD_lt128 hlt] at HA
        by_cases h128 : 128 ≤ s[k].toNat
        · go_wp2
          go_round
          case rel =>
            refine ⟨k + 1, m + s[k].toNat % 128 * 128 ^ k, by omega, by omega, Lib.hid HS.out.symm, Lib.hid ?_, by rw [HO.out], by go_num⟩
            intro j hj
            by_cases hjk : j = k
            · subst hjk; rw [getD_lt128 hlt]; exact h128
            · exact hb.out j (by omega)
          case measure => simp [intOf]; omega
        · have HA1 := Lib.hid (HA.out (by omega))
          by_cases hz : s[k].toNat = 0
          · by_cases hk0 : 0 < k
            · have HR := Lib.hid (rv_none (s := s) (by rw [HA1.out, if_pos ⟨hz, hk0⟩]))
              clear HA HA1
              go_wp2
              go_ret2
              exact ⟨by rw [HR.out.1, HR.out.2]; rfl, rfl⟩
            · obtain rfl : k = 0 := by omega
              obtain rfl : m = 0 := by simpa [loN] using hm.out
              have HR := Lib.hid (rv_some (s := s) (by rw [HA1.out, if_neg (by omega)]))
              rw [HS.out, hz] at HR
              clear HA HA1 HS HO hb hm
              go_wp2
              go_ret2
              exact ⟨by rw [HR.out.1, HR.out.2]; rfl, rfl⟩
          · have HR := Lib.hid (rv_some (s := s) (by rw [HA1.out, if_neg (by omega)]))
            rw [HS.out] at HR
            clear HA HA1 HS
            go_wp2
            go_ret2
            refine ⟨?_, rfl⟩
            rw [HR.out.1, HR.out.2]
            show Ending.returned (.tuple #[.int .i64 (bits .or .i64 (m : Int) (wrap64 ((s[k].toNat : Int) % 128 * 2 ^ (7 * k)))), .int .i64 ((k : Int) + 1)]) = _
            rw [HO.out]
            rfl
      · have HR := Lib.hid (rv_none (s := s) (rvO_none fun j hj _ => hb.out j (by omega)))
        have hd : decide ((k : Int) < 7) = false := by simp; omega
        go_wp2
        go_ret2
        exact ⟨by rw [HR.out.1, HR.out.2]; rfl, rfl⟩
    · have hll : s.data.toList.length = s.size := by simp
      have HR := Lib.hid (rv_none (s := s) (rvO_none fun j hj hjl => hb.out j (by omega)))
      clear hll
      go_wp2
      go_ret2
      exact ⟨by rw [HR.out.1, HR.out.2]; rfl, rfl⟩

theorem loN_drop (l : List UInt8) (j c : Nat) (h : j < l.length) : loN (l.drop j) (c + 1) = (l.getD j 0).toNat % 128 + 128 * loN (l.drop (j + 1)) c := by
  rw [List.drop_eq_getElem_cons h, loN]
  simp [List.getD, h]

end Go.Proofs.YtehlbloalfclcaaDoor
