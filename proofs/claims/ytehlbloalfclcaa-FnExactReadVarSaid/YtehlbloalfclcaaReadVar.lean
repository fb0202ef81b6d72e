/-
  The contracts of spec.ReadVar and impl.ReadVar.
-/
import Derived.Test.YtehlbloalfclcaaProg
import Derived.Test.YtehlbloalfclcaaBytes
import Derived.Test.YtehlbloalfclcaaReadVarM
import Derived.Test.YtehlbloalfclcaaVar
import Derived.Test.YtehlbloalfclcaaReadFixed
import Derived.Lib.Hide
import Derived.WalkSpells
import Derived.WalkLawsBesides
import Derived.Deep.RegionWith
import Derived.Lib.Strings
namespace Go.Proofs.Ytehlbloalfclcaa
open Go.RowKit
set_option linter.unusedVariables false

/-- What ReadVar tells. -/
def rvN (s : ByteArray) : Int := match rvO s.data.toList 7 with | some (n, _) => n | none => 0
def rvK (s : ByteArray) : Int := match rvO s.data.toList 7 with | some (_, k) => k | none => 0
theorem rv_some {s : ByteArray} {n k : Nat} (h : rvO s.data.toList 7 = some (n, k)) : rvN s = n ∧ rvK s = k := by simp [rvN, rvK, h]
theorem rv_none {s : ByteArray} (h : rvO s.data.toList 7 = none) : rvN s = 0 ∧ rvK s = 0 := by simp [rvN, rvK, h]
theorem i64_join' (i : Nat) (hi : i ≤ 62) (x y : Int) (hy0 : 0 ≤ y) (hy : y % 2 ^ i = 0) (hy1 : y < 4611686018427387904) (hx0 : 0 ≤ x) (hx : x < 2 ^ i) : bits .or .i64 x y = x + y := by
  have hc : bits .or .i64 x y = bits .or .i64 y x := by simp only [bits, BitVec.or_comm]
  rw [hc, i64_join i hi y x hy0 hy hy1 hx0 hx, Int.add_comm]
theorem loN_le {l : List UInt8} {k : Nat} (h : k ≤ 7) : loN l k ≤ 562949953421311 := by
  have h1 := loN_lt l k
  have h2 : 128 ^ k ≤ 128 ^ 7 := Nat.pow_le_pow_right (by omega) h
  have h3 : 128 ^ 7 = 562949953421312 := by decide
  omega

theorem pow7 (k : Nat) : 2 ^ (7 * k) = 128 ^ k := by rw [Nat.pow_mul]
theorem or_step (m D k : Nat) (hk : k < 7) (hm : m < 128 ^ k) : bits .or .i64 (m : Int) (wrap64 ((D : Int) % 128 * 2 ^ (7 * k))) = ((m + D % 128 * 128 ^ k : Nat) : Int) := by
  have hp : (2 : Int) ^ (7 * k) = ((128 ^ k : Nat) : Int) := by rw [← pow7]; simp
  have h2 : 128 ^ k ≤ 128 ^ 6 := Nat.pow_le_pow_right (by omega) (by omega)
  have h3 : 128 ^ 6 = 4398046511104 := by decide
  have hx : D % 128 * 128 ^ k < 128 * 4398046511104 := Nat.mul_lt_mul_of_lt_of_le (Nat.mod_lt _ (by omega)) (by omega) (by omega)
  have e : (D : Int) % 128 * 2 ^ (7 * k) = ((D % 128 * 128 ^ k : Nat) : Int) := by rw [hp]; push_cast; rfl
  rw [e, IntWalk.wrap64_in _ (by omega), i64_join' (7 * k) (by omega) _ _ (by omega) ?_ (by omega) (by omega) ?_]
  · push_cast; rfl
  · rw [hp, ← Int.natCast_emod, Nat.mul_mod_left]; rfl
  · rw [hp]; omega
theorem getD_lt128 {s : ByteArray} {k : Nat} (h : k < s.size) : (s.data.toList.getD k 0).toNat = s[k].toNat := by rw [str_getD s k h]

set_option maxRecDepth 100000 in
theorem implReadVar_any (s : ByteArray) (w : World) (hs : s.size ≤ 9223372036854775807) :
    Calls Try.prog 16 #[.string s] w fun e w' => e = .returned (.tuple #[.int .i64 (rvN s), .int .i64 (rvK s)]) ∧ w = w' := by
  go_enter Try.func16, Try.ntmps16
  go_wp2
  go_loop [4, 5] (fun n i => ∃ k m : Nat, k ≤ s.size ∧ k ≤ 7 ∧ Hid (m = loN s.data.toList k) ∧ Hid (∀ j, j < k → 128 ≤ (s.data.toList.getD j 0).toNat) ∧ n = .int .i64 m ∧ i = .int .i64 k) (fun _ i => 7 - (intOf i).toNat)
  case atStart => exact ⟨0, 0, Nat.zero_le _, Nat.zero_le _, Lib.hid (by simp [loN]), Lib.hid (fun j hj => by omega), rfl, rfl⟩
  case round =>
    obtain ⟨k, m, hk, hk7, hm, hb, rfl, rfl⟩ := hrel
    by_cases hlt : k < s.size
    · by_cases hlt7 : k < 7
      · have hb8 : (s[k].toNat : Int) < 256 := by have := s[k].toNat_lt; omega
        have hll : k < s.data.toList.length := by simpa using hlt
        have HO := Lib.hid (or_step m s[k].toNat k hlt7 (by rw [hm.out]; exact loN_lt _ _))
        have HS : Hid (loN s.data.toList (k + 1) = m + s[k].toNat % 128 * 128 ^ k) := Lib.hid (by rw [loN_snoc _ _ hll, getD_lt128 hlt, hm.out])
        have HA := Lib.hid (fun h => rvO_at (l := s.data.toList) (i := k) (f := 7) hll hlt7 hb.out h)
        rw [getD_lt128 hlt] at HA
        by_cases h128 : 128 ≤ s[k].toNat
        · go_wp2
          go_round
          case rel =>
            refine ⟨k + 1, m + s[k].toNat % 128 * 128 ^ k, by omega, by omega, Lib.hid HS.out.symm, Lib.hid ?_, by rw [HO.out], by go_num⟩
            intro j hj
            by_cases hjk : j = k
            · subst hjk; rw [getD_lt128 hlt]; exact h128
            · exact hb.out j (by omega)
          case measure => simp [intOf]; omega
        · have HA1 := Lib.hid (HA.out (by omega))
          by_cases hz : s[k].toNat = 0
          · by_cases hk0 : 0 < k
            · have HR := Lib.hid (rv_none (s := s) (by rw [HA1.out, if_pos ⟨hz, hk0⟩]))
              clear HA HA1
              go_wp2
              go_ret2
              exact ⟨by rw [HR.out.1, HR.out.2]; rfl, rfl⟩
            · obtain rfl : k = 0 := by omega
              obtain rfl : m = 0 := by simpa [loN] using hm.out
              have HR := Lib.hid (rv_some (s := s) (by rw [HA1.out, if_neg (by omega)]))
              rw [HS.out, hz] at HR
              clear HA HA1 HS HO hb hm
              go_wp2
              go_ret2
              exact ⟨by rw [HR.out.1, HR.out.2]; rfl, rfl⟩
          · have HR := Lib.hid (rv_some (s := s) (by rw [HA1.out, if_neg (by omega)]))
            rw [HS.out] at HR
            clear HA HA1 HS
            go_wp2
            go_ret2
            refine ⟨?_, rfl⟩
            rw [HR.out.1, HR.out.2]
            show Ending.returned (.tuple #[.int .i64 (bits .or .i64 (m : Int) (wrap64 ((s[k].toNat : Int) % 128 * 2 ^ (7 * k)))), .int .i64 ((k : Int) + 1)]) = _
            rw [HO.out]
            rfl
      · have HR := Lib.hid (rv_none (s := s) (rvO_none fun j hj _ => hb.out j (by omega)))
        have hd : decide ((k : Int) < 7) = false := by simp; omega
        go_wp2
        go_ret2
        exact ⟨by rw [HR.out.1, HR.out.2]; rfl, rfl⟩
    · have hll : s.data.toList.length = s.size := by simp
      have HR := Lib.hid (rv_none (s := s) (rvO_none fun j hj hjl => hb.out j (by omega)))
      clear hll
      go_wp2
      go_ret2
      exact ⟨by rw [HR.out.1, HR.out.2]; rfl, rfl⟩

theorem loN_drop (l : List UInt8) (j c : Nat) (h : j < l.length) : loN (l.drop j) (c + 1) = (l.getD j 0).toNat % 128 + 128 * loN (l.drop (j + 1)) c := by
  rw [List.drop_eq_getElem_cons h, loN]
  simp [List.getD, h]

set_option maxRecDepth 100000 in
theorem specReadVar_any (s : ByteArray) (w : World) (hs : s.size ≤ 9223372036854775806) :
    Calls Try.prog 15 #[.string s] w fun e w' => e = .returned (.tuple #[.int .i64 (rvN s), .int .i64 (rvK s)]) ∧ Below w.heap.size w w' := by
  go_enter Try.func15, Try.ntmps15
  go_wp2
  go_loopw [4] (fun i wr => ∃ k : Nat, 1 ≤ k ∧ k ≤ s.size + 1 ∧ k ≤ 8 ∧ Hid (∀ n j, j < k → rvO s.data.toList 7 ≠ some (n, j)) ∧ i = .int .i64 k ∧ Below w.heap.size w wr) (fun i _ => 8 - (intOf i).toNat)
  case atStart => exact ⟨1, by omega, by omega, by omega, Lib.hid (fun n j hj h => by have := rvO_some h; omega), rfl, Below.refl _ _⟩
  case round =>
    obtain ⟨k, hk1, hk, hk8, hno, rfl, hbl⟩ := hrel
    by_cases hlt : k ≤ s.size
    · by_cases hlt7 : k ≤ 7
      · go_wp2
        go_loop [5, 6] (fun n i => ∃ j m : Nat, j ≤ k ∧ m ≤ 562949953421311 ∧ Hid (m = loN (s.data.toList.drop j) (k - j)) ∧ n = .int .i64 m ∧ i = .int .i64 ((j : Int) - 1)) (fun _ i => (intOf i + 1).toNat)
        case atStart => exact ⟨k, 0, Nat.le_refl _, by omega, Lib.hid (by simp [loN]), rfl, rfl⟩
        case round =>
          obtain ⟨j, m, hj, hm9, hm, rfl, rfl⟩ := hrel
          by_cases hj0 : 0 < j
          · obtain ⟨i, rfl⟩ : ∃ i, j = i + 1 := ⟨j - 1, by omega⟩
            have his : i < s.size := by omega
            have hb8 : (s[i].toNat : Int) < 256 := by have := s[i].toNat_lt; omega
            have hi' : i < s.data.toList.length := by simpa using his
            have HE : Hid (loN (s.data.toList.drop i) (k - i) = m * 128 + s[i].toNat % 128) := Lib.hid (by
              have e : k - i = (k - (i + 1)) + 1 := by omega
              rw [e, loN_drop _ _ _ hi', ← hm.out, getD_lt128 his]
              omega)
            have hle : m * 128 + s[i].toNat % 128 ≤ 562949953421311 := by rw [← HE.out]; exact loN_le (by omega)
            go_wp2
            go_round
            case rel => exact ⟨i, _, by omega, hle, Lib.hid HE.out.symm, by go_num, by go_num⟩
            case measure => simp [intOf]
          · obtain rfl : j = 0 := by omega
            have hm' : Hid (m = loN s.data.toList k) := Lib.hid (by simpa using hm.out)
            have hsz := hbl.size
            have hkl : k ≤ s.data.toList.length := by simpa using hlt
            have hV := Lib.hid (varL_loN (l := s.data.toList) (k := k) (f := 7) hkl hk1 hlt7)
            have hT : (s.extract 0 k).toList = s.data.toList.take k := by rw [Lib.extract_toList]; simp
            clear hm hkl
            by_cases hc : varL m = s.data.toList.take k
            · have ht : (varL m == (s.extract 0 k).toList) = true := by rw [hT, hc]; simp
              have HR := Lib.hid (rv_some (hV.out.1 (by rw [← hm'.out]; exact hc)))
              rw [← hm'.out] at HR
              clear hc hT hV hno
              go_wp2
              go_region_with (go_at_call 13; refine (specVar_yes m _ hm9).mono ?_; rintro e w1 ⟨rfl, hb1⟩)
              all_goals
                go_wp2
                go_ret2
                exact ⟨by rw [HR.out.1, HR.out.2]; rfl, hbl.drew.trans (hb1.mono hsz)⟩
            · have ht : (varL m == (s.extract 0 k).toList) = false := by rw [hT]; simpa using hc
              have HN := Lib.hid (fun h => hc (by rw [hm'.out]; exact hV.out.2 h))
              clear hc hT hV
              go_wp2
              go_region_with (go_at_call 13; refine (specVar_yes m _ hm9).mono ?_; rintro e w1 ⟨rfl, hb1⟩)
              all_goals
                go_wp2
                go_roundw
                case rel =>
                  refine ⟨k + 1, by omega, by omega, by omega, Lib.hid ?_, by go_num, hbl.drew.trans (hb1.mono hsz)⟩
                  intro n j hj
                  by_cases hjk : j = k
                  · subst hjk
                    intro h
                    have hn := (rvO_some h).2.2.2
                    rw [hn] at h
                    exact HN.out h
                  · exact hno.out n j (by omega)
                case measure => simp [intOf]; omega
      · have HR : Hid (rvN s = 0 ∧ rvK s = 0) := by
          refine Lib.hid (rv_none ?_)
          cases hr : rvO s.data.toList 7 with
          | none => rfl
          | some x =>
            have h := rvO_some (n := x.1) (k := x.2) hr
            exact absurd hr (hno.out x.1 x.2 (by omega))
        have hd : decide ((k : Int) ≤ 7) = false := by simp; omega
        go_wp2
        go_ret2
        exact ⟨by rw [HR.out.1, HR.out.2]; rfl, hbl⟩
    · have HR : Hid (rvN s = 0 ∧ rvK s = 0) := by
        refine Lib.hid (rv_none ?_)
        cases hr : rvO s.data.toList 7 with
        | none => rfl
        | some x =>
          have h := rvO_some (n := x.1) (k := x.2) hr
          have hll : s.data.toList.length = s.size := by simp
          exact absurd hr (hno.out x.1 x.2 (by omega))
      by_cases hlt7 : k ≤ 7
      · have hd : decide ((k : Int) ≤ (s.size : Int)) = false := by simp; omega
        go_wp2
        go_ret2
        exact ⟨by rw [HR.out.1, HR.out.2]; rfl, hbl⟩
      · have hd : decide ((k : Int) ≤ 7) = false := by simp; omega
        go_wp2
        go_ret2
        exact ⟨by rw [HR.out.1, HR.out.2]; rfl, hbl⟩

/-- The law. -/
theorem lawReadVar (a0 : ByteArray) (w : World) (h0 : a0.size ≤ maxLen) :
    Calls Try.prog 6 #[.string a0] w fun e w' => e = .returned (.bool true) ∧ Below w.heap.size w w' := by
  unfold maxLen at h0
  by_cases hbig : 1048576 < a0.size
  · go_enter Try.func6, Try.ntmps6
    go_wp2_with fail
    go_ret
    exact ⟨rfl, Below.refl _ _⟩
  · go_enter Try.func6, Try.ntmps6
    go_wp2_with fail
    refine (specReadVar_any a0 _ (by omega)).mono ?_
    rintro e w1 ⟨rfl, hb1⟩
    go_wp2_with fail
    refine (implReadVar_any a0 _ h0).mono ?_
    rintro e w2 ⟨rfl, rfl⟩
    go_wp2_with fail
    go_ret
    exact ⟨rfl, hb1⟩
end Go.Proofs.Ytehlbloalfclcaa
