/-
  Reading decimal digits: plain facts.
-/
import Derived.Test.YthficfeiomddmaaDoorDecM
import Derived.Lib.AtoiAll
import Derived.Lib.Strings
namespace Go.Proofs.YthficfeiomddmaaDoor

def isD (c : UInt8) : Prop := 48 ≤ c.toNat ∧ c.toNat ≤ 57
instance (c : UInt8) : Decidable (isD c) := inferInstanceAs (Decidable (_ ∧ _))
/-- The number that the digits in l spell, behind a. -/
def dval (a : Nat) : List UInt8 → Nat
  | [] => a
  | c :: t => if isD c then dval (a * 10 + (c.toNat - 48)) t else dval a t
/-- How many digits there are in l. -/
def dcnt : List UInt8 → Nat
  | [] => 0
  | c :: t => if isD c then dcnt t + 1 else dcnt t
theorem dval_append (a : Nat) (l m : List UInt8) : dval a (l ++ m) = dval (dval a l) m := by
  induction l generalizing a with
  | nil => rfl
  | cons c t ih => simp only [List.cons_append, dval]; split <;> exact ih _
theorem dcnt_append (l m : List UInt8) : dcnt (l ++ m) = dcnt l + dcnt m := by
  induction l with
  | nil => simp [dcnt]
  | cons c t ih => simp only [List.cons_append, dcnt]; split <;> rw [ih] <;> omega
theorem dcnt_le (l : List UInt8) : dcnt l ≤ l.length := by
  induction l with
  | nil => simp [dcnt]
  | cons c t ih => simp only [dcnt, List.length_cons]; split <;> omega
theorem dig_toNat (k : Nat) (h : k < 10) : (UInt8.ofNat (48 + k)).toNat = 48 + k := by simp; omega
theorem isD_dig (k : Nat) (h : k < 10) : isD (UInt8.ofNat (48 + k)) := by unfold isD; rw [dig_toNat k h]; omega
theorem decDigits_small {u : Nat} (h : u < 10) : Lib.decDigits u = [UInt8.ofNat (48 + u)] := by rw [Lib.decDigits, dif_pos h]
theorem decDigits_big {u : Nat} (h : ¬ u < 10) : Lib.decDigits u = Lib.decDigits (u / 10) ++ [UInt8.ofNat (48 + u % 10)] := by rw [Lib.decDigits, dif_neg h]
theorem dval_decDigits (u : Nat) : dval 0 (Lib.decDigits u) = u := by
  induction u using Nat.strongRecOn with
  | _ u ih =>
    by_cases h : u < 10
    · rw [decDigits_small h, dval, if_pos (isD_dig u h), dval, dig_toNat u h]; omega
    · rw [decDigits_big h, dval_append, ih (u / 10) (by omega), dval, if_pos (isD_dig _ (by omega)), dval, dig_toNat _ (by omega)]; omega
theorem dcnt_decDigits (u : Nat) : dcnt (Lib.decDigits u) = (Lib.decDigits u).length := by
  induction u using Nat.strongRecOn with
  | _ u ih =>
    by_cases h : u < 10
    · rw [decDigits_small h, dcnt, if_pos (isD_dig u h)]; rfl
    · rw [decDigits_big h, dcnt_append, ih (u / 10) (by omega), dcnt, if_pos (isD_dig _ (by omega)), List.length_append]; rfl
theorem decDigits_length_ge : ∀ (k u : Nat), 10 ^ k ≤ u → k + 1 ≤ (Lib.decDigits u).length
  | 0, u, h => by
    by_cases h1 : u < 10
    · rw [decDigits_small h1]; simp
    · rw [decDigits_big h1]; simp
  | k + 1, u, h => by
    have hp : 10 ≤ 10 ^ (k + 1) := by
      have := Nat.pow_le_pow_right (n := 10) (by omega) (show 1 ≤ k + 1 by omega)
      simpa using this
    rw [decDigits_big (by omega), List.length_append]
    have h2 : 10 ^ k ≤ u / 10 := by
      rw [Nat.le_div_iff_mul_le (by omega), ← Nat.pow_succ]
      exact h
    have := decDigits_length_ge k (u / 10) h2
    simp
    omega
theorem decDigits_len9 (u : Nat) : (Lib.decDigits u).length ≤ 9 ↔ u < 1000000000 := by
  have h9 : 10 ^ (8 + 1) = 1000000000 := by decide
  constructor
  · intro h
    refine Nat.lt_of_not_le fun hn => ?_
    have := decDigits_length_ge 9 u (by omega)
    omega
  · intro h
    exact decDigits_length_le 8 u (by omega)
theorem decDigits_head (u : Nat) : ∃ k t, k < 10 ∧ Lib.decDigits u = UInt8.ofNat (48 + k) :: t := by
  induction u using Nat.strongRecOn with
  | _ u ih =>
    by_cases h : u < 10
    · exact ⟨u, [], h, decDigits_small h⟩
    · obtain ⟨k, t, hk, e⟩ := ih (u / 10) (by omega)
      exact ⟨k, t ++ [UInt8.ofNat (48 + u % 10)], hk, by rw [decDigits_big h, e]; rfl⟩

/-- The number that l spells. -/
def pD (l : List UInt8) : Int := if l.head? = some 45 then -(dval 0 l : Int) else dval 0 l
theorem dig_ne45 (k : Nat) (h : k < 10) : UInt8.ofNat (48 + k) ≠ 45 := by
  intro e
  have := congrArg UInt8.toNat e
  rw [dig_toNat k h] at this
  have h45 : (45 : UInt8).toNat = 45 := rfl
  omega
theorem dval_minus (l : List UInt8) (a : Nat) : dval a (45 :: l) = dval a l := by
  have : ¬ isD 45 := by decide
  rw [dval, if_neg this]
theorem dcnt_minus (l : List UInt8) : dcnt (45 :: l) = dcnt l := by
  have : ¬ isD 45 := by decide
  rw [dcnt, if_neg this]
theorem itoa_neg' {n : Int} (h : n < 0) : Lib.itoa n = 45 :: Lib.decDigits n.natAbs := by rw [Lib.itoa, if_pos h]
theorem itoa_pos' {n : Int} (h : ¬ n < 0) : Lib.itoa n = Lib.decDigits n.toNat := by rw [Lib.itoa, if_neg h]
theorem pD_itoa (n : Int) : pD (Lib.itoa n) = n := by
  by_cases h : n < 0
  · rw [itoa_neg' h, pD, if_pos (show (45 :: Lib.decDigits n.natAbs).head? = some 45 from rfl), dval_minus, dval_decDigits]; omega
  · rw [itoa_pos' h, pD]
    obtain ⟨k, t, hk, e⟩ := decDigits_head n.toNat
    rw [if_neg (by rw [e]; simpa using dig_ne45 k hk), dval_decDigits]; omega
theorem dcnt_itoa (n : Int) : dcnt (Lib.itoa n) ≤ 9 ↔ -1000000000 < n ∧ n < 1000000000 := by
  by_cases h : n < 0
  · rw [itoa_neg' h, dcnt_minus, dcnt_decDigits, decDigits_len9]; omega
  · rw [itoa_pos' h, dcnt_decDigits, decDigits_len9]; omega
theorem itoa_length10 {n : Int} (h : -1000000000 < n ∧ n < 1000000000) : (Lib.itoa n).length ≤ 10 := by
  by_cases hn : n < 0
  · rw [itoa_neg' hn, List.length_cons]
    have := (decDigits_len9 n.natAbs).2 (by omega)
    omega
  · rw [itoa_pos' hn]
    have := (decDigits_len9 n.toNat).2 (by omega)
    omega

/-- The number of which Dec makes l, where it has at most 9 digits. -/
def rdO (l : List UInt8) : Option Int := if Lib.itoa (pD l) = l ∧ -1000000000 < pD l ∧ pD l < 1000000000 then some (pD l) else none
theorem rdO_some {l : List UInt8} (h : Lib.itoa (pD l) = l ∧ -1000000000 < pD l ∧ pD l < 1000000000) : rdO l = some (pD l) := if_pos h
theorem rdO_none {l : List UInt8} (h : ¬ (Lib.itoa (pD l) = l ∧ -1000000000 < pD l ∧ pD l < 1000000000)) : rdO l = none := if_neg h
theorem rdO_of {l : List UInt8} {n : Int} (h : Lib.itoa n = l) (hn : -1000000000 < n ∧ n < 1000000000) : rdO l = some n := by
  have hp : pD l = n := by rw [← h, pD_itoa]
  rw [rdO_some (by rw [hp]; exact ⟨h, hn⟩), hp]
theorem rdO_not {l : List UInt8} (h : ∀ n, Lib.itoa n = l → ¬ (-1000000000 < n ∧ n < 1000000000)) : rdO l = none :=
  rdO_none fun hh => h _ hh.1 hh.2

/-! ### Atoi of what Itoa makes -/
theorem parse_append (l m : List UInt8) (a v : Nat) (h : Lib.parseUint10 a l = .ok v) : Lib.parseUint10 a (l ++ m) = Lib.parseUint10 v m := by
  induction l generalizing a with
  | nil =>
    simp only [Lib.parseUint10] at h
    injection h with h
    rw [h]
    rfl
  | cons c t ih =>
    simp only [List.cons_append, Lib.parseUint10] at h ⊢
    split at h
    · rename_i h1
      rw [if_pos h1]
      split at h
      · cases h
      · rename_i h2
        rw [if_neg h2]
        split at h
        · cases h
        · rename_i h3
          rw [if_neg h3]
          exact ih _ h
    · cases h
theorem parse_one (a k : Nat) (hk : k < 10) (ha : a < 100000000000) : Lib.parseUint10 a [UInt8.ofNat (48 + k)] = .ok (a * 10 + k) := by
  simp only [Lib.parseUint10]
  rw [dig_toNat k hk, if_pos ⟨by omega, by omega⟩, if_neg (by omega), if_neg (by omega)]
  congr 1
  omega
theorem parse_decDigits (u : Nat) (h : u < 1000000000000) : Lib.parseUint10 0 (Lib.decDigits u) = .ok u := by
  induction u using Nat.strongRecOn with
  | _ u ih =>
    by_cases h1 : u < 10
    · rw [decDigits_small h1, parse_one 0 u h1 (by omega)]; congr 1; omega
    · rw [decDigits_big h1, parse_append _ _ _ _ (ih (u / 10) (by omega) (by omega)), parse_one _ _ (by omega) (by omega)]
      congr 1
      omega
theorem mag_decDigits (u : Nat) (h : u < 1000000000000) : Lib.parseMag (Lib.decDigits u) = .ok u := by
  obtain ⟨k, t, hk, e⟩ := decDigits_head u
  rw [Lib.parseMag, if_neg (by rw [e]; simp), parse_decDigits u h]
theorem atoiAll_itoa {n : Int} (h : -1000000000 < n ∧ n < 1000000000) : Lib.atoiAll (Lib.itoa n) = .ok n := by
  by_cases hn : n < 0
  · rw [itoa_neg' hn]
    have h45 : (45 : UInt8).toNat = 45 := rfl
    simp only [Lib.atoiAll, h45]
    simp only [or_true, if_true]
    rw [mag_decDigits _ (by omega)]
    simp only [true_and, not_true_eq_false, false_and, if_false]
    rw [if_neg (by omega)]
    congr 1
    omega
  · rw [itoa_pos' hn]
    obtain ⟨k, t, hk, e⟩ := decDigits_head n.toNat
    have hm := mag_decDigits n.toNat (by omega)
    rw [e] at hm ⊢
    have hd := dig_toNat k hk
    simp only [Lib.atoiAll, hd]
    rw [if_neg (by omega), hm]
    have h5 : ¬ 48 + k = 45 := by omega
    simp only [h5, not_false_eq_true, true_and, false_and, if_false]
    rw [if_neg (by omega)]
    congr 1
    omega

/-! ### What stands behind the sign -/
theorem trim_itoa (n : Int) : (Lib.trimPrefix (Lib.itoa n) [45]).length ≤ 9 ↔ -1000000000 < n ∧ n < 1000000000 := by
  by_cases hn : n < 0
  · rw [itoa_neg' hn]
    have e : Lib.trimPrefix (45 :: Lib.decDigits n.natAbs) [45] = Lib.decDigits n.natAbs := by simp [Lib.trimPrefix, Lib.hasPrefix]
    rw [e, decDigits_len9]; omega
  · rw [itoa_pos' hn]
    obtain ⟨k, t, hk, e⟩ := decDigits_head n.toNat
    have hne : ((45 : UInt8) == UInt8.ofNat (48 + k)) = false := by
      rw [beq_eq_false_iff_ne]
      exact fun h => dig_ne45 k hk h.symm
    have e2 : Lib.trimPrefix (Lib.decDigits n.toNat) [45] = Lib.decDigits n.toNat := by
      rw [e, Lib.trimPrefix, Lib.hasPrefix, List.isPrefixOf, hne]
      rfl
    rw [e2, decDigits_len9]; omega
theorem rd_long {l : List UInt8} (h : 9 < (Lib.trimPrefix l [45]).length) : rdO l = none := rdO_not fun n hn hb => by
  have := (trim_itoa n).2 hb
  rw [hn] at this
  omega
theorem rd_bad {l : List UInt8} (h : ∀ v, Lib.atoiAll l ≠ .ok v) : rdO l = none := rdO_not fun n hn hb => h n (by rw [← hn]; exact atoiAll_itoa hb)
theorem rd_yes {l : List UInt8} {v : Int} (h : ¬ 9 < (Lib.trimPrefix l [45]).length) (hv : Lib.itoa v = l) : rdO l = some v := rdO_of hv ((trim_itoa v).1 (by rw [hv]; omega))
theorem rd_other {l : List UInt8} {v : Int} (h : Lib.atoiAll l = .ok v) (hv : Lib.itoa v ≠ l) : rdO l = none := rdO_not fun n hn hb => hv (by
  have := atoiAll_itoa hb
  rw [hn, h] at this
  injection this with this
  rw [this, hn])
end Go.Proofs.YthficfeiomddmaaDoor
