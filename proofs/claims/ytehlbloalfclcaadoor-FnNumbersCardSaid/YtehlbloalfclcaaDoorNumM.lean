/-
  The law on numbers: plain facts.
-/
import Derived.Test.YtehlbloalfclcaaDoorDraw1
import Derived.Test.YtehlbloalfclcaaDoorReadVar
import Derived.Test.YtehlbloalfclcaaDoorReadFixed
import Derived.Test.YtehlbloalfclcaaDoorUnhex
import Derived.Test.YtehlbloalfclcaaDoorReadDec
namespace Go.Proofs.YtehlbloalfclcaaDoor
open Go.RowKit
set_option linter.unusedVariables false

theorem toList_mk (l : List UInt8) : (⟨l.toArray⟩ : ByteArray).data.toList = l := rfl
theorem app_data (a b : ByteArray) : (a ++ b).data.toList = a.data.toList ++ b.data.toList := by simp
/-! ### Var -/
theorem rvO_var : ∀ (f n : Nat) (t : List UInt8), (varL n).length ≤ f → rvO (varL n ++ t) f = some (n, (varL n).length)
  | 0, n, t, h => by
    have := varL_ne_nil n
    cases hv : varL n with
    | nil => exact absurd hv this
    | cons a r => rw [hv] at h; simp at h
  | f + 1, n, t, h => by
    by_cases hn : n < 128
    · rw [varL_small hn]
      have e : (UInt8.ofNat n).toNat = n := by simp; omega
      simp only [List.cons_append, List.nil_append, rvO, List.length_singleton]
      rw [e, if_pos hn]
    · have ih := rvO_var f (n / 128) t (by rw [varL_big hn] at h; simpa using h)
      rw [varL_big hn]
      have e : (UInt8.ofNat (128 + n % 128)).toNat = 128 + n % 128 := by simp; omega
      simp only [List.cons_append, rvO, List.length_cons]
      rw [e, if_neg (by omega), ih]
      show (if n / 128 = 0 then none else some _) = _
      rw [if_neg (by omega)]
      congr 2
      omega
theorem rv_var {n : Int} (h0 : 0 ≤ n) (h1 : n ≤ 562949953421311) (T : ByteArray) : rvN (varI n ++ T) = n ∧ rvK (varI n ++ T) = (varI n).size := by
  have e : varI n = ⟨(varL n.toNat).toArray⟩ := by rw [varI, if_pos ⟨h0, h1⟩]
  have hr := rvO_var 7 n.toNat T.data.toList (varL_len7 (by omega))
  have h := rv_some (s := varI n ++ T) (n := n.toNat) (k := (varL n.toNat).length) (by rw [app_data, e, toList_mk]; exact hr)
  rw [h.1, h.2, e]
  exact ⟨by omega, rfl⟩
theorem isEmpty_toList (s : ByteArray) : s.toList.isEmpty = decide (s.size = 0) := by
  rw [Lib.toList_data, Lib.size_eq]
  cases s.data.toList <;> simp
theorem varI_some {n : Int} (h0 : 0 ≤ n) (h1 : n ≤ 562949953421311) : (varI n).toList.isEmpty = false := by
  rw [varI, if_pos ⟨h0, h1⟩, Lib.toList_data, toList_mk]
  have := varL_ne_nil n.toNat
  cases hv : varL n.toNat with
  | nil => exact absurd hv this
  | cons a r => rfl
theorem varI_none {n : Int} (h : n < 0 ∨ 562949953421311 < n) : (varI n).toList.isEmpty = true := by
  rw [varI, if_neg (by omega), Lib.toList_data]
  rfl
/-! ### Fixed -/
theorem numL_fixL (k : Nat) : ∀ (n : Nat) (t : List UInt8), numL (fixL n k ++ t) k = n % 256 ^ k := by
  induction k with
  | zero => intro n t; simp [numL, Nat.mod_one]
  | succ k ih =>
    intro n t
    rw [numL, fixL, List.append_assoc, ih (n / 256)]
    have e : (fixL (n / 256) k ++ ([UInt8.ofNat (n % 256)] ++ t)).getD k 0 = UInt8.ofNat (n % 256) := by
      have hl := fixL_length (n / 256) k
      simp [List.getD, hl]
    rw [e, u8_ofNat_toNat _ (by omega), Nat.pow_succ, Nat.mul_comm (256 ^ k) 256, Nat.mod_mul]
    omega
theorem fix_yes {n : Int} (h0 : 0 ≤ n) (h1 : n < 72057594037927936) (T : ByteArray) : (fixI n 7).size = 7 ∧ rfN (fixI n 7 ++ T) 7 = n ∧ rfB (fixI n 7 ++ T) 7 = true := by
  have h256 : 256 ^ 7 = 72057594037927936 := by decide
  have hz : n.toNat / 256 ^ (7 : Int).toNat = 0 := by
    show n.toNat / 256 ^ 7 = 0
    rw [h256]
    omega
  have e : fixI n 7 = ⟨(fixL n.toNat 7).toArray⟩ := by
    rw [fixI, if_pos ⟨by omega, by omega, h0⟩, fixW_yes hz]
    rfl
  have hs : (fixI n 7).size = 7 := by rw [e]; exact fixL_length _ _
  have hc : 1 ≤ (7 : Int) ∧ (7 : Int) ≤ 7 ∧ (7 : Int) ≤ ((fixI n 7 ++ T).size : Int) := by
    rw [ByteArray.size_append, hs]
    omega
  refine ⟨hs, ?_, decide_eq_true hc⟩
  rw [rfN, if_pos hc, app_data, e, toList_mk]
  show ((numL (fixL n.toNat 7 ++ T.data.toList) 7 : Nat) : Int) = n
  rw [numL_fixL, h256]
  omega
theorem fix_no {n : Int} (h : n < 0 ∨ 72057594037927936 ≤ n) : (fixI n 7).toList.isEmpty = true := by
  rw [isEmpty_toList]
  by_cases h0 : 0 ≤ n
  · have h256 : 256 ^ 7 = 72057594037927936 := by decide
    have hz : n.toNat / 256 ^ (7 : Int).toNat ≠ 0 := by
      show n.toNat / 256 ^ 7 ≠ 0
      rw [h256]
      omega
    rw [fixI, if_pos ⟨by omega, by omega, h0⟩, fixW_no hz]
    rfl
  · rw [fixI, if_neg (by omega)]
    rfl
/-! ### Dec, Hex -/
theorem rd_itoa_yes {n : Int} (h : -1000000000 < n ∧ n < 1000000000) : rdN ⟨(Lib.itoa n).toArray⟩ = n ∧ rdB ⟨(Lib.itoa n).toArray⟩ = true :=
  rdv_some (s := ⟨(Lib.itoa n).toArray⟩) (rdO_of rfl h)
theorem rd_itoa_no {n : Int} (h : ¬ (-1000000000 < n ∧ n < 1000000000)) : rdB ⟨(Lib.itoa n).toArray⟩ = false := by
  refine (rdv_none (s := ⟨(Lib.itoa n).toArray⟩) (rdO_none fun hh => h ?_)).2
  have := hh.2
  rw [toList_mk, pD_itoa] at this
  exact this
theorem unL_hexL (l : List UInt8) : unL (hexL l) = some l := by
  induction l with
  | nil => rfl
  | cons b t ih =>
    have hb := b.toNat_lt
    have h1 := hv_at (show b.toNat / 16 < 16 by omega)
    have h2 := hv_at (show b.toNat % 16 < 16 by omega)
    rw [hexL, unL, h1, h2, if_neg (by omega), ih]
    simp only [Option.map_some, Option.some.injEq, List.cons.injEq, and_true]
    have e : 16 * ((b.toNat / 16 : Nat) : Int).toNat + ((b.toNat % 16 : Nat) : Int).toNat = b.toNat := by
      rw [Int.toNat_natCast, Int.toNat_natCast]
      omega
    rw [e]
    simp
theorem un_hex (l : List UInt8) : unS ⟨(hexL l).toArray⟩ = ⟨l.toArray⟩ ∧ unB ⟨(hexL l).toArray⟩ = true :=
  un_some (s := ⟨(hexL l).toArray⟩) (unL_hexL l)
/-! ### What ReadVar tells of any text -/
theorem rv_any (R : ByteArray) : (rvN R = 0 ∧ rvK R = 0) ∨ (∃ j : Nat, rvK R = j ∧ 1 ≤ j ∧ j ≤ R.size ∧ ((varI (rvN R)).toList == (R.extract 0 j).toList) = true) := by
  cases hr : rvO R.data.toList 7 with
  | none => exact Or.inl (rv_none hr)
  | some x =>
    obtain ⟨n, k⟩ := x
    obtain ⟨h1, h2, h3, h4⟩ := rvO_some hr
    obtain ⟨e1, e2⟩ := rv_some hr
    refine Or.inr ⟨k, e2, h1, by simpa using h3, ?_⟩
    have hle := loN_le (l := R.data.toList) h2
    rw [h4] at hr
    have hv := (varL_loN h3 h1 h2).2 hr
    rw [e1, h4, varI, if_pos (by omega), Lib.toList_data, toList_mk, Lib.extract_toList, Int.toNat_natCast, hv]
    simp
end Go.Proofs.YtehlbloalfclcaaDoor
