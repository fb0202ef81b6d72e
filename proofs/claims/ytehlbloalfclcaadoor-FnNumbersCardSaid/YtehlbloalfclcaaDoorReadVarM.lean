/-
  With whose Var does a text begin: plain facts.
-/
import Derived.Test.YtehlbloalfclcaaDoorVarM
namespace Go.Proofs.YtehlbloalfclcaaDoor

/-- The number in the first k bytes, seven bits of each, the lowest first. -/
def loN : List UInt8 → Nat → Nat
  | _, 0 => 0
  | [], _ + 1 => 0
  | b :: t, k + 1 => b.toNat % 128 + 128 * loN t k
/-- The number with whose Var the text begins, and how many bytes that is. -/
def rvO : List UInt8 → Nat → Option (Nat × Nat)
  | _, 0 => none
  | [], _ + 1 => none
  | b :: t, f + 1 => if b.toNat < 128 then some (b.toNat, 1) else
    match rvO t f with
    | some (m, k) => if m = 0 then none else some (b.toNat % 128 + 128 * m, k + 1)
    | none => none

theorem loN_lt (l : List UInt8) (k : Nat) : loN l k < 128 ^ k := by
  induction k generalizing l with
  | zero => simp [loN]
  | succ k ih =>
    cases l with
    | nil => simp [loN, Nat.pow_pos]
    | cons b t =>
      have := ih t
      simp only [loN, Nat.pow_succ]
      omega
theorem loN_snoc (l : List UInt8) (k : Nat) (h : k < l.length) : loN l (k + 1) = loN l k + (l.getD k 0).toNat % 128 * 128 ^ k := by
  induction k generalizing l with
  | zero =>
    cases l with
    | nil => simp at h
    | cons b t => simp [loN, List.getD]
  | succ k ih =>
    cases l with
    | nil => simp at h
    | cons b t =>
      have h' : k < t.length := by simpa using h
      have := ih t h'
      rw [loN, this, loN]
      have e : (b :: t).getD (k + 1) 0 = t.getD k 0 := by simp [List.getD]
      rw [e, Nat.pow_succ]
      generalize (t.getD k 0).toNat % 128 = x
      generalize 128 ^ k = y
      rw [Nat.mul_add, ← Nat.mul_assoc, Nat.mul_comm 128 x, Nat.mul_assoc, Nat.mul_comm 128 y]
      omega

theorem rvO_some {l : List UInt8} {f n k : Nat} (h : rvO l f = some (n, k)) : 1 ≤ k ∧ k ≤ f ∧ k ≤ l.length ∧ n = loN l k := by
  induction f generalizing l n k with
  | zero => simp [rvO] at h
  | succ f ih =>
    cases l with
    | nil => simp [rvO] at h
    | cons b t =>
      rw [rvO] at h
      by_cases hb : b.toNat < 128
      · rw [if_pos hb] at h
        simp only [Option.some.injEq, Prod.mk.injEq] at h
        obtain ⟨rfl, rfl⟩ := h
        refine ⟨Nat.le_refl _, by omega, by simp, ?_⟩
        simp only [loN]
        omega
      · rw [if_neg hb] at h
        split at h
        · rename_i m k' hr
          obtain ⟨h1, h2, h3, h4⟩ := ih hr
          by_cases hm : m = 0
          · simp [hm] at h
          · rw [if_neg hm] at h
            simp only [Option.some.injEq, Prod.mk.injEq] at h
            obtain ⟨rfl, rfl⟩ := h
            refine ⟨by omega, by omega, by simpa using h3, ?_⟩
            rw [loN, h4]
        · cases h

theorem u8_toNat_ofNat (b : UInt8) (n : Nat) (h : n < 256) : UInt8.ofNat n = b ↔ n = b.toNat := by
  constructor
  · intro e
    rw [← e]
    simp; omega
  · intro e
    rw [e]
    simp
theorem varL_ne_nil (n : Nat) : varL n ≠ [] := by
  by_cases h : n < 128
  · rw [varL_small h]; simp
  · rw [varL_big h]; simp

/-- What Var makes of the first k bytes' number is those bytes just where the text begins with it. -/
theorem varL_loN {l : List UInt8} {k f : Nat} (hk : k ≤ l.length) (h1 : 1 ≤ k) (hf : k ≤ f) : varL (loN l k) = l.take k ↔ rvO l f = some (loN l k, k) := by
  induction k generalizing l f with
  | zero => omega
  | succ k ih =>
    cases l with
    | nil => simp at hk
    | cons b t =>
      obtain ⟨f, rfl⟩ : ∃ g, f = g + 1 := ⟨f - 1, by omega⟩
      have hb8 := b.toNat_lt
      have hk' : k ≤ t.length := by simpa using hk
      rw [rvO]
      by_cases h0 : k = 0
      · subst h0
        simp only [loN, Nat.mul_zero, Nat.add_zero, Nat.zero_add, List.take_succ_cons, List.take_zero]
        rw [varL_small (by omega)]
        by_cases hb : b.toNat < 128
        · rw [if_pos hb]
          simp only [List.cons.injEq, and_true, Option.some.injEq, Prod.mk.injEq]
          rw [u8_toNat_ofNat _ _ (by omega)]
          omega
        · rw [if_neg hb]
          simp only [List.cons.injEq, and_true]
          rw [u8_toNat_ofNat _ _ (by omega)]
          constructor
          · intro h; omega
          · intro h
            split at h
            · rename_i m k' hr
              have := rvO_some hr
              split at h
              · cases h
              · simp only [Option.some.injEq, Prod.mk.injEq] at h; omega
            · cases h
      · have ih' := ih (l := t) (f := f) hk' (by omega) (by omega)
        simp only [loN, List.take_succ_cons]
        by_cases hb : b.toNat < 128
        · rw [if_pos hb]
          constructor
          · intro h
            by_cases hm : b.toNat % 128 + 128 * loN t k < 128
            · rw [varL_small hm] at h
              have := congrArg List.length h
              rw [List.length_singleton, List.length_cons, List.length_take, Nat.min_eq_left hk'] at this
              omega
            · rw [varL_big hm] at h
              simp only [List.cons.injEq] at h
              rw [u8_toNat_ofNat _ _ (by omega)] at h
              omega
          · intro h
            simp only [Option.some.injEq, Prod.mk.injEq] at h
            omega
        · rw [if_neg hb]
          constructor
          · intro h
            by_cases hm : b.toNat % 128 + 128 * loN t k < 128
            · rw [varL_small hm] at h
              have := congrArg List.length h
              rw [List.length_singleton, List.length_cons, List.length_take, Nat.min_eq_left hk'] at this
              omega
            · rw [varL_big hm] at h
              simp only [List.cons.injEq] at h
              have e : (b.toNat % 128 + 128 * loN t k) / 128 = loN t k := by omega
              rw [e] at h
              rw [ih'.1 h.2]
              show (if loN t k = 0 then none else some _) = _
              rw [if_neg (by omega)]
          · intro h
            split at h
            · rename_i m k' hr
              split at h
              · cases h
              · rename_i hm0
                simp only [Option.some.injEq, Prod.mk.injEq] at h
                obtain ⟨ha, hb'⟩ := h
                obtain rfl : k' = k := by omega
                obtain rfl : m = loN t k' := by omega
                have hv := ih'.2 hr
                rw [varL_big (by omega)]
                have e : (b.toNat % 128 + 128 * loN t k') / 128 = loN t k' := by omega
                rw [e, hv]
                simp only [List.cons.injEq, and_true]
                rw [u8_toNat_ofNat _ _ (by omega)]
                omega
            · cases h

theorem loN_pos {l : List UInt8} {i : Nat} (h : i < l.length) (h0 : (l.getD i 0).toNat % 128 ≠ 0) : loN l (i + 1) ≠ 0 := by
  rw [loN_snoc l i h]
  have h1 : 0 < (l.getD i 0).toNat % 128 * 128 ^ i := Nat.mul_pos (by omega) (Nat.pow_pos (by omega))
  omega
/-- The first byte below 128. -/
theorem rvO_at {l : List UInt8} {i f : Nat} (hi : i < l.length) (hf : i < f) (hb : ∀ j, j < i → 128 ≤ (l.getD j 0).toNat) (h : (l.getD i 0).toNat < 128) :
    rvO l f = if (l.getD i 0).toNat = 0 ∧ 0 < i then none else some (loN l (i + 1), i + 1) := by
  induction i generalizing l f with
  | zero =>
    cases l with
    | nil => simp at hi
    | cons b t =>
      obtain ⟨f, rfl⟩ : ∃ g, f = g + 1 := ⟨f - 1, by omega⟩
      have h' : b.toNat < 128 := by simpa [List.getD] using h
      rw [rvO, if_pos h', if_neg (by omega)]
      simp only [loN, Nat.mul_zero, Nat.add_zero]
      rw [Nat.mod_eq_of_lt h']
  | succ i ih =>
    cases l with
    | nil => simp at hi
    | cons b t =>
      obtain ⟨f, rfl⟩ : ∃ g, f = g + 1 := ⟨f - 1, by omega⟩
      have hb0 : 128 ≤ b.toNat := by have := hb 0 (by omega); simpa [List.getD] using this
      have hi' : i < t.length := by simpa using hi
      have e : ∀ j, (b :: t).getD (j + 1) 0 = t.getD j 0 := fun j => by simp [List.getD]
      rw [e] at h
      have ih' := ih (l := t) (f := f) hi' (by omega) (fun j hj => by have := hb (j + 1) (by omega); rwa [e] at this) h
      rw [rvO, if_neg (by omega), ih', e]
      by_cases hz : (t.getD i 0).toNat = 0
      · have r : (if (t.getD i 0).toNat = 0 ∧ 0 < i + 1 then none else some (loN (b :: t) (i + 1 + 1), i + 1 + 1)) = none := if_pos ⟨hz, by omega⟩
        rw [r]
        by_cases h0 : 0 < i
        · rw [if_pos ⟨hz, h0⟩]
        · rw [if_neg (by omega)]
          obtain rfl : i = 0 := by omega
          have hl0 : loN t (0 + 1) = 0 := by rw [loN_snoc t 0 hi', hz]; simp [loN]
          show (if loN t (0 + 1) = 0 then none else some _) = _
          rw [if_pos hl0]
      · rw [if_neg (by omega), if_neg (by omega)]
        have hl0 : loN t (i + 1) ≠ 0 := loN_pos hi' (by omega)
        show (if loN t (i + 1) = 0 then none else some _) = _
        rw [if_neg hl0]
        rfl
/-- No byte below 128 among the first f. -/
theorem rvO_none {l : List UInt8} {f : Nat} (hb : ∀ j, j < f → j < l.length → 128 ≤ (l.getD j 0).toNat) : rvO l f = none := by
  induction f generalizing l with
  | zero => cases l <;> rfl
  | succ f ih =>
    cases l with
    | nil => rfl
    | cons b t =>
      have hb0 : 128 ≤ b.toNat := by have := hb 0 (by omega) (by simp); simpa [List.getD] using this
      have e : ∀ j, (b :: t).getD (j + 1) 0 = t.getD j 0 := fun j => by simp [List.getD]
      rw [rvO, if_neg (by omega), ih fun j hj hjl => by have := hb (j + 1) (by omega) (by simpa using hjl); rwa [e] at this]
end Go.Proofs.YtehlbloalfclcaaDoor
