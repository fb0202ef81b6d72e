import Derived.Test.YtkflinobmagiiaaJoin6
import Derived.Test.YtkflinobmagiiaaJoin33
/-! YtkflinobmagiiaaPlanM -/
section

namespace Go.Proofs.Ytkflinobmagiiaa

set_option linter.unusedVariables false

/-! ### What a plan is for -/
def taskB (n s m : Int) : Bool := inB 1 4 n && (inB 0 (n - 1) s && inB 1 5 m)
theorem taskB_has {n s m : Int} (h : taskB n s m = true) : 1 ≤ n ∧ n ≤ 4 ∧ 0 ≤ s ∧ s < n ∧ 1 ≤ m ∧ m ≤ 5 := by
  unfold taskB inB at h
  simp only [Bool.and_eq_true, decide_eq_true_eq] at h
  omega
theorem taskB_yes {n s m : Int} (h1 : 1 ≤ n) (h2 : n ≤ 4) (h3 : 0 ≤ s) (h4 : s < n) (h5 : 1 ≤ m) (h6 : m ≤ 5) : taskB n s m = true := by
  unfold taskB inB
  simp only [Bool.and_eq_true, decide_eq_true_eq]
  omega
theorem taskB_no {n s m : Int} (h : ¬ (1 ≤ n ∧ n ≤ 4 ∧ 0 ≤ s ∧ s < n ∧ 1 ≤ m ∧ m ≤ 5)) : taskB n s m = false := by
  cases e : taskB n s m
  · rfl
  · exact absurd (taskB_has e) h
/-- How many go ahead before the first one comes back. -/
def warmN (ds n s m : Int) : Int := if taskB n s m = true then (if ds = 2 then min m (n - 1 - s) else m) else 0
theorem warmN_no {ds n s m : Int} (h : taskB n s m = false) : warmN ds n s m = 0 := by unfold warmN; rw [h]; rfl
theorem warmN_one {n s m : Int} (h : taskB n s m = true) : warmN 2 n s m = min m (n - 1 - s) := by unfold warmN; rw [h]; rfl
theorem warmN_all {ds n s m : Int} (h : taskB n s m = true) (hd : ds ≠ 2) : warmN ds n s m = m := by unfold warmN; rw [h, if_pos rfl, if_neg hd]
end Go.Proofs.Ytkflinobmagiiaa

end

/-! YtkflinobmagiiaaAdmM -/
section

namespace Go.Proofs.Ytkflinobmagiiaa
open Go.RowKit
set_option linter.unusedVariables false

/-! ### Ranges of a model -/
def inTo (m : List dOp) : Nat → Int
  | 0 => 0
  | k + 1 => inTo m k + (opAt m k).2.1
def outTo (m : List dOp) : Nat → Int
  | 0 => 0
  | k + 1 => outTo m k + (opAt m k).2.2.1
/-- What goes into the first operation of a range; what comes out of its last one. -/
def inF (m : List dOp) (f t : Nat) : Int := if f < t then (opAt m f).2.1 else 0
def outF (m : List dOp) (f t : Nat) : Int := if f < t then (opAt m (t - 1)).2.2.1 else 0
def fullT (m : List dOp) (f t : Nat) : Int := inTo m t - inTo m f + outF m f t
theorem inTo_succ (m : List dOp) (k : Nat) : inTo m (k + 1) = inTo m k + (opAt m k).2.1 := rfl
theorem outTo_succ (m : List dOp) (k : Nat) : outTo m (k + 1) = outTo m k + (opAt m k).2.2.1 := rfl
theorem op_sizes {m : List dOp} {j : Nat} (h : okAt m j = true) : 1 ≤ (opAt m j).2.1 ∧ (opAt m j).2.1 ≤ 6 ∧ 1 ≤ (opAt m j).2.2.1 ∧ (opAt m j).2.2.1 ≤ 6 ∧ (j ≠ 0 → (opAt m j).2.1 = (opAt m (j - 1)).2.2.1) := by
  unfold okAt at h
  simp only [Bool.and_eq_true, Bool.or_eq_true, decide_eq_true_eq] at h
  obtain ⟨h1, h2⟩ := h
  obtain ⟨a, b, ea, eb, ha, hb, -⟩ := opOkB_has h1
  refine ⟨by rw [ea]; omega, by rw [ea]; omega, by rw [eb]; omega, by rw [eb]; omega, fun h0 => h2.resolve_left h0⟩
/-- A right model's range: what goes in, and what comes out of each, is what goes into each, and comes out of the last. -/
theorem full_sizes {m : List dOp} {f : Nat} (h : ∀ j, j < m.length → okAt m j = true) : ∀ t, f ≤ t → t ≤ m.length → fullT m f t = inF m f t + (outTo m t - outTo m f)
  | 0, hf, _ => by
    obtain rfl : f = 0 := by omega
    simp [fullT, inF, outF]
  | t + 1, hf, ht => by
    by_cases e : f = t + 1
    · subst e
      simp [fullT, inF, outF]
    · by_cases e2 : f = t
      · subst e2
        unfold fullT inF outF
        rw [if_pos (by omega), if_pos (by omega), inTo_succ, outTo_succ, Nat.add_sub_cancel]
        omega
      · have ih := full_sizes (m := m) (f := f) h t (by omega) (by omega)
        have h1 := (op_sizes (m := m) (h t (by omega))).2.2.2.2 (by omega)
        unfold fullT inF outF at ih ⊢
        rw [if_pos (by omega), if_pos (by omega)] at ih ⊢
        rw [inTo_succ, outTo_succ, Nat.add_sub_cancel]
        omega
theorem outTo_in {m : List dOp} (h : ∀ j, j < m.length → okAt m j = true) {f : Nat} : ∀ t, f ≤ t → t ≤ m.length → ((t - f : Nat) : Int) ≤ outTo m t - outTo m f ∧ outTo m t - outTo m f ≤ 6 * ((t - f : Nat) : Int)
  | 0, hf, _ => by
    obtain rfl : f = 0 := by omega
    simp
  | t + 1, hf, ht => by
    by_cases e : f = t + 1
    · subst e
      simp
    · have ih := outTo_in (m := m) (f := f) h t (by omega) (by omega)
      have h1 := op_sizes (m := m) (h t (by omega))
      rw [outTo_succ]
      omega
theorem inTo_in {m : List dOp} (h : ∀ j, j < m.length → okAt m j = true) {f : Nat} : ∀ t, f ≤ t → t ≤ m.length → 0 ≤ inTo m t - inTo m f ∧ inTo m t - inTo m f ≤ 6 * ((t - f : Nat) : Int)
  | 0, hf, _ => by
    obtain rfl : f = 0 := by omega
    simp
  | t + 1, hf, ht => by
    by_cases e : f = t + 1
    · subst e
      simp
    · have ih := inTo_in (m := m) (f := f) h t (by omega) (by omega)
      have h1 := op_sizes (m := m) (h t (by omega))
      rw [inTo_succ]
      omega
/-! ### A stage's range -/
/-- A range of a stage: none, or one of a right model. -/
structure RangeOk (m : List dOp) (l : List Int) (s : Int) (f t : Nat) : Prop where
  le : f ≤ t
  top : t ≤ m.length
  there : f < t → stageB m l s = true ∧ (∀ j, j < m.length → okAt m j = true) ∧ m.length ≤ 8 ∧ 0 ≤ s ∧ s ≤ (l.length : Int) ∧ l.length < m.length
  none : stageB m l s = false → f = 0 ∧ t = 0
  some : stageB m l s = true → f < t
theorem range_ok (m : List dOp) (l : List Int) (s : Int) : ∃ f t : Nat, fromC m l s = f ∧ toC m l s = t ∧ RangeOk m l s f t := by
  obtain ⟨f, t, ef, et, h1, h2⟩ := range_in m l s
  cases h : stageB m l s with
  | false =>
    obtain ⟨e1, e2⟩ := stage_no h
    obtain rfl : f = 0 := by omega
    obtain rfl : t = 0 := by omega
    exact ⟨0, 0, ef, et, h1, h2, fun h0 => absurd h0 (by omega), fun _ => ⟨rfl, rfl⟩, fun h0 => (by rw [h] at h0; cases h0)⟩
  | true =>
    obtain ⟨hc, j, rfl, hj⟩ := stageB_has h
    obtain ⟨hm, -, h8, -, hlt⟩ := cutsOk_has hc
    have h3 := (modelOk_has hm).1
    obtain ⟨e1, e2⟩ := stage_j hc hj
    have h4 := (endC_in hc j hj).1
    exact ⟨f, t, ef, et, h1, h2, fun _ => ⟨h, h3, h8, by omega, by omega, hlt⟩, fun h0 => (by rw [h] at h0; cases h0), fun _ => by omega⟩
theorem RangeOk.sizes {m : List dOp} {l : List Int} {s : Int} {f t : Nat} (h : RangeOk m l s f t) : 0 ≤ inF m f t ∧ inF m f t ≤ 6 ∧ 0 ≤ outF m f t ∧ outF m f t ≤ 6 ∧ inF m f t ≤ fullT m f t ∧ outF m f t ≤ fullT m f t ∧ fullT m f t ≤ 54 ∧ fullT m f t = inF m f t + (outTo m t - outTo m f) := by
  by_cases hft : f < t
  · obtain ⟨-, hk, h8, -⟩ := h.there hft
    have ht := h.top
    have h1 := full_sizes hk t h.le h.top
    have h2 := outTo_in hk t h.le h.top
    have h3 := inTo_in hk t h.le h.top
    have h4 := op_sizes (hk f (by omega))
    have h5 := op_sizes (hk (t - 1) (by omega))
    have e1 : inF m f t = (opAt m f).2.1 := if_pos hft
    have e2 : outF m f t = (opAt m (t - 1)).2.2.1 := if_pos hft
    have e3 : fullT m f t = inTo m t - inTo m f + outF m f t := rfl
    omega
  · have hl := h.le
    obtain rfl : f = t := by omega
    simp [fullT, inF, outF]
/-! ### What is saved, and the most that is held -/
def redoB (r : List Bool) (s : Int) : Bool := inB 0 ((r.length : Int) - 1) s && r.getD s.toNat false
def savedT (m : List dOp) (R : Bool) (f t : Nat) : Int := if R = true then inF m f t else fullT m f t
def underN (ds n s micro : Int) : Int := if ds = 2 then min micro (n - s) else micro
def peakT (m : List dOp) (R : Bool) (ds n s micro : Int) (f t : Nat) : Int :=
  if f < t ∧ 1 ≤ micro ∧ micro ≤ 5 ∧ n ≤ 4 then underN ds n s micro * savedT m R f t + max (inF m f t) (outF m f t) + (if R = true then fullT m f t else 0) else 0
def stagesN (m : List dOp) (l : List Int) : Int := if cutsOkB m l = true then (l.length : Int) + 1 else 0
def fullN (m : List dOp) (l : List Int) (s : Int) : Int := fullT m (fromC m l s).toNat (toC m l s).toNat
def savedN (m : List dOp) (l : List Int) (r : List Bool) (s : Int) : Int := savedT m (redoB r s) (fromC m l s).toNat (toC m l s).toNat
def peakN (m : List dOp) (l : List Int) (ds : Int) (r : List Bool) (s micro : Int) : Int := peakT m (redoB r s) ds ((l.length : Int) + 1) s micro (fromC m l s).toNat (toC m l s).toNat
theorem saved_in {m : List dOp} {l : List Int} {s : Int} {f t : Nat} (h : RangeOk m l s f t) (R : Bool) : 0 ≤ savedT m R f t ∧ savedT m R f t ≤ fullT m f t ∧ savedT m R f t ≤ 54 := by
  have := h.sizes
  unfold savedT
  split <;> omega
theorem under_in {ds n s micro : Int} (h1 : 1 ≤ micro) (h5 : micro ≤ 5) (hs : s < n) : 1 ≤ underN ds n s micro ∧ underN ds n s micro ≤ 5 ∧ underN ds n s micro ≤ micro := by
  unfold underN
  split <;> omega
theorem mul_in {a b A B : Int} (h0 : 0 ≤ a) (h1 : a ≤ A) (g0 : 0 ≤ b) (g1 : b ≤ B) : 0 ≤ a * b ∧ a * b ≤ A * B :=
  ⟨Int.mul_nonneg h0 g0, Int.le_trans (Int.mul_le_mul_of_nonneg_right h1 g0) (Int.mul_le_mul_of_nonneg_left g1 (by omega))⟩
theorem peak_in {m : List dOp} {l : List Int} {s : Int} {f t : Nat} (h : RangeOk m l s f t) (R : Bool) (ds micro : Int) : 0 ≤ peakT m R ds ((l.length : Int) + 1) s micro f t ∧ peakT m R ds ((l.length : Int) + 1) s micro f t ≤ 330 := by
  unfold peakT
  split
  · rename_i hc
    obtain ⟨hft, h1, h5, -⟩ := hc
    have hs := h.sizes
    have ht := h.there hft
    have hu := under_in (ds := ds) (n := (l.length : Int) + 1) (s := s) h1 h5 (by omega)
    have hv := saved_in h R
    have hm := mul_in (A := 5) (B := 54) (by omega) hu.2.1 hv.1 hv.2.2
    split <;> omega
  · omega
end Go.Proofs.Ytkflinobmagiiaa

end
