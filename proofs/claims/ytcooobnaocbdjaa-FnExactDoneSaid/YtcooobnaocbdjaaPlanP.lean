/-
  Plans as lists: of what they consist. Of no program.
-/
import Derived.Test.YtcooobnaocbdjaaPlanM
namespace Go.Proofs.Ytcooobnaocbdjaa
set_option linter.unusedVariables false

/-- What a stage does ahead, and back. -/
def aheadK (n s : Int) : List Int := (if 0 < s then [1] else []) ++ ([2] ++ if s < n - 1 then [3] else [])
def backPl (n s : Int) (r : Bool) : List Int := (if s < n - 1 then [4] else []) ++ ((if r = true then [5] else []) ++ ([6] ++ if 0 < s then [7] else []))
def eachP (ks : List Int) (m : Int) : List (Int × Int) := ks.map fun k => (k, m)
theorem aheadK_length (n s : Int) : (aheadK n s).length ≤ 3 := by
  unfold aheadK
  split <;> split <;> simp
theorem backK_length (n s : Int) (r : Bool) : (backPl n s r).length ≤ 4 := by
  unfold backPl
  split <;> split <;> split <;> simp
theorem eachP_length (ks : List Int) (m : Int) : (eachP ks m).length = ks.length := by simp [eachP]
theorem eachP_append (a b : List Int) (m : Int) : eachP (a ++ b) m = eachP a m ++ eachP b m := by simp [eachP]
/-- The first so many that go ahead. -/
def warmL (n s : Int) : Nat → List (Int × Int)
  | 0 => []
  | j + 1 => warmL n s j ++ eachP (aheadK n s) (j : Int)
/-- Then, for each in turn. -/
def turnL (n s m : Int) (r : Bool) (w : Nat) : Nat → List (Int × Int)
  | 0 => []
  | j + 1 => turnL n s m r w j ++ ((if (w : Int) + (j : Int) < m then eachP (aheadK n s) ((w : Int) + (j : Int)) else []) ++ eachP (backPl n s r) (j : Int))
def planB (ds n s m : Int) : Bool := inB 1 2 ds && taskB n s m
def planL (ds n s m : Int) (r : Bool) : List (Int × Int) :=
  if planB ds n s m = true then (warmL n s (warmN ds n s m).toNat ++ turnL n s m r (warmN ds n s m).toNat m.toNat) ++ [(8, 0)] else []
theorem planL_no {ds n s m : Int} {r : Bool} (h : planB ds n s m = false) : planL ds n s m r = [] := by unfold planL; rw [h]; rfl
theorem planL_yes {ds n s m : Int} {r : Bool} (h : planB ds n s m = true) : planL ds n s m r = (warmL n s (warmN ds n s m).toNat ++ turnL n s m r (warmN ds n s m).toNat m.toNat) ++ [(8, 0)] := by unfold planL; rw [if_pos h]
theorem planB_has {ds n s m : Int} (h : planB ds n s m = true) : (ds = 1 ∨ ds = 2) ∧ taskB n s m = true := by
  unfold planB inB at h
  simp only [Bool.and_eq_true, decide_eq_true_eq] at h
  exact ⟨by omega, h.2⟩
theorem warmL_length (n s : Int) : ∀ j, (warmL n s j).length ≤ 3 * j
  | 0 => by simp [warmL]
  | j + 1 => by
    have h1 := warmL_length n s j
    have h2 := aheadK_length n s
    simp only [warmL, List.length_append, eachP_length]
    omega
theorem turnL_length (n s m : Int) (r : Bool) (w : Nat) : ∀ j, (turnL n s m r w j).length ≤ 7 * j
  | 0 => by simp [turnL]
  | j + 1 => by
    have h1 := turnL_length n s m r w j
    have h2 := aheadK_length n s
    have h3 := backK_length n s r
    simp only [turnL, List.length_append, eachP_length]
    split
    · simp only [eachP_length]; omega
    · simp only [List.length_nil]; omega
theorem warmN_range {ds n s m : Int} (h : taskB n s m = true) : 0 ≤ warmN ds n s m ∧ warmN ds n s m ≤ m := by
  obtain ⟨h1, h2, h3, h4, h5, h6⟩ := taskB_has h
  unfold warmN
  rw [if_pos h]
  split <;> omega
theorem planL_length (ds n s m : Int) (r : Bool) : (planL ds n s m r).length ≤ 60 := by
  unfold planL
  split
  · rename_i h
    have ht := (planB_has h).2
    obtain ⟨h1, h2, h3, h4, h5, h6⟩ := taskB_has ht
    obtain ⟨h7, h8⟩ := warmN_range (ds := ds) ht
    have e1 := warmL_length n s (warmN ds n s m).toNat
    have e2 := turnL_length n s m r (warmN ds n s m).toNat m.toNat
    simp only [List.length_append, List.length_singleton]
    omega
  · simp
/-- The kinds from one on that a stage does. -/
def doesB (n s : Int) (r : Bool) (k : Int) : Bool := if k = 1 ∨ k = 7 then decide (0 < s) else if k = 3 ∨ k = 4 then decide (0 < n - 1 - s) else if k = 5 then r else true
def kindsK (n s : Int) (r : Bool) (f : Int) : Nat → List Int
  | 0 => []
  | c + 1 => kindsK n s r f c ++ if doesB n s r (f + (c : Int)) = true then [f + (c : Int)] else []
theorem kindsK_length (n s : Int) (r : Bool) (f : Int) : ∀ c, (kindsK n s r f c).length ≤ c
  | 0 => by simp [kindsK]
  | c + 1 => by
    have h1 := kindsK_length n s r f c
    simp only [kindsK, List.length_append]
    split <;> simp <;> omega
theorem kinds_ahead (n s : Int) (r : Bool) : kindsK n s r 1 3 = aheadK n s := by
  simp [kindsK, doesB, aheadK]
theorem kinds_back (n s : Int) (r : Bool) : kindsK n s r 4 4 = backPl n s r := by
  simp [kindsK, doesB, backPl]
theorem kinds_all (n s : Int) (r : Bool) : kindsK n s r 1 7 = aheadK n s ++ backPl n s r := by
  simp [kindsK, doesB, aheadK, backPl]
end Go.Proofs.Ytcooobnaocbdjaa
