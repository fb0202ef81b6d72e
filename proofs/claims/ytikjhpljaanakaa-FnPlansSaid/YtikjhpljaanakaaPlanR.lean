/-
  Right plans, of lists. Of no program.
-/
import Derived.Test.YtikjhpljaanakaaPlanQ
namespace Go.Proofs.Ytikjhpljaanakaa
set_option linter.unusedVariables false

def ksB (b1 b2 r : Bool) : List Int := ((if b1 = true then [1] else []) ++ ([2] ++ if b2 = true then [3] else [])) ++ ((if b2 = true then [4] else []) ++ ((if r = true then [5] else []) ++ ([6] ++ if b1 = true then [7] else [])))
def kindsB (l : List Int) : Bool :=
  decide (0 < l.length) && (decide (l.length ≤ 7) && ((List.range l.length).all fun a => (List.range l.length).all fun b => (decide (l.getD a 0 ≠ l.getD b 0) || decide (a = b)) && decide (l.getD a 0 ≠ 8)))
theorem ksB_ok : ∀ b1 b2 r : Bool, kindsB (ksB b1 b2 r) = true := by decide
theorem ks_ksB (n s : Int) (r : Bool) : kindsK n s r 1 7 = ksB (decide (0 < s)) (decide (s < n - 1)) r := by
  rw [kinds_all]
  unfold ksB aheadK backK
  simp only [decide_eq_true_eq]
def kkX (n s : Int) (r : Bool) (k : Nat) : Int := (kindsK n s r 1 7).getD k 0
theorem kinds_has {l : List Int} (h : kindsB l = true) : 0 < l.length ∧ l.length ≤ 7 ∧ Kinds (fun k => l.getD k 0) l.length := by
  unfold kindsB at h
  simp only [Bool.and_eq_true, decide_eq_true_eq, List.all_eq_true, List.mem_range, Bool.or_eq_true] at h
  obtain ⟨h1, h2, h3⟩ := h
  refine ⟨h1, h2, fun a b ha hb e => ?_, fun a ha => (h3 a ha a ha).2⟩
  rcases (h3 a ha b hb).1 with h4 | h4
  · exact absurd e h4
  · exact h4
theorem kinds_ok (n s : Int) (r : Bool) : 0 < (kindsK n s r 1 7).length ∧ (kindsK n s r 1 7).length ≤ 7 ∧ Kinds (kkX n s r) (kindsK n s r 1 7).length := by
  have h := ksB_ok (decide (0 < s)) (decide (s < n - 1)) r
  rw [← ks_ksB] at h
  exact kinds_has h
def gX (xs : List (Int × Int)) (p : Nat) : Int × Int := xs.getD p (0, 0)
/-- A plan is right. -/
structure PlanOkP (xs : List (Int × Int)) (n s m : Int) (r : Bool) : Prop where
  task : taskB n s m = true
  some : 0 < xs.length
  last : gX xs (xs.length - 1) = (8, 0)
  impl : ImplG (gX xs) (kkX n s r) (kindsK n s r 1 7).length m.toNat (xs.length - 1)

/-- What the program counts: all, and how many are through each kind. -/
def thrL (g : Nat → Int × Int) (kk : Nat → Int) (M K p : Nat) : List Int := (M : Int) :: (List.range K).map fun k => (cntG g (kk k) p : Int)
theorem thrL_length (g : Nat → Int × Int) (kk : Nat → Int) (M K p : Nat) : (thrL g kk M K p).length = K + 1 := by simp [thrL]
theorem thrL_zero (g : Nat → Int × Int) (kk : Nat → Int) (M K : Nat) : thrL g kk M K 0 = (List.replicate (K + 1) 0).set 0 (M : Int) := by
  rw [List.replicate_succ, List.set_cons_zero]
  show (M : Int) :: _ = _
  congr 1
  refine List.ext_getElem? fun i => ?_
  by_cases hi : i < K
  · simp [hi, cntG]
  · rw [List.getElem?_eq_none (by simp; omega), List.getElem?_eq_none (by simp; omega)]
theorem thrL_succ {g : Nat → Int × Int} {kk : Nat → Int} {M K p k : Nat} (hk : k < K) : (thrL g kk M K p).getD (k + 1) 0 = (cntG g (kk k) p : Int) := by
  show ((List.range K).map fun k => (cntG g (kk k) p : Int)).getD k 0 = _
  simp [List.getD, hk]
theorem thrL_prev {g : Nat → Int × Int} {kk : Nat → Int} {M K p k : Nat} (hk : k < K) : (thrL g kk M K p).getD k 0 = (prevG g kk M k p : Int) := by
  cases k with
  | zero => rfl
  | succ k =>
    rw [thrL_succ (by omega)]
    unfold prevG
    rw [if_neg (by omega), Nat.add_sub_cancel]
theorem thrL_step {g : Nat → Int × Int} {kk : Nat → Int} {M K p k : Nat} (hK : Kinds kk K) (hk : k < K) (hg : (g p).1 = kk k) : thrL g kk M K (p + 1) = (thrL g kk M K p).set (k + 1) ((cntG g (kk k) p : Int) + 1) := by
  show (M : Int) :: _ = ((M : Int) :: _).set (k + 1) _
  rw [List.set_cons_succ]
  congr 1
  refine List.ext_getElem? fun i => ?_
  by_cases hi : i < K
  · by_cases e : i = k
    · subst e
      rw [List.getElem?_set_self (by simpa using hi)]
      simp [hi, cnt_hit hg]
    · rw [List.getElem?_set_ne (fun e2 => e e2.symm)]
      have : ¬ (g p).1 = kk i := fun e2 => e (hK.inj i k hi hk (e2.symm.trans hg))
      simp [hi, cnt_miss this]
  · rw [List.getElem?_eq_none (by simp; omega), List.getElem?_eq_none (by simp; omega)]
end Go.Proofs.Ytikjhpljaanakaa
