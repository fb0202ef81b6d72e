/-
  Cuts: what comes of them, as plain functions.
-/
import Derived.Test.YtkflinobmagiiaaModM
namespace Go.Proofs.Ytkflinobmagiiaa
open Go.RowKit
set_option linter.unusedVariables false

/-! ### Right cuts -/
def prevC (l : List Int) (j : Nat) : Int := if j = 0 then 0 else l.getD (j - 1) 0
/-- Rises the cut at a place, and is it below the end? -/
def cutAt (n : Nat) (l : List Int) (j : Nat) : Bool := decide (prevC l j < l.getD j 0) && decide (l.getD j 0 < (n : Int))
def cutsB (n : Nat) (l : List Int) : Bool := (List.range l.length).all (cutAt n l)
def cutsOkB (m : List dOp) (l : List Int) : Bool := modelOkB m && cutsB m.length l
theorem cutAt_has {n : Nat} {l : List Int} {j : Nat} (h : cutAt n l j = true) : prevC l j < l.getD j 0 ∧ l.getD j 0 < (n : Int) := by
  unfold cutAt at h
  simpa using h
theorem cutAt_yes {n : Nat} {l : List Int} {j : Nat} (h1 : prevC l j < l.getD j 0) (h2 : l.getD j 0 < (n : Int)) : cutAt n l j = true := by
  unfold cutAt
  rw [decide_eq_true h1, decide_eq_true h2]
  rfl
theorem cutAt_low {n : Nat} {l : List Int} {j : Nat} (h : l.getD j 0 ≤ prevC l j) : cutAt n l j = false := by
  unfold cutAt
  rw [decide_eq_false (by omega)]
  rfl
theorem cutAt_high {n : Nat} {l : List Int} {j : Nat} (h : (n : Int) ≤ l.getD j 0) : cutAt n l j = false := by
  unfold cutAt
  rw [decide_eq_false (p := l.getD j 0 < (n : Int)) (by omega), Bool.and_false]
theorem prevC_zero (l : List Int) : prevC l 0 = 0 := rfl
theorem prevC_succ (l : List Int) (j : Nat) : prevC l (j + 1) = l.getD j 0 := by
  unfold prevC
  rw [if_neg (by omega), Nat.add_sub_cancel]
theorem cuts_rise {n : Nat} {l : List Int} {k : Nat} (h : ∀ j, j < k → cutAt n l j = true) : ∀ j, j ≤ k → (j : Int) ≤ prevC l j
  | 0, _ => by rw [prevC_zero]; omega
  | j + 1, hj => by
    have h1 := cuts_rise h j (by omega)
    have h2 := (cutAt_has (h j (by omega))).1
    rw [prevC_succ]
    omega
theorem cutsB_no {n : Nat} {l : List Int} {k : Nat} (hk : k < l.length) (h : cutAt n l k = false) : cutsB n l = false := range_some hk h
theorem cutsB_all {n : Nat} {l : List Int} (h : ∀ j, j < l.length → cutAt n l j = true) : cutsB n l = true := range_all h
theorem cutsB_has {n : Nat} {l : List Int} (h : cutsB n l = true) : ∀ j, j < l.length → cutAt n l j = true := fun j hj => List.all_eq_true.1 h j (List.mem_range.2 hj)
theorem cutsOk_l {m : List dOp} {l : List Int} (h : modelOkB m = false) : cutsOkB m l = false := by unfold cutsOkB; rw [h]; rfl
theorem cutsOk_r {m : List dOp} {l : List Int} (h : cutsB m.length l = false) : cutsOkB m l = false := by unfold cutsOkB; rw [h, Bool.and_false]
theorem cutsOk_has {m : List dOp} {l : List Int} (h : cutsOkB m l = true) : modelOkB m = true ∧ 1 ≤ m.length ∧ m.length ≤ 8 ∧ (∀ j, j < l.length → cutAt m.length l j = true) ∧ l.length < m.length := by
  unfold cutsOkB at h
  simp only [Bool.and_eq_true] at h
  have hc := cutsB_has h.2
  obtain ⟨-, h1, h2⟩ := modelOk_has h.1
  refine ⟨h.1, h1, h2, hc, ?_⟩
  by_cases h0 : l.length = 0
  · omega
  · have h3 := cuts_rise hc l.length (Nat.le_refl _)
    have h4 := (cutAt_has (hc (l.length - 1) (by omega))).2
    have h5 : prevC l l.length = l.getD (l.length - 1) 0 := by unfold prevC; rw [if_neg h0]
    omega
/-- Where a stage begins: the cut ahead of it, or 0. -/
theorem prevC_le {m : List dOp} {l : List Int} (h : cutsOkB m l = true) (j : Nat) (hj : j ≤ l.length) : 0 ≤ prevC l j ∧ prevC l j < (m.length : Int) := by
  obtain ⟨-, h1, -, hc, -⟩ := cutsOk_has h
  have h2 := cuts_rise (k := l.length) hc j hj
  refine ⟨by omega, ?_⟩
  cases j with
  | zero => rw [prevC_zero]; omega
  | succ j =>
    rw [prevC_succ]
    exact (cutAt_has (hc j (by omega))).2
/-! ### Stages -/
/-- Where a stage ends. -/
def endC (n : Nat) (l : List Int) (j : Nat) : Int := if j < l.length then l.getD j 0 else (n : Int)
def stageB (m : List dOp) (l : List Int) (s : Int) : Bool := cutsOkB m l && inB 0 (l.length : Int) s
def fromC (m : List dOp) (l : List Int) (s : Int) : Int := if stageB m l s then prevC l s.toNat else 0
def toC (m : List dOp) (l : List Int) (s : Int) : Int := if stageB m l s then endC m.length l s.toNat else 0
theorem stageB_has {m : List dOp} {l : List Int} {s : Int} (h : stageB m l s = true) : cutsOkB m l = true ∧ ∃ j : Nat, s = j ∧ j ≤ l.length := by
  unfold stageB at h
  simp only [Bool.and_eq_true] at h
  have := inB_has h.2
  exact ⟨h.1, s.toNat, by omega, by omega⟩
theorem stageB_yes {m : List dOp} {l : List Int} {j : Nat} (h : cutsOkB m l = true) (hj : j ≤ l.length) : stageB m l (j : Int) = true := by
  unfold stageB
  rw [h, inB_yes (by omega) (by omega)]
  rfl
theorem endC_in {m : List dOp} {l : List Int} (h : cutsOkB m l = true) (j : Nat) (hj : j ≤ l.length) : prevC l j < endC m.length l j ∧ endC m.length l j ≤ (m.length : Int) := by
  obtain ⟨-, -, -, hc, -⟩ := cutsOk_has h
  unfold endC
  by_cases hl : j < l.length
  · rw [if_pos hl]
    have := cutAt_has (hc j hl)
    omega
  · rw [if_neg hl]
    have := (prevC_le h j hj).2
    omega
/-- A stage's range lies in the model. -/
theorem range_in (m : List dOp) (l : List Int) (s : Int) : ∃ f t : Nat, fromC m l s = f ∧ toC m l s = t ∧ f ≤ t ∧ t ≤ m.length := by
  unfold fromC toC
  cases h : stageB m l s with
  | false => exact ⟨0, 0, rfl, rfl, Nat.le_refl _, Nat.zero_le _⟩
  | true =>
    obtain ⟨hc, j, rfl, hj⟩ := stageB_has h
    have h1 := prevC_le hc j hj
    have h2 := endC_in hc j hj
    simp only [if_true, Int.toNat_natCast]
    exact ⟨(prevC l j).toNat, (endC m.length l j).toNat, by omega, by omega, by omega, by omega⟩
/-! ### What stages cost -/
def opC (x : dOp) : Int := opCostN x.1 x.2.1 x.2.2.1 x.2.2.2
theorem opC_in (x : dOp) : 0 ≤ opC x ∧ opC x ≤ 36 := by
  unfold opC opCostN
  split
  · rename_i h
    obtain ⟨a, b, ea, eb, ha, hb, -⟩ := opOkB_has h
    rw [ea, eb]
    split
    · have h1 : a * b ≤ 6 * 6 := Nat.mul_le_mul ha.2 hb.2
      have h2 : (a : Int) * (b : Int) = ((a * b : Nat) : Int) := by push_cast; rfl
      rw [h2]
      omega
    · split <;> omega
  · omega
/-- The cost of all ahead of a place. -/
def costTo (m : List dOp) : Nat → Int
  | 0 => 0
  | k + 1 => costTo m k + opC (opAt m k)
theorem costTo_in (m : List dOp) : ∀ k, 0 ≤ costTo m k ∧ costTo m k ≤ 36 * (k : Int)
  | 0 => by simp [costTo]
  | k + 1 => by
    have h1 := costTo_in m k
    have h2 := opC_in (opAt m k)
    unfold costTo
    omega
theorem costTo_le (m : List dOp) {a b : Nat} (h : a ≤ b) : costTo m a ≤ costTo m b := by
  induction b with
  | zero => obtain rfl : a = 0 := by omega
            exact Int.le_refl _
  | succ b ih =>
    by_cases e : a = b + 1
    · rw [e]; exact Int.le_refl _
    · have h1 := ih (by omega)
      have h2 := opC_in (opAt m b)
      show costTo m a ≤ costTo m b + opC (opAt m b)
      omega
def costC (m : List dOp) (l : List Int) (s : Int) : Int := costTo m (toC m l s).toNat - costTo m (fromC m l s).toNat
theorem costC_in (m : List dOp) (l : List Int) (s : Int) : 0 ≤ costC m l s ∧ costC m l s ≤ 288 := by
  unfold costC
  obtain ⟨f, t, e1, e2, h1, h2⟩ := range_in m l s
  rw [e1, e2, Int.toNat_natCast, Int.toNat_natCast]
  have h3 := costTo_le m h1
  have h4 := costTo_in m f
  have h5 := costTo_in m t
  cases h : stageB m l s with
  | false =>
    have e3 : toC m l s = 0 := by unfold toC; rw [h]; rfl
    obtain rfl : t = 0 := by omega
    obtain rfl : f = 0 := by omega
    omega
  | true =>
    obtain ⟨-, -, h8, -⟩ := cutsOk_has (stageB_has h).1
    omega
/-- The greatest cost of the first k stages. -/
def maxTo (m : List dOp) (l : List Int) : Nat → Int
  | 0 => 0
  | k + 1 => max (maxTo m l k) (costC m l (k : Int))
def maxC (m : List dOp) (l : List Int) : Int := if cutsOkB m l then maxTo m l (l.length + 1) else 0
theorem maxTo_in (m : List dOp) (l : List Int) : ∀ k, 0 ≤ maxTo m l k ∧ maxTo m l k ≤ 288
  | 0 => by simp [maxTo]
  | k + 1 => by
    have h1 := maxTo_in m l k
    have h2 := costC_in m l (k : Int)
    unfold maxTo
    omega
theorem maxC_in (m : List dOp) (l : List Int) : 0 ≤ maxC m l ∧ maxC m l ≤ 288 := by
  unfold maxC
  split
  · exact maxTo_in m l _
  · omega
theorem maxTo_ge (m : List dOp) (l : List Int) {j k : Nat} (h : j < k) : costC m l (j : Int) ≤ maxTo m l k := by
  induction k with
  | zero => omega
  | succ k ih =>
    unfold maxTo
    by_cases e : j = k
    · subst e; omega
    · have := ih (by omega); omega
theorem maxC_yes {m : List dOp} {l : List Int} (h : cutsOkB m l = true) : maxC m l = maxTo m l (l.length + 1) := by unfold maxC; rw [if_pos h]
theorem maxC_no {m : List dOp} {l : List Int} (h : cutsOkB m l = false) : maxC m l = 0 := by unfold maxC; rw [if_neg (by rw [h]; decide)]
/-! ### All ways -/
/-- The ways to cut so many operations c times, no cut ahead of lo. -/
def waysFrom (n : Nat) : Nat → Nat → List (List Int)
  | 0, _ => [[]]
  | c + 1, lo => ((List.range n).filter fun x => decide (lo ≤ x)).flatMap fun x => (waysFrom n c (x + 1)).map fun l => (x : Int) :: l
/-- All ways to cut n operations in k stages. -/
def ways (n k : Nat) : List (List Int) := waysFrom n (k - 1) 1
def stuckB (n : Nat) (l : List Int) (j : Nat) : Bool := !decide (l.getD j 0 + ((l.length - j : Nat) : Int) < (n : Int))
/-- The next way is made of one at a place. -/
def nextAt (l : List Int) (i : Nat) : List Int := mapK (fun j => if j < i then l.getD j 0 else l.getD i 0 + 1 + ((j - i : Nat) : Int)) l.length
def firstW (c : Nat) : List Int := mapK (fun j => 1 + (j : Int)) c
/-- Follows the one on the other? -/
def stepWayB (n : Nat) (l l' : List Int) : Bool := (List.range l.length).any fun i => !stuckB n l i && ((List.range l.length).all fun j => decide (j ≤ i) || stuckB n l j) && decide (l' = nextAt l i)
def lastWayB (n : Nat) (l : List Int) : Bool := (List.range l.length).all (stuckB n l)
def chainWayB (n : Nat) : List (List Int) → Bool
  | [] => false
  | [l] => lastWayB n l
  | l :: l' :: r => stepWayB n l l' && chainWayB n (l' :: r)
/-- All that is asked of the ways, checked one by one. -/
def waysB (n k : Nat) : Bool := chainWayB n (ways n k) && decide ((ways n k)[0]? = some (firstW (k - 1))) && (ways n k).all (fun l => decide (l.length = k - 1) && cutsB n l) && decide ((ways n k).length ≤ 35) && decide (1 ≤ (ways n k).length)
theorem ways_checked : ((List.range 9).all fun n => (List.range 9).all fun k => !(decide (1 ≤ k) && decide (k ≤ n)) || waysB n k) = true := by decide +kernel
theorem waysB_in {n k : Nat} (hk : 1 ≤ k) (hn : k ≤ n) (h8 : n ≤ 8) : waysB n k = true := by
  have h1 := List.all_eq_true.1 ways_checked n (List.mem_range.2 (by omega))
  have h2 := List.all_eq_true.1 h1 k (List.mem_range.2 (by omega))
  rw [decide_eq_true hk, decide_eq_true hn] at h2
  simpa using h2
theorem chain_step {n : Nat} : ∀ {L : List (List Int)} {p : Nat} {l l' : List Int}, chainWayB n L = true → L[p]? = some l → L[p + 1]? = some l' → stepWayB n l l' = true
  | [], _, _, _, h, _, _ => by cases h
  | [_], p, _, _, _, _, h2 => by simp at h2
  | a :: b :: r, 0, _, _, h, h1, h2 => by
    simp only [chainWayB, Bool.and_eq_true] at h
    simp only [List.getElem?_cons_zero, List.getElem?_cons_succ, Option.some.injEq] at h1 h2
    subst h1 h2
    exact h.1
  | a :: b :: r, p + 1, _, _, h, h1, h2 => by
    simp only [chainWayB, Bool.and_eq_true] at h
    rw [List.getElem?_cons_succ] at h1 h2
    exact chain_step h.2 h1 h2
theorem chain_last {n : Nat} : ∀ {L : List (List Int)} {p : Nat} {l : List Int}, chainWayB n L = true → L[p]? = some l → L.length = p + 1 → lastWayB n l = true
  | [], _, _, h, _, _ => by cases h
  | [a], 0, _, h, h1, _ => by
    simp only [List.getElem?_cons_zero, Option.some.injEq] at h1
    subst h1
    exact h
  | [_], p + 1, _, _, h1, _ => by simp at h1
  | a :: b :: r, 0, _, _, _, h2 => by simp at h2
  | a :: b :: r, p + 1, _, h, h1, h2 => by
    simp only [chainWayB, Bool.and_eq_true] at h
    rw [List.getElem?_cons_succ] at h1
    exact chain_last h.2 h1 (by simpa using h2)
structure WaysAt (n k : Nat) : Prop where
  first : (ways n k)[0]? = some (firstW (k - 1))
  len : ∀ (p : Nat) (l : List Int), (ways n k)[p]? = some l → l.length = k - 1 ∧ cutsB n l = true
  step : ∀ (p : Nat) (l l' : List Int), (ways n k)[p]? = some l → (ways n k)[p + 1]? = some l' → ∃ i, i < k - 1 ∧ stuckB n l i = false ∧ (∀ j, i < j → j < k - 1 → stuckB n l j = true) ∧ l' = nextAt l i
  last : ∀ (p : Nat) (l : List Int), (ways n k)[p]? = some l → (ways n k).length = p + 1 → ∀ j, j < k - 1 → stuckB n l j = true
  few : (ways n k).length ≤ 35
  some : 1 ≤ (ways n k).length
theorem ways_at {n k : Nat} (hk : 1 ≤ k) (hn : k ≤ n) (h8 : n ≤ 8) : WaysAt n k := by
  have h := waysB_in hk hn h8
  unfold waysB at h
  simp only [Bool.and_eq_true, decide_eq_true_eq, List.all_eq_true] at h
  obtain ⟨⟨⟨⟨h1, h2⟩, h3⟩, h4⟩, h5⟩ := h
  have hlen : ∀ (p : Nat) (l : List Int), (ways n k)[p]? = .some l → l.length = k - 1 ∧ cutsB n l = true := fun p l hl => h3 l (List.mem_of_getElem? hl)
  refine ⟨h2, hlen, fun p l l' hl hl' => ?_, fun p l hl he j hj => ?_, h4, h5⟩
  · have hs := chain_step h1 hl hl'
    unfold stepWayB at hs
    simp only [List.any_eq_true, List.mem_range, Bool.and_eq_true, Bool.not_eq_true', List.all_eq_true, Bool.or_eq_true, decide_eq_true_eq] at hs
    obtain ⟨i, hi, ⟨s1, s2⟩, s3⟩ := hs
    have e := (hlen p l hl).1
    refine ⟨i, by omega, s1, fun j hj hjk => ?_, s3⟩
    exact (s2 j (by omega)).resolve_left (by omega)
  · have hs := chain_last h1 hl he
    unfold lastWayB at hs
    have e := (hlen p l hl).1
    exact List.all_eq_true.1 hs j (List.mem_range.2 (by omega))
/-- Ways rise: each has a greater rank than the one ahead. -/
def rankW (l : List Int) : Nat := l.foldl (fun a x => a * 9 + x.toNat) 0
def rankedB : List (List Int) → Bool
  | [] => true
  | [l] => decide (rankW l < 5000000)
  | l :: l' :: r => decide (rankW l < rankW l') && rankedB (l' :: r)
theorem ways_ranked : ((List.range 9).all fun n => (List.range 9).all fun k => !(decide (1 ≤ k) && decide (k ≤ n)) || rankedB (ways n k)) = true := by decide +kernel
theorem ranked_in {n k : Nat} (hk : 1 ≤ k) (hn : k ≤ n) (h8 : n ≤ 8) : rankedB (ways n k) = true := by
  have h1 := List.all_eq_true.1 ways_ranked n (List.mem_range.2 (by omega))
  have h2 := List.all_eq_true.1 h1 k (List.mem_range.2 (by omega))
  rw [decide_eq_true hk, decide_eq_true hn] at h2
  simpa using h2
theorem ranked_step : ∀ {L : List (List Int)} {p : Nat} {l l' : List Int}, rankedB L = true → L[p]? = some l → L[p + 1]? = some l' → rankW l < rankW l'
  | [], _, _, _, _, h1, _ => by simp at h1
  | [_], p, _, _, _, _, h2 => by simp at h2
  | a :: b :: r, 0, _, _, h, h1, h2 => by
    simp only [rankedB, Bool.and_eq_true, decide_eq_true_eq] at h
    simp only [List.getElem?_cons_zero, List.getElem?_cons_succ, Option.some.injEq] at h1 h2
    subst h1 h2
    exact h.1
  | a :: b :: r, p + 1, _, _, h, h1, h2 => by
    simp only [rankedB, Bool.and_eq_true, decide_eq_true_eq] at h
    rw [List.getElem?_cons_succ] at h1 h2
    exact ranked_step h.2 h1 h2
theorem ranked_top : ∀ {L : List (List Int)} {p : Nat} {l : List Int}, rankedB L = true → L[p]? = some l → rankW l < 5000000
  | [], _, _, _, h1 => by simp at h1
  | [a], 0, _, h, h1 => by
    simp only [rankedB, decide_eq_true_eq] at h
    simp only [List.getElem?_cons_zero, Option.some.injEq] at h1
    subst h1
    exact h
  | [_], p + 1, _, _, h1 => by simp at h1
  | a :: b :: r, 0, _, h, h1 => by
    simp only [rankedB, Bool.and_eq_true, decide_eq_true_eq] at h
    simp only [List.getElem?_cons_zero, Option.some.injEq] at h1
    subst h1
    have := ranked_top (p := 0) h.2 rfl
    omega
  | a :: b :: r, p + 1, _, h, h1 => by
    simp only [rankedB, Bool.and_eq_true, decide_eq_true_eq] at h
    rw [List.getElem?_cons_succ] at h1
    exact ranked_top h.2 h1
theorem stage_j {m : List dOp} {l : List Int} {j : Nat} (h : cutsOkB m l = true) (hj : j ≤ l.length) : fromC m l (j : Int) = prevC l j ∧ toC m l (j : Int) = endC m.length l j := by
  unfold fromC toC
  rw [stageB_yes h hj, Int.toNat_natCast]
  exact ⟨rfl, rfl⟩
theorem stage_no {m : List dOp} {l : List Int} {s : Int} (h : stageB m l s = false) : fromC m l s = 0 ∧ toC m l s = 0 := by
  unfold fromC toC
  rw [h]
  exact ⟨rfl, rfl⟩
theorem stageB_l {m : List dOp} {l : List Int} {s : Int} (h : cutsOkB m l = false) : stageB m l s = false := by unfold stageB; rw [h]; rfl
theorem stageB_r {m : List dOp} {l : List Int} {s : Int} (h : inB 0 (l.length : Int) s = false) : stageB m l s = false := by unfold stageB; rw [h, Bool.and_false]
theorem prevC_pos {l : List Int} {i j : Nat} (h : j = i + 1) : prevC l j = l.getD i 0 := by subst h; exact prevC_succ l i
theorem endC_lt {n : Nat} {l : List Int} {j : Nat} (h : j < l.length) : endC n l j = l.getD j 0 := if_pos h
theorem endC_ge {n : Nat} {l : List Int} {j : Nat} (h : ¬ j < l.length) : endC n l j = (n : Int) := if_neg h
theorem fill_model {m : List dOp} {k : Nat} {x : dOp} (hx : m[k]? = some x) : costTo m (k + 1) = costTo m k + opC x := by
  show costTo m k + opC (opAt m k) = _
  rw [opAt_get hx]
theorem maxTo_succ (m : List dOp) (l : List Int) (k : Nat) : maxTo m l (k + 1) = max (maxTo m l k) (costC m l (k : Int)) := rfl
end Go.Proofs.Ytkflinobmagiiaa
