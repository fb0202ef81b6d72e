/-
  The texts of numbers with a point: plain facts.
-/
import Derived.Test.YthficfeiomddmaaDoorReadDecM
import Derived.Test.YthficfeiomddmaaDoorSat
import Derived.Lib.IndexLaws
namespace Go.Proofs.YthficfeiomddmaaDoor

/-- The text of a number with a point; none where it is not in the range. -/
def showP (n : Int) : List UInt8 := (if n < 0 then [45] else []) ++ (Lib.itoa ((n.natAbs / 65536 : Nat) : Int) ++ 43 :: Lib.itoa ((n.natAbs % 65536 : Nat) : Int))
def showL (n : Int) : List UInt8 := if -2147483647 ≤ n ∧ n ≤ 2147483647 then showP n else []
theorem showL_in {n : Int} (h0 : -2147483647 ≤ n) (h1 : n ≤ 2147483647) : showL n = showP n := if_pos ⟨h0, h1⟩
theorem showL_out {n : Int} (h : n < -2147483647 ∨ 2147483647 < n) : showL n = [] := if_neg (by omega)

theorem dig_ne43 (k : Nat) (h : k < 10) : UInt8.ofNat (48 + k) ≠ 43 := by
  intro e
  have := congrArg UInt8.toNat e
  rw [dig_toNat k h] at this
  have h43 : (43 : UInt8).toNat = 43 := rfl
  omega
theorem decDigits_no43 (u : Nat) : 43 ∉ Lib.decDigits u := by
  induction u using Nat.strongRecOn with
  | _ u ih =>
    by_cases h : u < 10
    · rw [decDigits_small h]
      simp only [List.mem_singleton]
      exact fun e => dig_ne43 u h e.symm
    · rw [decDigits_big h, List.mem_append]
      intro hm
      rcases hm with hm | hm
      · exact ih (u / 10) (by omega) hm
      · simp only [List.mem_singleton] at hm
        exact dig_ne43 _ (by omega) hm.symm
theorem itoa_nat (u : Nat) : Lib.itoa (u : Int) = Lib.decDigits u := by
  rw [itoa_pos' (by omega)]
  simp
/-- Where the + stands. -/
def ixP (l : List UInt8) : Nat := l.findIdx (· == 43)
theorem ixP_le (l : List UInt8) : ixP l ≤ l.length := List.findIdx_le_length
theorem ixP_app {a b : List UInt8} (h : 43 ∉ a) : ixP (a ++ 43 :: b) = a.length := by
  induction a with
  | nil => rfl
  | cons c t ih =>
    simp only [List.mem_cons, not_or] at h
    have hc : (c == 43) = false := by rw [beq_eq_false_iff_ne]; exact fun e => h.1 e.symm
    simp only [List.cons_append, ixP, List.findIdx_cons, hc, List.length_cons] at ih ⊢
    rw [show List.findIdx (fun x => x == 43) (t ++ 43 :: b) = t.length from ih h.2]
    simp
theorem ixP_cons (c : UInt8) (l : List UInt8) : ixP (c :: l) = if c = 43 then 0 else ixP l + 1 := by
  unfold ixP
  rw [List.findIdx_cons]
  by_cases h : c = 43
  · simp [h]
  · have hc : (c == 43) = false := by rw [beq_eq_false_iff_ne]; exact h
    simp [hc, h]
theorem ixP_index (l : List UInt8) : Lib.indexByte l 43 = if ixP l < l.length then (ixP l : Int) else -1 := by
  induction l with
  | nil => rfl
  | cons c t ih =>
    rw [Lib.indexByte, ixP_cons, ih]
    by_cases h : c = 43
    · simp [h]
    · have hc : (c == 43) = false := by rw [beq_eq_false_iff_ne]; exact h
      have hle := ixP_le t
      rw [if_neg (by simp [hc]), if_neg h]
      by_cases hl : ixP t < t.length
      · rw [if_pos hl, if_neg (by simp), if_pos (by simpa using hl)]
        omega
      · rw [if_neg hl, if_pos (by simp), if_neg (by simpa using hl)]
/-- What stands at the place that is searched for. -/
theorem ixP_at {l : List UInt8} {k : Nat} (hk : k < l.length) (h1 : l.getD k 0 = 43) (h2 : ∀ j, j < k → l.getD j 0 ≠ 43) : ixP l = k := by
  have hk' : l[k] = 43 := by simpa [List.getD, hk] using h1
  refine (List.findIdx_eq hk).2 ⟨by simp [hk'], fun j hj => ?_⟩
  have := h2 j hj
  have hj' : j < l.length := by omega
  simp [List.getD, hj'] at this
  simpa using this
theorem ixP_none {l : List UInt8} (h2 : ∀ j, j < l.length → l.getD j 0 ≠ 43) : ixP l = l.length := by
  refine List.findIdx_eq_length.2 fun x hx => ?_
  obtain ⟨j, hj, e⟩ := List.mem_iff_getElem.1 hx
  have := h2 j hj
  simp [List.getD, hj] at this
  rw [← e]
  simpa using this

/-! ### What is read of a text -/
/-- Behind the sign. -/
def unsign (l : List UInt8) : List UInt8 := if l.head? = some 45 then l.drop 1 else l
theorem head_digits (u : Nat) (t : List UInt8) : ¬ (Lib.decDigits u ++ t).head? = some 45 := by
  obtain ⟨k, r, hk, e⟩ := decDigits_head u
  rw [e]
  simp only [List.cons_append, List.head?_cons, Option.some.injEq]
  exact dig_ne45 k hk
theorem rdO_nat {u : Nat} (h : u < 1000000000) : rdO (Lib.decDigits u) = some (u : Int) := rdO_of (itoa_nat u) (by omega)
/-- The number that the two parts make. -/
def glue (neg : Bool) (a b : Int) : Int := if neg then -(a * 65536 + b) else a * 65536 + b
/-- The number that the program makes of a text: its parts as they come. -/
def fixI_ (l : List UInt8) : Int :=
  glue (decide ((l.take (ixP l)).head? = some 45)) ((rdO (unsign (l.take (ixP l)))).getD 0) ((rdO (l.drop (ixP l + 1))).getD 0)
theorem showP_neg {n : Int} (h : n < 0) : showP n = 45 :: (Lib.decDigits (n.natAbs / 65536) ++ 43 :: Lib.decDigits (n.natAbs % 65536)) := by
  rw [showP, if_pos h, itoa_nat, itoa_nat]; rfl
theorem showP_pos {n : Int} (h : ¬ n < 0) : showP n = Lib.decDigits (n.natAbs / 65536) ++ 43 :: Lib.decDigits (n.natAbs % 65536) := by
  rw [showP, if_neg h, itoa_nat, itoa_nat]; rfl
theorem fixI_show {n : Int} (h0 : -2147483647 ≤ n) (h1 : n ≤ 2147483647) : fixI_ (showL n) = n := by
  rw [showL_in h0 h1]
  by_cases h : n < 0
  · rw [showP_neg h]
    have hi : ixP (45 :: (Lib.decDigits (n.natAbs / 65536) ++ 43 :: Lib.decDigits (n.natAbs % 65536))) = (Lib.decDigits (n.natAbs / 65536)).length + 1 := by
      rw [ixP_cons, if_neg (by decide), ixP_app (decDigits_no43 _)]
    have ht : (45 :: (Lib.decDigits (n.natAbs / 65536) ++ 43 :: Lib.decDigits (n.natAbs % 65536))).take ((Lib.decDigits (n.natAbs / 65536)).length + 1) = 45 :: Lib.decDigits (n.natAbs / 65536) := by
      simp
    have hd : (45 :: (Lib.decDigits (n.natAbs / 65536) ++ 43 :: Lib.decDigits (n.natAbs % 65536))).drop ((Lib.decDigits (n.natAbs / 65536)).length + 1 + 1) = Lib.decDigits (n.natAbs % 65536) := by
      simp
    rw [fixI_, hi, ht, hd, unsign, if_pos (by rfl), List.drop_one, List.tail_cons, rdO_nat (by omega), rdO_nat (by omega), glue, if_pos (by simp)]
    simp only [Option.getD_some]
    omega
  · rw [showP_pos h]
    have hi : ixP (Lib.decDigits (n.natAbs / 65536) ++ 43 :: Lib.decDigits (n.natAbs % 65536)) = (Lib.decDigits (n.natAbs / 65536)).length := ixP_app (decDigits_no43 _)
    have ht : (Lib.decDigits (n.natAbs / 65536) ++ 43 :: Lib.decDigits (n.natAbs % 65536)).take (Lib.decDigits (n.natAbs / 65536)).length = Lib.decDigits (n.natAbs / 65536) := by simp
    have hd : (Lib.decDigits (n.natAbs / 65536) ++ 43 :: Lib.decDigits (n.natAbs % 65536)).drop ((Lib.decDigits (n.natAbs / 65536)).length + 1) = Lib.decDigits (n.natAbs % 65536) := by
      rw [← List.drop_drop]; simp
    have hh : ¬ (Lib.decDigits (n.natAbs / 65536)).head? = some 45 := by
      have := head_digits (n.natAbs / 65536) []
      rwa [List.append_nil] at this
    rw [fixI_, hi, ht, hd, unsign, if_neg hh, rdO_nat (by omega), rdO_nat (by omega), glue, if_neg (by simp [hh])]
    simp only [Option.getD_some]
    omega
theorem rdO_bound (l : List UInt8) : -1000000000 < (rdO l).getD 0 ∧ (rdO l).getD 0 < 1000000000 := by
  by_cases h : Lib.itoa (pD l) = l ∧ -1000000000 < pD l ∧ pD l < 1000000000
  · rw [rdO_some h]; exact h.2
  · rw [rdO_none h]; simp

/-- The number of which ShowFix makes l. -/
def rfO (l : List UInt8) : Option Int := if showL (fixI_ l) = l ∧ -2147483647 ≤ fixI_ l ∧ fixI_ l ≤ 2147483647 then some (fixI_ l) else none
theorem fixI_nil : fixI_ [] = 0 := by
  have e : rdO [] = none := rdO_none (by
    intro h
    have := h.1
    have hp : pD [] = 0 := rfl
    rw [hp] at this
    have h0 : Lib.itoa 0 = Lib.decDigits 0 := itoa_nat 0
    rw [h0, decDigits_small (by omega)] at this
    cases this)
  simp [fixI_, ixP, unsign, e, glue]
theorem show0_ne : showL 0 ≠ [] := by
  rw [showL_in (by omega) (by omega), showP_pos (by omega)]
  simp
theorem rfO_yes {l : List UInt8} (h : showL (fixI_ l) = l) : rfO l = some (fixI_ l) := by
  refine if_pos ⟨h, ?_⟩
  by_cases hr : -2147483647 ≤ fixI_ l ∧ fixI_ l ≤ 2147483647
  · exact hr
  · rw [showL_out (by omega)] at h
    subst h
    rw [fixI_nil]
    omega
theorem rfO_no {l : List UInt8} (h : showL (fixI_ l) ≠ l) : rfO l = none := if_neg fun hh => h hh.1
theorem rfO_of {l : List UInt8} {n : Int} (h0 : -2147483647 ≤ n) (h1 : n ≤ 2147483647) (h : showL n = l) : rfO l = some n := by
  have e : fixI_ l = n := by rw [← h, fixI_show h0 h1]
  have := rfO_yes (l := l) (by rw [e]; exact h)
  rwa [e] at this
theorem rfO_not {l : List UInt8} (h : ∀ n, -2147483647 ≤ n → n ≤ 2147483647 → showL n ≠ l) : rfO l = none := if_neg fun hh => h _ hh.2.1 hh.2.2 hh.1
theorem rfO_out {l : List UInt8} {n : Int} (h : rfO l = some n) : showL n = l ∧ -2147483647 ≤ n ∧ n ≤ 2147483647 := by
  unfold rfO at h
  split at h
  · injection h with h
    rename_i hh
    rw [← h]
    exact hh
  · cases h

/-! ### What the model reads -/
/-- It searches behind the sign. -/
theorem show_unsign {n : Int} (h0 : -2147483647 ≤ n) (h1 : n ≤ 2147483647) : unsign (showL n) = Lib.decDigits (n.natAbs / 65536) ++ 43 :: Lib.decDigits (n.natAbs % 65536) := by
  rw [showL_in h0 h1]
  by_cases h : n < 0
  · rw [showP_neg h, unsign, if_pos (by rfl)]; rfl
  · rw [showP_pos h, unsign, if_neg (head_digits _ _)]
/-- What the model finds in a text that is one. -/
theorem show_parts {n : Int} (h0 : -2147483647 ≤ n) (h1 : n ≤ 2147483647) :
    ixP (unsign (showL n)) < (unsign (showL n)).length ∧ rdO ((unsign (showL n)).take (ixP (unsign (showL n)))) = some ((n.natAbs / 65536 : Nat) : Int) ∧ rdO ((unsign (showL n)).drop (ixP (unsign (showL n)) + 1)) = some ((n.natAbs % 65536 : Nat) : Int)
      ∧ ((unsign (showL n)).length < (showL n).length ↔ n < 0) := by
  have hu := show_unsign h0 h1
  have hi : ixP (Lib.decDigits (n.natAbs / 65536) ++ 43 :: Lib.decDigits (n.natAbs % 65536)) = (Lib.decDigits (n.natAbs / 65536)).length := ixP_app (decDigits_no43 _)
  have ht : (Lib.decDigits (n.natAbs / 65536) ++ 43 :: Lib.decDigits (n.natAbs % 65536)).take (Lib.decDigits (n.natAbs / 65536)).length = Lib.decDigits (n.natAbs / 65536) := by simp
  have hd : (Lib.decDigits (n.natAbs / 65536) ++ 43 :: Lib.decDigits (n.natAbs % 65536)).drop ((Lib.decDigits (n.natAbs / 65536)).length + 1) = Lib.decDigits (n.natAbs % 65536) := by
    rw [← List.drop_drop]; simp
  refine ⟨by rw [hu, hi]; simp, by rw [hu, hi, ht, rdO_nat (by omega)], by rw [hu, hi, hd, rdO_nat (by omega)], ?_⟩
  rw [hu, showL_in h0 h1]
  by_cases h : n < 0
  · rw [showP_neg h]; simp [h]
  · rw [showP_pos h]; simp [h]
theorem sp_none {l : List UInt8} (h : ¬ ixP (unsign l) < (unsign l).length) : rfO l = none := rfO_not fun n h0 h1 e => by
  have := show_parts h0 h1
  rw [e] at this
  exact h this.1
/-- The parts as the model asks of them. -/
theorem sp_bad {l : List UInt8} {k : Nat} (hk : ixP (unsign l) = k)
    (h : ¬ ((rdO ((unsign l).take k)).isSome = true ∧ (rdO ((unsign l).drop (k + 1))).isSome = true ∧ 0 ≤ (rdO ((unsign l).take k)).getD 0 ∧ 0 ≤ (rdO ((unsign l).drop (k + 1))).getD 0 ∧ (rdO ((unsign l).take k)).getD 0 ≤ 32767 ∧ (rdO ((unsign l).drop (k + 1))).getD 0 < 65536)) : rfO l = none := rfO_not fun n h0 h1 e => by
  have hp := show_parts h0 h1
  rw [e, hk] at hp
  obtain ⟨p1, p2, p3, p4⟩ := hp
  refine h ?_
  rw [p2, p3]
  simp only [Option.isSome_some, Option.getD_some, true_and]
  omega
theorem sp_good {l : List UInt8} {k : Nat} (hk : ixP (unsign l) = k)
    (h : (rdO ((unsign l).take k)).isSome = true ∧ (rdO ((unsign l).drop (k + 1))).isSome = true ∧ 0 ≤ (rdO ((unsign l).take k)).getD 0 ∧ 0 ≤ (rdO ((unsign l).drop (k + 1))).getD 0 ∧ (rdO ((unsign l).take k)).getD 0 ≤ 32767 ∧ (rdO ((unsign l).drop (k + 1))).getD 0 < 65536)
    {n : Int} (hn : n = glue (decide ((unsign l).length < l.length)) ((rdO ((unsign l).take k)).getD 0) ((rdO ((unsign l).drop (k + 1))).getD 0)) :
    (showL n = l → rfO l = some n) ∧ (showL n ≠ l → rfO l = none) := by
  refine ⟨fun e => ?_, fun he => rfO_not fun m h0 h1 e => ?_⟩
  · refine rfO_of ?_ ?_ e
    · rw [hn, glue]; split <;> omega
    · rw [hn, glue]; split <;> omega
  · have hp := show_parts h0 h1
    rw [e, hk] at hp
    obtain ⟨p1, p2, p3, p4⟩ := hp
    rw [p2, p3] at hn
    simp only [Option.getD_some] at hn
    have hm : n = m := by
      rw [hn, glue]
      by_cases hneg : m < 0
      · rw [if_pos (by simpa using p4.2 hneg)]; omega
      · rw [if_neg (by simpa using fun q => hneg (p4.1 q))]; omega
    rw [hm] at he
    exact he e
theorem showL_length (n : Int) : (showL n).length ≤ 30 := by
  by_cases h : -2147483647 ≤ n ∧ n ≤ 2147483647
  · have a := (decDigits_len9 (n.natAbs / 65536)).2 (by omega)
    have b := (decDigits_len9 (n.natAbs % 65536)).2 (by omega)
    rw [showL_in h.1 h.2]
    by_cases hn : n < 0
    · rw [showP_neg hn]; simp; omega
    · rw [showP_pos hn]; simp; omega
  · rw [showL_out (by omega)]; simp
end Go.Proofs.YthficfeiomddmaaDoor
