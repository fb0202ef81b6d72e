/-
  The text of a plan: what comes of it. Of no program.
-/
import Derived.Test.YtikjhpljaanakaaDoorPlanB
import Derived.Lib.Join
import Derived.Lib.ItoaLen
namespace Go.Proofs.YtikjhpljaanakaaDoor
set_option linter.unusedVariables false

/-- The word of one instruction. -/
def wordL (x : Int × Int) : List UInt8 := (insW x.1).data.toList ++ Lib.itoa x.2
def showK (xs : List (Int × Int)) (k : Nat) : List UInt8 := Lib.join ((xs.take k).map wordL) [32]
theorem join_snoc (a : List (List UInt8)) (x sep : List UInt8) (h : a ≠ []) : Lib.join (a ++ [x]) sep = Lib.join a sep ++ sep ++ x := by
  cases a with
  | nil => exact absurd rfl h
  | cons y ys =>
    rw [List.cons_append, Lib.join_cons, Lib.join_cons]
    unfold Lib.joinTail
    simp
theorem showK_zero (xs : List (Int × Int)) : showK xs 0 = [] := rfl
theorem take_map_step (xs : List (Int × Int)) (k : Nat) (h : k < xs.length) : (xs.take (k + 1)).map wordL = (xs.take k).map wordL ++ [wordL (xs.getD k (0, 0))] := by
  rw [List.take_add_one, List.getElem?_eq_getElem h, List.map_append]
  simp [List.getD, h]
theorem showK_first (xs : List (Int × Int)) (h : 0 < xs.length) : showK xs 1 = wordL (xs.getD 0 (0, 0)) := by
  unfold showK
  rw [take_map_step xs 0 h]
  simp [Lib.join_one]
theorem showK_step (xs : List (Int × Int)) (k : Nat) (h : k < xs.length) (hk : 0 < k) : showK xs (k + 1) = showK xs k ++ [32] ++ wordL (xs.getD k (0, 0)) := by
  unfold showK
  rw [take_map_step xs k h, join_snoc]
  intro e
  have e2 : ((xs.take k).map wordL).length = 0 := by rw [e]; rfl
  rw [List.length_map, List.length_take] at e2
  omega
theorem insW_size (k : Int) : (insW k).data.toList.length ≤ 5 := by
  unfold insW
  repeat' split
  all_goals decide
theorem wordL_length {x : Int × Int} (h0 : -9223372036854775808 ≤ x.2) (h1 : x.2 ≤ 9223372036854775807) : (wordL x).length ≤ 26 := by
  have h2 := insW_size x.1
  have h3 := Lib.itoa_length_le x.2 h0 h1
  unfold wordL
  rw [List.length_append]
  omega
/-- Numbers of 64 bits. -/
def Wide (xs : List (Int × Int)) : Prop := ∀ j, j < xs.length → -9223372036854775808 ≤ (xs.getD j (0, 0)).2 ∧ (xs.getD j (0, 0)).2 ≤ 9223372036854775807
theorem showK_length (xs : List (Int × Int)) (hw : Wide xs) : ∀ k, k ≤ xs.length → (showK xs k).length ≤ 27 * k
  | 0, _ => by rw [showK_zero]; simp
  | k + 1, h => by
    have ih := showK_length xs hw k (by omega)
    have h2 := wordL_length (hw k (by omega)).1 (hw k (by omega)).2
    by_cases hk : 0 < k
    · rw [showK_step xs k (by omega) hk]
      simp only [List.length_append, List.length_cons, List.length_nil]
      omega
    · obtain rfl : k = 0 := by omega
      rw [showK_first xs (by omega)]
      omega
end Go.Proofs.YtikjhpljaanakaaDoor
