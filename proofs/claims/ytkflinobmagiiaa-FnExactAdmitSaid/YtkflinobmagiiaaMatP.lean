/-
  Tables of numbers, row by row: what the program's own way comes to.
-/
import Derived.Test.YtkflinobmagiiaaMatS
namespace Go.Proofs.Ytkflinobmagiiaa
set_option linter.unusedVariables false

theorem sizes_yes {r c mn mx : Int} (e1 : (if c < r then c else r) = mn) (e2 : (if r < c then c else r) = mx) (h1 : ¬ mn < 1) (h2 : ¬ 6 < mx) : inB 1 6 r = true ∧ inB 1 6 c = true := by
  subst e1
  subst e2
  constructor <;> refine inB_yes ?_ ?_ <;> split at h1 <;> split at h2 <;> omega
theorem sizes_no {r c mn mx : Int} (xs : List Int) (e1 : (if c < r then c else r) = mn) (e2 : (if r < c then c else r) = mx) (h : mn < 1 ∨ 6 < mx) : matOkB r c xs = false := by
  subst e1
  subst e2
  cases hr : inB 1 6 r with
  | false => exact matOkB_r hr
  | true =>
    cases hc : inB 1 6 c with
    | false => exact matOkB_c hc
    | true =>
      have a := inB_has hr
      have b := inB_has hc
      rcases h with h | h <;> split at h <;> omega
theorem all_of_rows {m q : Nat} {xs : List Int} (hq : 1 ≤ q) (hl : xs.length = m * q) (h : ∀ i, i < m → vecOkB (rowOf q xs i) = true) : xs.all okB = true := by
  refine all_of_get fun p hp => ?_
  rw [hl] at hp
  have g1 : p / q < m := Nat.div_lt_of_lt_mul (by rw [Nat.mul_comm]; exact hp)
  have g2 : p % q < q := Nat.mod_lt _ (by omega)
  have g3 : p / q * q + p % q = p := by rw [Nat.mul_comm]; exact Nat.div_add_mod p q
  obtain ⟨_, _, hk⟩ := vecOkB_has (h _ g1)
  have := hk (p % q) (by rw [rowOf_length hl g1]; exact g2)
  rw [rowOf_get _ _ _ _ g2, g3] at this
  exact this
theorem row_bad {m q : Nat} {xs : List Int} (h2 : 1 ≤ q ∧ q ≤ 6) (hl : xs.length = m * q) {i : Nat} (hi : i < m) (h : vecOkB (rowOf q xs i) = false) : xs.all okB = false := by
  cases ha : xs.all okB with
  | false => rfl
  | true =>
    rw [rowOf_ok h2 hl ha hi] at h
    cases h
theorem rowK_mapK (f : Int → Int → Int) (xs ys : List Int) (k : Nat) : rowK f xs ys k = mapK (fun j => f (xs.getD j 0) (ys.getD j 0)) k := by
  induction k with
  | zero => rfl
  | succ k ih => rw [rowK, mapK, ih]
theorem flagK_anyK (g : Int → Int → Bool) (xs ys : List Int) (k : Nat) : flagK g xs ys k = anyK (fun j => g (xs.getD j 0) (ys.getD j 0)) k := by
  induction k with
  | zero => rfl
  | succ k ih => rw [flagK, anyK, ih]
theorem scale_row {d : Int} {xs : List Int} (hd : okB d = true) (hx : vecOkB xs = true) : scaleN d xs = mapK (fun k => mulN d (xs.getD k 0)) xs.length ∧ scaleB d xs = anyK (fun k => mulB d (xs.getD k 0)) xs.length := by
  have hp : pairB xs xs = true := by rw [pairB_self]; exact hx
  unfold scaleN scaleB
  rw [hd, rowP_yes _ hp, flagP_yes _ hp, rowK_mapK, flagK_anyK]
  exact ⟨rfl, rfl⟩
/-- The rows that have come are the first k. -/
def CameK {m : Nat} (ys : List (Fin m)) (k : Nat) : Prop := ys.map (fun x => x.1) = List.range k
theorem CameK.snoc {m : Nat} {ys : List (Fin m)} {k : Nat} (h : CameK ys k) (hk : k < m) : CameK (ys ++ [⟨k, hk⟩]) (k + 1) := by
  unfold CameK at h ⊢
  rw [List.map_append, h, List.range_succ]
  rfl
theorem CameK.length {m : Nat} {ys : List (Fin m)} {k : Nat} (h : CameK ys k) : ys.length = k := by
  have := congrArg List.length h
  simpa using this
theorem CameK.mem {m : Nat} {ys : List (Fin m)} (h : CameK ys m) (x : Fin m) : x ∈ ys := by
  have hx : x.1 ∈ ys.map (fun x => x.1) := by
    rw [show ys.map (fun x => x.1) = List.range m from h]
    exact List.mem_range.2 x.2
  obtain ⟨y, hy, e⟩ := List.mem_map.1 hx
  rw [← Fin.ext e]
  exact hy
theorem mapK_range (f : Nat → Int) (k : Nat) : (List.range k).map f = mapK f k := by
  induction k with
  | zero => rfl
  | succ k ih => rw [List.range_succ, List.map_append, ih]; rfl
theorem anyK_range (g : Nat → Bool) (k : Nat) : (List.range k).any g = anyK g k := by
  induction k with
  | zero => rfl
  | succ k ih => rw [List.range_succ, List.any_append, ih]; simp [anyK]
theorem CameK.map {m : Nat} {ys : List (Fin m)} {k : Nat} (h : CameK ys k) (f : Nat → Int) : ys.map (fun x => f x.1) = mapK f k := by
  rw [← mapK_range, ← (show ys.map (fun x => x.1) = List.range k from h), List.map_map]
  rfl
theorem CameK.any {m : Nat} {ys : List (Fin m)} {k : Nat} (h : CameK ys k) (g : Nat → Bool) : ys.any (fun x => g x.1) = anyK g k := by
  rw [← anyK_range, ← (show ys.map (fun x => x.1) = List.range k from h), List.any_map]
  rfl
open Go.RowKit in
/-- Row i, where it lies. -/
theorem row_in {B : Nat} {w : World} {b o n : Nat} {xs : List Int} {m q : Nat} (h : IntsIn B w (some ⟨b, o, none⟩) n xs) (hn : n = m * q) {i : Nat} (hi : i < m) : IntsIn B w (some ⟨b, o + i * q, none⟩) q (rowOf q xs i) := by
  have hle : (i + 1) * q ≤ m * q := Nat.mul_le_mul_right q (by omega)
  have hr := h.room
  rw [Nat.succ_mul] at hle
  refine ⟨rowOf_length (r := m) (by rw [h.len, hn]) hi, by omega, fun k hk => ?_⟩
  obtain ⟨b', o', e, hb', hcell⟩ := h.cells (i * q + k) (by omega)
  cases e
  refine ⟨b, o + i * q, rfl, hb', ?_⟩
  rw [rowOf_get q xs i k hk, Nat.add_assoc]
  exact hcell
end Go.Proofs.Ytkflinobmagiiaa
