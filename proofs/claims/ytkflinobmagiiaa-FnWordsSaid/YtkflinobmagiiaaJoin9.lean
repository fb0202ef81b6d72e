import Derived.Test.YtkflinobmagiiaaJoin8
import Derived.Shelf.Abstract
import Derived.Laws.EntriesVeiled
import Derived.OneCell
/-! YtkflinobmagiiaaVecOk -/
section

namespace Go.Proofs.Ytkflinobmagiiaa
open Go.RowKit
set_option linter.unusedVariables false

set_option maxRecDepth 100000 in
theorem specVecOk_any (w : World) (a : Option Addr) (n c : Nat) (xs : List Int) (h : IntsIn w.heap.size w a n xs) :
    Calls Try.prog 71 #[.slice a n c] w fun e w' => e = .returned (.bool (vecOkB xs)) ∧ w = w' := by
  have hr := h.room
  have H := Lib.hid h
  clear h
  obtain ⟨d, hd⟩ : ∃ d, d = vecOkB xs := ⟨_, rfl⟩
  rw [← hd]
  have HD := Lib.hid hd
  clear hd
  go_enter Try.func71, Try.ntmps71
  go_wp2_with fail
  go_loop [3] (fun i => ∃ k : Nat, k ≤ n ∧ i = .int .i64 k ∧ Hid (∀ j, j < k → okB (xs.getD j 0) = true)) (fun i => n - (intOf i).toNat)
  case atStart => exact ⟨0, Nat.zero_le _, rfl, fun j hj => absurd hj (Nat.not_lt_zero _)⟩
  case round =>
    obtain ⟨k, hk, rfl, hall⟩ := hrel
    by_cases hlt : k < n
    · obtain ⟨b, o, rfl, hbB, hcell⟩ := H.out.cells k hlt
      obtain ⟨X, hX⟩ : ∃ X, X = xs.getD k 0 := ⟨_, rfl⟩
      rw [← hX] at hcell
      have HX := Lib.hid hX
      clear hX
      obtain ⟨o', ho⟩ : ∃ o', okB X = o' := ⟨_, rfl⟩
      have HS := Lib.hid (fun w => specFixOk_any X w)
      rw [ho] at HS
      have HO := Lib.hid ho
      clear ho
      cases o'
      · have hdf : d = false := by rw [HD.out]; exact vecOkB_place (by rw [H.out.len]; exact hlt) (by rw [← HX.out]; exact HO.out)
        subst hdf
        go_wp2_with fail
        refine (HS.out _).mono ?_
        rintro e w' ⟨rfl, rfl⟩
        go_wp2_with fail
        go_ret
        exact ⟨rfl, rfl⟩
      · go_wp2_with fail
        refine (HS.out _).mono ?_
        rintro e w' ⟨rfl, rfl⟩
        go_wp2_with fail
        go_round
        case rel =>
          refine ⟨k + 1, by omega, by go_num, show Hid _ from fun j hj => ?_⟩
          by_cases e : j = k
          · subst e; rw [← HX.out]; exact HO.out
          · exact hall.out j (by omega)
        case measure => simp [intOf]; omega
    · have hkn : k = n := by omega
      subst hkn
      have hdd : inB 1 6 (k : Int) = d := by
        rw [HD.out]
        have hl := H.out.len
        by_cases h0 : 1 ≤ k
        · by_cases h6 : k ≤ 6
          · rw [inB_yes (by omega) (by omega), vecOkB_yes (by omega) (by omega) (fun j hj => hall.out j (by omega))]
          · rw [inB_no (by omega), vecOkB_len (by omega)]
        · rw [inB_no (by omega), vecOkB_len (by omega)]
      have HE := Lib.hid hdd
      clear hdd
      go_wp2_with fail
      refine (l1In_any _ _ _ _).mono ?_
      rintro e w' ⟨rfl, rfl⟩
      go_wp2_with fail
      go_ret
      exact ⟨by rw [HE.out] <;> rfl, rfl⟩

theorem implDimOk_any (n : Int) (w : World) :
    Calls Try.prog 106 #[.int .i64 n] w fun e w' => e = .returned (.bool (inB 1 6 n)) ∧ w = w' := by
  by_cases h1 : n < 1
  · have HD := Lib.hid (inB_no (lo := 1) (hi := 6) (Or.inl h1))
    have h2 : decide (1 ≤ n) = false := by simpa using h1
    go_enter Try.func106, Try.ntmps106
    go_wp2
    go_ret
    exact ⟨by rw [HD.out] <;> rfl, rfl⟩
  · by_cases h2 : 6 < n
    · have HD := Lib.hid (inB_no (lo := 1) (hi := 6) (Or.inr h2))
      have h3 : decide (n ≤ 6) = false := by simpa using h2
      go_enter Try.func106, Try.ntmps106
      go_wp2
      go_ret
      exact ⟨by rw [HD.out] <;> rfl, rfl⟩
    · have h3 : 1 ≤ n := by omega
      have h4 : n ≤ 6 := by omega
      have HD := Lib.hid (inB_yes h3 h4)
      clear h1 h2
      go_enter Try.func106, Try.ntmps106
      go_wp2
      go_ret
      exact ⟨by rw [HD.out] <;> rfl, rfl⟩
theorem all_no {xs : List Int} {k : Nat} (hk : k < xs.length) (h : okB (xs.getD k 0) = false) : xs.all okB = false := by
  have h1 : xs.getD k 0 ∈ xs := by simp [List.getD, hk]
  exact List.all_eq_false.2 ⟨_, h1, by rw [h]; decide⟩
theorem all_yes {xs : List Int} (h : ∀ j, j < xs.length → okB (xs.getD j 0) = true) : xs.all okB = true := by
  refine List.all_eq_true.2 fun x hx => ?_
  obtain ⟨j, hj, rfl⟩ := List.mem_iff_getElem.1 hx
  have := h j hj
  simpa [List.getD, hj] using this

set_option maxRecDepth 100000 in
theorem implAllOk_any (w : World) (a : Option Addr) (n c : Nat) (xs : List Int) (h : IntsIn w.heap.size w a n xs) :
    Calls Try.prog 107 #[.slice a n c] w fun e w' => e = .returned (.bool (xs.all okB)) ∧ w = w' := by
  have hr := h.room
  have H := Lib.hid h
  clear h
  obtain ⟨d, hd⟩ : ∃ d, d = xs.all okB := ⟨_, rfl⟩
  rw [← hd]
  have HD := Lib.hid hd
  clear hd
  go_enter Try.func107, Try.ntmps107
  go_wp2_with fail
  go_loop [7] (fun i => ∃ k : Nat, k ≤ n ∧ i = .int .i64 k ∧ Hid (∀ j, j < k → okB (xs.getD j 0) = true)) (fun i => n - (intOf i).toNat)
  case atStart => exact ⟨0, Nat.zero_le _, rfl, fun j hj => absurd hj (Nat.not_lt_zero _)⟩
  case round =>
    obtain ⟨k, hk, rfl, hall⟩ := hrel
    by_cases hlt : k < n
    · obtain ⟨b, o, rfl, hbB, hcell⟩ := H.out.cells k hlt
      obtain ⟨X, hX⟩ : ∃ X, X = xs.getD k 0 := ⟨_, rfl⟩
      rw [← hX] at hcell
      have HX := Lib.hid hX
      clear hX
      obtain ⟨o', ho⟩ : ∃ o', okB X = o' := ⟨_, rfl⟩
      have HS := Lib.hid (fun w => implFixOk_any X w)
      rw [ho] at HS
      have HO := Lib.hid ho
      clear ho
      cases o'
      · have hdf : d = false := by rw [HD.out]; exact all_no (by rw [H.out.len]; exact hlt) (by rw [← HX.out]; exact HO.out)
        subst hdf
        go_wp2_with fail
        refine (HS.out _).mono ?_
        rintro e w' ⟨rfl, rfl⟩
        go_wp2_with fail
        go_ret
        exact ⟨rfl, rfl⟩
      · go_wp2_with fail
        refine (HS.out _).mono ?_
        rintro e w' ⟨rfl, rfl⟩
        go_wp2_with fail
        go_round
        case rel =>
          refine ⟨k + 1, by omega, by go_num, show Hid _ from fun j hj => ?_⟩
          by_cases e : j = k
          · subst e; rw [← HX.out]; exact HO.out
          · exact hall.out j (by omega)
        case measure => simp [intOf]; omega
    · have hkn : k = n := by omega
      subst hkn
      have hdt : d = true := by
        rw [HD.out]
        have hl := H.out.len
        exact all_yes (fun j hj => hall.out j (by omega))
      subst hdt
      go_wp2_with fail
      go_ret
      exact ⟨rfl, rfl⟩

theorem vecOkB_split {xs : List Int} {n : Nat} (hl : xs.length = n) : vecOkB xs = (inB 1 6 (n : Int) && xs.all okB) := by
  unfold vecOkB inB
  rw [hl]
  by_cases h0 : 1 ≤ n
  · by_cases h6 : n ≤ 6
    · rw [decide_eq_true h0, decide_eq_true h6, decide_eq_true (by omega : (1 : Int) ≤ (n : Int) ∧ (n : Int) ≤ 6)]; rfl
    · rw [decide_eq_true h0, decide_eq_false h6, decide_eq_false (by omega : ¬ ((1 : Int) ≤ (n : Int) ∧ (n : Int) ≤ 6))]; rfl
  · rw [decide_eq_false h0, decide_eq_false (by omega : ¬ ((1 : Int) ≤ (n : Int) ∧ (n : Int) ≤ 6))]; simp
set_option maxRecDepth 100000 in
theorem implVecOk_any (w : World) (a : Option Addr) (n c : Nat) (xs : List Int) (h : IntsIn w.heap.size w a n xs) :
    Calls Try.prog 103 #[.slice a n c] w fun e w' => e = .returned (.bool (vecOkB xs)) ∧ w = w' := by
  have hr := h.room
  rw [vecOkB_split h.len]
  have HA := Lib.hid (implAllOk_any w a n c xs h)
  have HN := Lib.hid (fun w => implDimOk_any (n : Int) w)
  obtain ⟨q, hq⟩ : ∃ q, xs.all okB = q := ⟨_, rfl⟩
  obtain ⟨p, hp⟩ : ∃ p, inB 1 6 (n : Int) = p := ⟨_, rfl⟩
  rw [hq] at HA ⊢
  rw [hp] at HN ⊢
  clear hq hp h
  cases p
  · go_enter Try.func103, Try.ntmps103
    go_wp2_with fail
    refine (HN.out _).mono ?_
    rintro e w' ⟨rfl, rfl⟩
    go_wp2_with fail
    go_ret
    exact ⟨rfl, rfl⟩
  · go_enter Try.func103, Try.ntmps103
    go_wp2_with fail
    refine (HN.out _).mono ?_
    rintro e w' ⟨rfl, rfl⟩
    go_wp2_with fail
    refine HA.out.mono ?_
    rintro e w' ⟨rfl, rfl⟩
    go_wp2_with fail
    go_ret
    exact ⟨by simp, rfl⟩

end Go.Proofs.Ytkflinobmagiiaa

end

/-! YtkflinobmagiiaaThrough -/
section

namespace Go.Proofs.Ytkflinobmagiiaa
open Go.RowKit
set_option linter.unusedVariables false

/-- A number behind a row of the call's own. -/
theorem Row.put {base : Nat} {w w' : World} {v v' : Value} {zs : List Int} {x : Int} (hrow : Row base w v zs) (hb : base ≤ w.heap.size) (o : Obj) (hown : w'.ownsRow base 3 1 v' (zs.length + 1) (icells zs ++ icells [x])) (hg : (w.alloc o).grownBy w' v.ownBlock) :
    Row base w' v' (zs ++ [x]) ∧ Below base w w' := by
  refine ⟨?_, ((Below.refl base w).alloc hb o).grown hg (by simp; omega) (fun k hk => (hrow.lt k hk).1)⟩
  unfold Row
  rw [icells_append]
  simpa using hown
theorem cell_num_put (w : World) (e : TypeId) (x : Int) : ∀ j u, (icells [x])[j]? = some u → (w.alloc (.cells #[.int .i64 x] e)).cell? ((⟨w.heap.size, 0, none⟩ : Addr).add j) = some u := by
  intro j u hu
  rw [Addr.add_lit, Nat.zero_add, cell_of_row _ _ _ _ _ _ (heap_alloc_new w _)]
  simpa [icells] using hu
theorem icells_one (l : List Int) : ∀ u ∈ icells l, u.oneCell' = true := by
  intro u hu
  obtain ⟨_, _, rfl⟩ := List.mem_map.1 hu
  rfl

end Go.Proofs.Ytkflinobmagiiaa

end

/-! YtkflinobmagiiaaVecI -/
section

namespace Go.Proofs.Ytkflinobmagiiaa
open Go.RowKit
set_option linter.unusedVariables false

/-- What a function that makes a row and a mark leaves. -/
def RowB (w : World) (zs : List Int) (o : Bool) (e : Ending) (w' : World) : Prop := ∃ v, e = .returned (.tuple #[v, .bool o]) ∧ Row w.heap.size w' v zs ∧ Below w.heap.size w w'
/-- What a function that makes a row leaves. -/
def RowV (w : World) (zs : List Int) (e : Ending) (w' : World) : Prop := ∃ v, e = .returned v ∧ Row w.heap.size w' v zs ∧ Below w.heap.size w w'
/-- What a function that makes a number and a mark leaves. -/
def NumB (w : World) (x : Int) (o : Bool) (e : Ending) (w' : World) : Prop := e = .returned (.tuple #[.int .i64 x, .bool o]) ∧ Below w.heap.size w w'

end Go.Proofs.Ytkflinobmagiiaa

end
