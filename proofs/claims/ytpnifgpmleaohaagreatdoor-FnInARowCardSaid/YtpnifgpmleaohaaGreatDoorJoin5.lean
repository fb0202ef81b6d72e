import Derived.Test.YtpnifgpmleaohaaGreatDoorJoin1
import Derived.Test.YtpnifgpmleaohaaGreatDoorJoin4
import Derived.Test.YtpnifgpmleaohaaGreatDoorProg
import Derived.Test.YtpnifgpmleaohaaGreatDoorJoin2
import Derived.Test.YtpnifgpmleaohaaGreatDoorJoin3
import Derived.Shelf.Abstract
import Derived.Laws.EntriesVeiled
import Derived.OneCell
/-! YtpnifgpmleaohaaGreatDoorZOpH -/
section

namespace Go.Proofs.YtpnifgpmleaohaaGreatDoor
open Go.RowKit
set_option linter.unusedVariables false

theorem store4 {w : World} {g : Nat} {x y z t : Value} {T : TypeId} (h : w.heap[g]? = some (.cells #[x, y, z, t] T (0, 0))) (a b c d : Value) :
    ((((w.setCell ⟨g, 0, none⟩ a).setCell ⟨g, 1, none⟩ b).setCell ⟨g, 2, none⟩ c).setCell ⟨g, 3, none⟩ d).heap[g]? = some (.cells #[a, b, c, d] T (0, 0)) := by
  have h1 := heap_setCell_same w g 0 _ T a h
  have h2 := heap_setCell_same _ g 1 _ T b h1
  have h3 := heap_setCell_same _ g 2 _ T c h2
  have h4 := heap_setCell_same _ g 3 _ T d h3
  exact h4
theorem cells4 {w : World} {g : Nat} {x y z t : Value} {T : TypeId} (h : w.heap[g]? = some (.cells #[x, y, z, t] T (0, 0))) :
    (w.cell? ⟨g, 0, none⟩ = some x ∧ w.cell? ⟨g, 1, none⟩ = some y ∧ w.cell? ⟨g, 2, none⟩ = some z ∧ w.cell? ⟨g, 3, none⟩ = some t) ∧ w.frozen? ⟨g, 0, none⟩ = false ∧ w.frozen? ⟨g, 1, none⟩ = false ∧ w.frozen? ⟨g, 2, none⟩ = false ∧ w.frozen? ⟨g, 3, none⟩ = false :=
  ⟨⟨by rw [cell_of_row _ _ _ _ _ _ h]; rfl, by rw [cell_of_row _ _ _ _ _ _ h]; rfl, by rw [cell_of_row _ _ _ _ _ _ h]; rfl, by rw [cell_of_row _ _ _ _ _ _ h]; rfl⟩, frozen_of_row w g 0 _ _ h, frozen_of_row w g 1 _ _ h, frozen_of_row w g 2 _ _ h, frozen_of_row w g 3 _ _ h⟩

end Go.Proofs.YtpnifgpmleaohaaGreatDoor

end

/-! YtpnifgpmleaohaaGreatDoorZSpecFix -/
section

namespace Go.Proofs.YtpnifgpmleaohaaGreatDoor
open Go.RowKit
set_option linter.unusedVariables false

theorem l1In_any (x lo hi : Int) (w : World) :
    Calls Tryz.prog 69 #[.int .i64 x, .int .i64 lo, .int .i64 hi] w fun e w' => e = .returned (.bool (inB lo hi x)) ∧ w = w' := by
  by_cases h1 : x < lo
  · have HD := Lib.hid (inB_no (hi := hi) (Or.inl h1))
    go_enter Tryz.func69, Tryz.ntmps69
    go_wp2
    go_ret
    exact ⟨by rw [HD.out] <;> rfl, rfl⟩
  · by_cases h2 : hi < x
    · have HD := Lib.hid (inB_no (lo := lo) (Or.inr h2))
      have h3 : decide (x ≤ hi) = false := by simpa using h2
      go_enter Tryz.func69, Tryz.ntmps69
      go_wp2
      go_ret
      exact ⟨by rw [HD.out] <;> rfl, rfl⟩
    · have h3 : lo ≤ x := by omega
      have h4 : x ≤ hi := by omega
      have HD := Lib.hid (inB_yes h3 h4)
      clear h1 h2
      go_enter Tryz.func69, Tryz.ntmps69
      go_wp2
      go_ret
      exact ⟨by rw [HD.out] <;> rfl, rfl⟩
theorem specFixOk_any (x : Int) (w : World) :
    Calls Tryz.prog 71 #[.int .i64 x] w fun e w' => e = .returned (.bool (okB x)) ∧ w = w' := by
  go_enter Tryz.func71, Tryz.ntmps71
  go_wp2_with fail
  refine (l1In_any x (-2147483647) 2147483647 _).mono ?_
  rintro e w1 ⟨rfl, rfl⟩
  go_wp2_with fail
  go_ret
  exact ⟨rfl, rfl⟩
end Go.Proofs.YtpnifgpmleaohaaGreatDoor

end

/-! YtpnifgpmleaohaaGreatDoorZVecOk -/
section

namespace Go.Proofs.YtpnifgpmleaohaaGreatDoor
open Go.RowKit
set_option linter.unusedVariables false

set_option maxRecDepth 100000 in
theorem specVecOk_any (w : World) (a : Option Addr) (n c : Nat) (xs : List Int) (h : IntsIn w.heap.size w a n xs) :
    Calls Tryz.prog 13 #[.slice a n c] w fun e w' => e = .returned (.bool (vecOkB xs)) ∧ w = w' := by
  have hr := h.room
  have H := Lib.hid h
  clear h
  obtain ⟨d, hd⟩ : ∃ d, d = vecOkB xs := ⟨_, rfl⟩
  rw [← hd]
  have HD := Lib.hid hd
  clear hd
  go_enter Tryz.func13, Tryz.ntmps13
  go_wp2_with fail
  go_loop [3] (fun i => ∃ k : Nat, k ≤ n ∧ i = .int .i64 k ∧ Hid (∀ j, j < k → okB (xs.getD j 0) = true)) (fun i => n - (intOf i).toNat)
  case atStart => exact ⟨0, Nat.zero_le _, rfl, fun j hj => absurd hj (Nat.not_lt_zero _)⟩
  case round =>
    obtain ⟨k, hk, rfl, hall⟩ := hrel
    by_cases hlt : k < n
    · obtain ⟨b, o, rfl, hbB, hcell⟩ := H.out.cells k hlt
      obtain ⟨X, hX⟩ : ∃ X, X = xs.getD k 0 := ⟨_, rfl⟩
      rw [← hX] at hcell
      have HX := Lib.hid hX
      clear hX
      obtain ⟨o', ho⟩ : ∃ o', okB X = o' := ⟨_, rfl⟩
      have HS := Lib.hid (fun w => specFixOk_any X w)
      rw [ho] at HS
      have HO := Lib.hid ho
      clear ho
      cases o'
      · have hdf : d = false := by rw [HD.out]; exact vecOkB_place (by rw [H.out.len]; exact hlt) (by rw [← HX.out]; exact HO.out)
        subst hdf
        go_wp2_with fail
        refine (HS.out _).mono ?_
        rintro e w' ⟨rfl, rfl⟩
        go_wp2_with fail
        go_ret
        exact ⟨rfl, rfl⟩
      · go_wp2_with fail
        refine (HS.out _).mono ?_
        rintro e w' ⟨rfl, rfl⟩
        go_wp2_with fail
        go_round
        case rel =>
          refine ⟨k + 1, by omega, by go_num, show Hid _ from fun j hj => ?_⟩
          by_cases e : j = k
          · subst e; rw [← HX.out]; exact HO.out
          · exact hall.out j (by omega)
        case measure => simp [intOf]; omega
    · have hkn : k = n := by omega
      subst hkn
      have hdd : inB 1 6 (k : Int) = d := by
        rw [HD.out]
        have hl := H.out.len
        by_cases h0 : 1 ≤ k
        · by_cases h6 : k ≤ 6
          · rw [inB_yes (by omega) (by omega), vecOkB_yes (by omega) (by omega) (fun j hj => hall.out j (by omega))]
          · rw [inB_no (by omega), vecOkB_len (by omega)]
        · rw [inB_no (by omega), vecOkB_len (by omega)]
      have HE := Lib.hid hdd
      clear hdd
      go_wp2_with fail
      refine (l1In_any _ _ _ _).mono ?_
      rintro e w' ⟨rfl, rfl⟩
      go_wp2_with fail
      go_ret
      exact ⟨by rw [HE.out] <;> rfl, rfl⟩

theorem implDimOk_any (n : Int) (w : World) :
    Calls Tryz.prog 195 #[.int .i64 n] w fun e w' => e = .returned (.bool (inB 1 6 n)) ∧ w = w' := by
  by_cases h1 : n < 1
  · have HD := Lib.hid (inB_no (lo := 1) (hi := 6) (Or.inl h1))
    have h2 : decide (1 ≤ n) = false := by simpa using h1
    go_enter Tryz.func195, Tryz.ntmps195
    go_wp2
    go_ret
    exact ⟨by rw [HD.out] <;> rfl, rfl⟩
  · by_cases h2 : 6 < n
    · have HD := Lib.hid (inB_no (lo := 1) (hi := 6) (Or.inr h2))
      have h3 : decide (n ≤ 6) = false := by simpa using h2
      go_enter Tryz.func195, Tryz.ntmps195
      go_wp2
      go_ret
      exact ⟨by rw [HD.out] <;> rfl, rfl⟩
    · have h3 : 1 ≤ n := by omega
      have h4 : n ≤ 6 := by omega
      have HD := Lib.hid (inB_yes h3 h4)
      clear h1 h2
      go_enter Tryz.func195, Tryz.ntmps195
      go_wp2
      go_ret
      exact ⟨by rw [HD.out] <;> rfl, rfl⟩
theorem all_no {xs : List Int} {k : Nat} (hk : k < xs.length) (h : okB (xs.getD k 0) = false) : xs.all okB = false := by
  have h1 : xs.getD k 0 ∈ xs := by simp [List.getD, hk]
  exact List.all_eq_false.2 ⟨_, h1, by rw [h]; decide⟩
theorem all_yes {xs : List Int} (h : ∀ j, j < xs.length → okB (xs.getD j 0) = true) : xs.all okB = true := by
  refine List.all_eq_true.2 fun x hx => ?_
  obtain ⟨j, hj, rfl⟩ := List.mem_iff_getElem.1 hx
  have := h j hj
  simpa [List.getD, hj] using this

set_option maxRecDepth 100000 in
theorem implAllOk_any (w : World) (a : Option Addr) (n c : Nat) (xs : List Int) (h : IntsIn w.heap.size w a n xs) :
    Calls Tryz.prog 196 #[.slice a n c] w fun e w' => e = .returned (.bool (xs.all okB)) ∧ w = w' := by
  have hr := h.room
  have H := Lib.hid h
  clear h
  obtain ⟨d, hd⟩ : ∃ d, d = xs.all okB := ⟨_, rfl⟩
  rw [← hd]
  have HD := Lib.hid hd
  clear hd
  go_enter Tryz.func196, Tryz.ntmps196
  go_wp2_with fail
  go_loop [7] (fun i => ∃ k : Nat, k ≤ n ∧ i = .int .i64 k ∧ Hid (∀ j, j < k → okB (xs.getD j 0) = true)) (fun i => n - (intOf i).toNat)
  case atStart => exact ⟨0, Nat.zero_le _, rfl, fun j hj => absurd hj (Nat.not_lt_zero _)⟩
  case round =>
    obtain ⟨k, hk, rfl, hall⟩ := hrel
    by_cases hlt : k < n
    · obtain ⟨b, o, rfl, hbB, hcell⟩ := H.out.cells k hlt
      obtain ⟨X, hX⟩ : ∃ X, X = xs.getD k 0 := ⟨_, rfl⟩
      rw [← hX] at hcell
      have HX := Lib.hid hX
      clear hX
      obtain ⟨o', ho⟩ : ∃ o', okB X = o' := ⟨_, rfl⟩
      have HS := Lib.hid (fun w => implFixOk_any X w)
      rw [ho] at HS
      have HO := Lib.hid ho
      clear ho
      cases o'
      · have hdf : d = false := by rw [HD.out]; exact all_no (by rw [H.out.len]; exact hlt) (by rw [← HX.out]; exact HO.out)
        subst hdf
        go_wp2_with fail
        refine (HS.out _).mono ?_
        rintro e w' ⟨rfl, rfl⟩
        go_wp2_with fail
        go_ret
        exact ⟨rfl, rfl⟩
      · go_wp2_with fail
        refine (HS.out _).mono ?_
        rintro e w' ⟨rfl, rfl⟩
        go_wp2_with fail
        go_round
        case rel =>
          refine ⟨k + 1, by omega, by go_num, show Hid _ from fun j hj => ?_⟩
          by_cases e : j = k
          · subst e; rw [← HX.out]; exact HO.out
          · exact hall.out j (by omega)
        case measure => simp [intOf]; omega
    · have hkn : k = n := by omega
      subst hkn
      have hdt : d = true := by
        rw [HD.out]
        have hl := H.out.len
        exact all_yes (fun j hj => hall.out j (by omega))
      subst hdt
      go_wp2_with fail
      go_ret
      exact ⟨rfl, rfl⟩

theorem vecOkB_split {xs : List Int} {n : Nat} (hl : xs.length = n) : vecOkB xs = (inB 1 6 (n : Int) && xs.all okB) := by
  unfold vecOkB inB
  rw [hl]
  by_cases h0 : 1 ≤ n
  · by_cases h6 : n ≤ 6
    · rw [decide_eq_true h0, decide_eq_true h6, decide_eq_true (by omega : (1 : Int) ≤ (n : Int) ∧ (n : Int) ≤ 6)]; rfl
    · rw [decide_eq_true h0, decide_eq_false h6, decide_eq_false (by omega : ¬ ((1 : Int) ≤ (n : Int) ∧ (n : Int) ≤ 6))]; rfl
  · rw [decide_eq_false h0, decide_eq_false (by omega : ¬ ((1 : Int) ≤ (n : Int) ∧ (n : Int) ≤ 6))]; simp
set_option maxRecDepth 100000 in
theorem implVecOk_any (w : World) (a : Option Addr) (n c : Nat) (xs : List Int) (h : IntsIn w.heap.size w a n xs) :
    Calls Tryz.prog 149 #[.slice a n c] w fun e w' => e = .returned (.bool (vecOkB xs)) ∧ w = w' := by
  have hr := h.room
  rw [vecOkB_split h.len]
  have HA := Lib.hid (implAllOk_any w a n c xs h)
  have HN := Lib.hid (fun w => implDimOk_any (n : Int) w)
  obtain ⟨q, hq⟩ : ∃ q, xs.all okB = q := ⟨_, rfl⟩
  obtain ⟨p, hp⟩ : ∃ p, inB 1 6 (n : Int) = p := ⟨_, rfl⟩
  rw [hq] at HA ⊢
  rw [hp] at HN ⊢
  clear hq hp h
  cases p
  · go_enter Tryz.func149, Tryz.ntmps149
    go_wp2_with fail
    refine (HN.out _).mono ?_
    rintro e w' ⟨rfl, rfl⟩
    go_wp2_with fail
    go_ret
    exact ⟨rfl, rfl⟩
  · go_enter Tryz.func149, Tryz.ntmps149
    go_wp2_with fail
    refine (HN.out _).mono ?_
    rintro e w' ⟨rfl, rfl⟩
    go_wp2_with fail
    refine HA.out.mono ?_
    rintro e w' ⟨rfl, rfl⟩
    go_wp2_with fail
    go_ret
    exact ⟨by simp, rfl⟩

end Go.Proofs.YtpnifgpmleaohaaGreatDoor

end

/-! YtpnifgpmleaohaaGreatDoorZThrough -/
section

namespace Go.Proofs.YtpnifgpmleaohaaGreatDoor
open Go.RowKit
set_option linter.unusedVariables false

/-- A number behind a row of the call's own. -/
theorem Row.put {base : Nat} {w w' : World} {v v' : Value} {zs : List Int} {x : Int} (hrow : Row base w v zs) (hb : base ≤ w.heap.size) (o : Obj) (hown : w'.ownsRow base 3 1 v' (zs.length + 1) (icells zs ++ icells [x])) (hg : (w.alloc o).grownBy w' v.ownBlock) :
    Row base w' v' (zs ++ [x]) ∧ Below base w w' := by
  refine ⟨?_, ((Below.refl base w).alloc hb o).grown hg (by simp; omega) (fun k hk => (hrow.lt k hk).1)⟩
  unfold Row
  rw [icells_append]
  simpa using hown
theorem cell_num_put (w : World) (e : TypeId) (x : Int) : ∀ j u, (icells [x])[j]? = some u → (w.alloc (.cells #[.int .i64 x] e)).cell? ((⟨w.heap.size, 0, none⟩ : Addr).add j) = some u := by
  intro j u hu
  rw [Addr.add_lit, Nat.zero_add, cell_of_row _ _ _ _ _ _ (heap_alloc_new w _)]
  simpa [icells] using hu
theorem icells_one (l : List Int) : ∀ u ∈ icells l, u.oneCell' = true := by
  intro u hu
  obtain ⟨_, _, rfl⟩ := List.mem_map.1 hu
  rfl

set_option maxRecDepth 100000 in
theorem throughRow_no (w : World) (a1 : Option Addr) (n1 c1 : Nat) (xs : List Int) (a2 : Option Addr) (n2 c2 : Nat) (ys : List Int) (f : Value) (h1 : IntsIn w.heap.size w a1 n1 xs) (h2 : IntsIn w.heap.size w a2 n2 ys) (hp : pairB xs ys = false) :
    Calls Tryz.prog 212 #[.slice a1 n1 c1, .slice a2 n2 c2, .slice none 0 0, f] w fun e w' => e = .returned (.tuple #[.slice none 0 0, .bool false]) ∧ w = w' := by
  have S1 := implVecOk_any w a1 n1 c1 xs h1
  have S2 := implVecOk_any w a2 n2 c2 ys h2
  unfold pairB at hp
  rw [h1.len, h2.len] at hp
  obtain ⟨p, hp'⟩ : ∃ p, vecOkB xs = p := ⟨_, rfl⟩
  obtain ⟨q, hq⟩ : ∃ q, vecOkB ys = q := ⟨_, rfl⟩
  rw [hp'] at S1 hp
  rw [hq] at S2 hp
  have H1 := Lib.hid S1
  have H2 := Lib.hid S2
  have HP := Lib.hid hp
  clear hp' hq S1 S2 h1 h2 hp
  cases p
  · go_enter Tryz.func212, Tryz.ntmps212
    go_wp2_with fail
    refine H1.out.mono ?_
    rintro e w' ⟨rfl, rfl⟩
    go_wp2_with fail
    go_ret2
    exact ⟨rfl, rfl⟩
  · cases q
    · go_enter Tryz.func212, Tryz.ntmps212
      go_wp2_with fail
      refine H1.out.mono ?_
      rintro e w' ⟨rfl, rfl⟩
      go_wp2_with fail
      refine H2.out.mono ?_
      rintro e w' ⟨rfl, rfl⟩
      go_wp2_with fail
      go_ret2
      exact ⟨rfl, rfl⟩
    · have hne : ((n1 : Int) == (n2 : Int)) = false := by
        have := HP.out
        simp only [Bool.and_self, Bool.true_and, decide_eq_false_iff_not] at this
        rw [beq_eq_false_iff_ne]
        omega
      go_enter Tryz.func212, Tryz.ntmps212
      go_wp2_with fail
      refine H1.out.mono ?_
      rintro e w' ⟨rfl, rfl⟩
      go_wp2_with fail
      refine H2.out.mono ?_
      rintro e w' ⟨rfl, rfl⟩
      go_wp2_with fail
      go_ret2
      exact ⟨rfl, rfl⟩

set_option maxRecDepth 100000 in
theorem throughRow_yes (w : World) (a1 : Option Addr) (n c1 : Nat) (xs : List Int) (a2 : Option Addr) (c2 : Nat) (ys : List Int) (g : Nat) (lb : Array Value) (F : Int → Int → Int) (G : Int → Int → Bool)
    (eg : ∀ args w, (callFunc g args).run Tryz.prog w = .ok (.enter g args) w)
    (hstep : ∀ (wr : World) (v : Value) (zs : List Int) (x y : Int), Below w.heap.size w wr → Row w.heap.size wr v zs → zs.length ≤ 6 → Calls Tryz.prog g (#[v, .int .i64 x, .int .i64 y] ++ lb) wr fun e w' => ∃ v', e = .returned (.tuple #[v', .bool (G x y)]) ∧ Row w.heap.size w' v' (zs ++ [F x y]) ∧ Below w.heap.size wr w')
    (h1 : IntsIn w.heap.size w a1 n xs) (h2 : IntsIn w.heap.size w a2 n ys) (hp : vecOkB xs = true) (hq : vecOkB ys = true) :
    Calls Tryz.prog 212 #[.slice a1 n c1, .slice a2 n c2, .slice none 0 0, .func (.func g) #[] lb] w fun e w' =>
      ∃ v, e = .returned (.tuple #[v, .bool (flagK G xs ys n)]) ∧ Row w.heap.size w' v (rowK F xs ys n) ∧ Below w.heap.size w w' := by
  have S1 := implVecOk_any w a1 n c1 xs h1
  have S2 := implVecOk_any w a2 n c2 ys h2
  rw [hp] at S1
  rw [hq] at S2
  have hn6 := (vecOkB_has hp).2.1
  rw [h1.len] at hn6
  have H1 := Lib.hid S1
  have H2 := Lib.hid S2
  have HX := Lib.hid h1
  have HY := Lib.hid h2
  have HS := Lib.hid hstep
  clear hp hq S1 S2 h1 h2 hstep
  go_enter Tryz.func212, Tryz.ntmps212
  go_wp2_with fail
  refine H1.out.mono ?_
  rintro e w' ⟨rfl, rfl⟩
  go_wp2_with fail
  refine H2.out.mono ?_
  rintro e w' ⟨rfl, rfl⟩
  go_wp2_with fail
  go_loopw [11, 12, 35] (fun m o i wr => ∃ k : Nat, k ≤ n ∧ i = .int .i64 k ∧ o = .bool (flagK G xs ys k) ∧ Row w.heap.size wr m (rowK F xs ys k) ∧ Below w.heap.size w wr) (fun _ _ i _ => n - (intOf i).toNat)
  case atStart => exact ⟨0, Nat.zero_le _, rfl, rfl, Row.nil _ _, Below.refl _ _⟩
  case round =>
    obtain ⟨k, hk, rfl, rfl, hrow, hb⟩ := hrel
    have HR := Lib.hid hrow
    have HB := Lib.hid hb
    clear hrow hb
    by_cases hlt : k < n
    · obtain ⟨b, o, rfl, hbB, hcell0⟩ := HX.out.cells k hlt
      obtain ⟨b', o', rfl, hbB', hcell0'⟩ := HY.out.cells k hlt
      obtain ⟨X, hX⟩ : ∃ X, X = xs.getD k 0 := ⟨_, rfl⟩
      obtain ⟨Y, hY⟩ : ∃ Y, Y = ys.getD k 0 := ⟨_, rfl⟩
      rw [← hX] at hcell0
      rw [← hY] at hcell0'
      have hcell := (HB.out.cell (p := ⟨b, o + k, none⟩) hbB).trans hcell0
      have hcell' := (HB.out.cell (p := ⟨b', o' + k, none⟩) hbB').trans hcell0'
      obtain ⟨fl, hfl⟩ : ∃ fl, flagK G xs ys k = fl := ⟨_, rfl⟩
      obtain ⟨go, hgo⟩ : ∃ go, G X Y = go := ⟨_, rfl⟩
      have hT := HS.out wr _ (rowK F xs ys k) X Y HB.out HR.out (by rw [rowK_length]; omega)
      rw [hgo] at hT
      have HT := Lib.hid hT
      have e1 : flagK G xs ys (k + 1) = (fl || go) := by rw [flagK, hfl, ← hX, ← hY, hgo]
      have e2 : rowK F xs ys (k + 1) = rowK F xs ys k ++ [F X Y] := by rw [rowK, ← hX, ← hY]
      have E1 := Lib.hid e1
      have E2 := Lib.hid e2
      rw [hfl]
      clear hX hY hcell0 hcell0' hfl hgo hT e1 e2
      cases fl
      · go_wp2_with fail
        refine HT.out.mono ?_
        rintro e w' ⟨v', rfl, hrow', hb'⟩
        go_wp2_with fail
        go_roundw
        case rel => exact ⟨k + 1, by omega, by go_num, by rw [E1.out]; rfl, by rw [E2.out]; exact hrow', HB.out.trans hb'⟩
        case measure => simp [intOf]; omega
      · go_wp2_with fail
        refine HT.out.mono ?_
        rintro e w' ⟨v', rfl, hrow', hb'⟩
        go_wp2_with fail
        go_roundw
        case rel => exact ⟨k + 1, by omega, by go_num, by rw [E1.out]; rfl, by rw [E2.out]; exact hrow', HB.out.trans hb'⟩
        case measure => simp [intOf]; omega
    · have hkn : k = n := by omega
      subst hkn
      go_wp2_with fail
      go_ret2
      exact ⟨_, rfl, HR.out, HB.out⟩
set_option maxRecDepth 100000 in
theorem throughInt_no (w : World) (a1 : Option Addr) (n1 c1 : Nat) (xs : List Int) (a2 : Option Addr) (n2 c2 : Nat) (ys : List Int) (f : Value) (h1 : IntsIn w.heap.size w a1 n1 xs) (h2 : IntsIn w.heap.size w a2 n2 ys) (hp : pairB xs ys = false) :
    Calls Tryz.prog 209 #[.slice a1 n1 c1, .slice a2 n2 c2, .int .i64 0, f] w fun e w' => e = .returned (.tuple #[.int .i64 0, .bool false]) ∧ w = w' := by
  have S1 := implVecOk_any w a1 n1 c1 xs h1
  have S2 := implVecOk_any w a2 n2 c2 ys h2
  unfold pairB at hp
  rw [h1.len, h2.len] at hp
  obtain ⟨p, hp'⟩ : ∃ p, vecOkB xs = p := ⟨_, rfl⟩
  obtain ⟨q, hq⟩ : ∃ q, vecOkB ys = q := ⟨_, rfl⟩
  rw [hp'] at S1 hp
  rw [hq] at S2 hp
  have H1 := Lib.hid S1
  have H2 := Lib.hid S2
  have HP := Lib.hid hp
  clear hp' hq S1 S2 h1 h2 hp
  cases p
  · go_enter Tryz.func209, Tryz.ntmps209
    go_wp2_with fail
    refine H1.out.mono ?_
    rintro e w' ⟨rfl, rfl⟩
    go_wp2_with fail
    go_ret2
    exact ⟨rfl, rfl⟩
  · cases q
    · go_enter Tryz.func209, Tryz.ntmps209
      go_wp2_with fail
      refine H1.out.mono ?_
      rintro e w' ⟨rfl, rfl⟩
      go_wp2_with fail
      refine H2.out.mono ?_
      rintro e w' ⟨rfl, rfl⟩
      go_wp2_with fail
      go_ret2
      exact ⟨rfl, rfl⟩
    · have hne : ((n1 : Int) == (n2 : Int)) = false := by
        have := HP.out
        simp only [Bool.and_self, Bool.true_and, decide_eq_false_iff_not] at this
        rw [beq_eq_false_iff_ne]
        omega
      go_enter Tryz.func209, Tryz.ntmps209
      go_wp2_with fail
      refine H1.out.mono ?_
      rintro e w' ⟨rfl, rfl⟩
      go_wp2_with fail
      refine H2.out.mono ?_
      rintro e w' ⟨rfl, rfl⟩
      go_wp2_with fail
      go_ret2
      exact ⟨rfl, rfl⟩

set_option maxRecDepth 100000 in
theorem throughInt_yes (w : World) (a1 : Option Addr) (n c1 : Nat) (xs : List Int) (a2 : Option Addr) (c2 : Nat) (ys : List Int) (g : Nat) (lb : Array Value) (F : Int → Int → Int → Int) (G : Int → Int → Int → Bool)
    (eg : ∀ args w, (callFunc g args).run Tryz.prog w = .ok (.enter g args) w)
    (hstep : ∀ (wr : World) (s x y : Int), Below w.heap.size w wr → Calls Tryz.prog g (#[.int .i64 s, .int .i64 x, .int .i64 y] ++ lb) wr fun e w' => e = .returned (.tuple #[.int .i64 (F s x y), .bool (G s x y)]) ∧ Below w.heap.size wr w')
    (h1 : IntsIn w.heap.size w a1 n xs) (h2 : IntsIn w.heap.size w a2 n ys) (hp : vecOkB xs = true) (hq : vecOkB ys = true) :
    Calls Tryz.prog 209 #[.slice a1 n c1, .slice a2 n c2, .int .i64 0, .func (.func g) #[] lb] w fun e w' =>
      e = .returned (.tuple #[.int .i64 (sumK F xs ys n), .bool (sumKB F G xs ys n)]) ∧ Below w.heap.size w w' := by
  have S1 := implVecOk_any w a1 n c1 xs h1
  have S2 := implVecOk_any w a2 n c2 ys h2
  rw [hp] at S1
  rw [hq] at S2
  have hn6 := (vecOkB_has hp).2.1
  rw [h1.len] at hn6
  have H1 := Lib.hid S1
  have H2 := Lib.hid S2
  have HX := Lib.hid h1
  have HY := Lib.hid h2
  have HS := Lib.hid hstep
  clear hp hq S1 S2 h1 h2 hstep
  go_enter Tryz.func209, Tryz.ntmps209
  go_wp2_with fail
  refine H1.out.mono ?_
  rintro e w' ⟨rfl, rfl⟩
  go_wp2_with fail
  refine H2.out.mono ?_
  rintro e w' ⟨rfl, rfl⟩
  go_wp2_with fail
  go_loopw [11, 12, 35] (fun m o i wr => ∃ k : Nat, k ≤ n ∧ i = .int .i64 k ∧ m = .int .i64 (sumK F xs ys k) ∧ o = .bool (sumKB F G xs ys k) ∧ Below w.heap.size w wr) (fun _ _ i _ => n - (intOf i).toNat)
  case atStart => exact ⟨0, Nat.zero_le _, rfl, rfl, rfl, Below.refl _ _⟩
  case round =>
    obtain ⟨k, hk, rfl, rfl, rfl, hb⟩ := hrel
    have HB := Lib.hid hb
    clear hb
    by_cases hlt : k < n
    · obtain ⟨b, o, rfl, hbB, hcell0⟩ := HX.out.cells k hlt
      obtain ⟨b', o', rfl, hbB', hcell0'⟩ := HY.out.cells k hlt
      obtain ⟨X, hX⟩ : ∃ X, X = xs.getD k 0 := ⟨_, rfl⟩
      obtain ⟨Y, hY⟩ : ∃ Y, Y = ys.getD k 0 := ⟨_, rfl⟩
      rw [← hX] at hcell0
      rw [← hY] at hcell0'
      have hcell := (HB.out.cell (p := ⟨b, o + k, none⟩) hbB).trans hcell0
      have hcell' := (HB.out.cell (p := ⟨b', o' + k, none⟩) hbB').trans hcell0'
      obtain ⟨sk, hsk⟩ : ∃ sk, sumK F xs ys k = sk := ⟨_, rfl⟩
      obtain ⟨fl, hfl⟩ : ∃ fl, sumKB F G xs ys k = fl := ⟨_, rfl⟩
      obtain ⟨sn, hsn⟩ : ∃ sn, F sk X Y = sn := ⟨_, rfl⟩
      obtain ⟨go, hgo⟩ : ∃ go, G sk X Y = go := ⟨_, rfl⟩
      have hT := HS.out wr sk X Y HB.out
      rw [hgo, hsn] at hT
      have HT := Lib.hid hT
      have e1 : sumKB F G xs ys (k + 1) = (fl || go) := by rw [sumKB, hfl, hsk, ← hX, ← hY, hgo]
      have e2 : sumK F xs ys (k + 1) = sn := by rw [sumK, hsk, ← hX, ← hY, hsn]
      have E1 := Lib.hid e1
      have E2 := Lib.hid e2
      rw [hfl, hsk]
      clear hX hY hcell0 hcell0' hfl hgo hsk hsn hT e1 e2
      cases fl
      · go_wp2_with fail
        refine HT.out.mono ?_
        rintro e w' ⟨rfl, hb'⟩
        go_wp2_with fail
        go_roundw
        case rel => exact ⟨k + 1, by omega, by go_num, by rw [E2.out], by rw [E1.out]; rfl, HB.out.trans hb'⟩
        case measure => simp [intOf]; omega
      · go_wp2_with fail
        refine HT.out.mono ?_
        rintro e w' ⟨rfl, hb'⟩
        go_wp2_with fail
        go_roundw
        case rel => exact ⟨k + 1, by omega, by go_num, by rw [E2.out], by rw [E1.out]; rfl, HB.out.trans hb'⟩
        case measure => simp [intOf]; omega
    · have hkn : k = n := by omega
      subst hkn
      go_wp2_with fail
      go_ret2
      exact ⟨rfl, HB.out⟩
set_option maxRecDepth 100000 in
theorem step_any (base D : Nat) (w : World) (v : Value) (zs : List Int) (x y f : Int) (o : Bool) (g : Nat) (lb : Array Value) (eg : ∀ args w, (callFunc g args).run Tryz.prog w = .ok (.enter g args) w)
    (hD : w.cell? ⟨D, 0, none⟩ = some (.func (.func g) #[] lb)) (hbase : base ≤ w.heap.size) (hrow : Row base w v zs) (hz : zs.length ≤ 6)
    (hdo : Calls Tryz.prog g (#[.int .i64 x, .int .i64 y] ++ lb) w fun e w' => e = .returned (.tuple #[.int .i64 f, .bool o]) ∧ Below w.heap.size w w') :
    Calls Tryz.prog 213 #[v, .int .i64 x, .int .i64 y, .pointer (some ⟨D, 0, none⟩)] w fun e w' => ∃ v', e = .returned (.tuple #[v', .bool o]) ∧ Row base w' v' (zs ++ [f]) ∧ Below base w w' := by
  obtain ⟨i0, hi, hz0, hz1, hz2⟩ := info_parts Tryz.infoI64
  have HR := Lib.hid hrow
  have HDO := Lib.hid hdo
  clear hrow hdo
  go_enter Tryz.func213, Tryz.ntmps213
  go_wp2_with fail
  refine HDO.out.mono ?_
  rintro e w1 ⟨rfl, hb1⟩
  have hs1 := hb1.size
  have hr1 := HR.out.below hb1
  have hown : w1.ownsRow base 3 1 v zs.length (icells zs) := hr1
  have HR1 := Lib.hid hr1
  clear hr1
  go_wp2_with (at_builtin; refine wpList_append_own _ rfl _ _ 28 rfl base 3 i0 (.int .i64 0) 1 8 Tryz.underlying28 hi hz0 hz1 hz2 rfl (by decide) _ _ _ rfl (hown.alloc _) ⟨w1.heap.size, 0, none⟩ 1 1 (icells [f]) rfl rfl (cell_num_put _ _ _) (icells_one _) (by unfold maxLen; omega) (by omega) (by simp; omega) ?_; intro v' w2 hown' hgrow _)
  have hput := HR1.out.put (by omega) _ hown' hgrow
  clear hown' hgrow hown
  go_wp2_with fail
  go_ret2
  exact ⟨_, rfl, hput.1, (hb1.mono hbase).trans hput.2⟩

/-- Row by row. -/
theorem eg_step : ∀ args w, (callFunc 213 args).run Tryz.prog w = .ok (.enter 213 args) w := enters_of Tryz.func213 (by kernel_rfl) rfl

set_option maxRecDepth 100000 in
theorem oneByOne_any (w : World) (a1 : Option Addr) (n1 c1 : Nat) (xs : List Int) (a2 : Option Addr) (n2 c2 : Nat) (ys : List Int) (g : Nat) (lb : Array Value) (F : Int → Int → Int) (G : Int → Int → Bool)
    (eg : ∀ args w, (callFunc g args).run Tryz.prog w = .ok (.enter g args) w)
    (hdo : ∀ (wr : World) (x y : Int), Below w.heap.size w wr → Calls Tryz.prog g (#[.int .i64 x, .int .i64 y] ++ lb) wr fun e w' => e = .returned (.tuple #[.int .i64 (F x y), .bool (G x y)]) ∧ Below wr.heap.size wr w')
    (h1 : IntsIn w.heap.size w a1 n1 xs) (h2 : IntsIn w.heap.size w a2 n2 ys) :
    Calls Tryz.prog 169 #[.slice a1 n1 c1, .slice a2 n2 c2, .func (.func g) #[] lb] w fun e w' =>
      ∃ v, e = .returned (.tuple #[v, .bool (flagP G xs ys)]) ∧ Row w.heap.size w' v (rowP F xs ys) ∧ Below w.heap.size w w' := by
  have hal : Below w.heap.size w (w.alloc (.cells #[.func (.func g) #[] lb] 139)) := (Below.refl _ _).alloc (Nat.le_refl _) _
  have k1 := (h1.below hal (Nat.le_refl _)).le hal.size
  have k2 := (h2.below hal (Nat.le_refl _)).le hal.size
  cases hp : pairB xs ys with
  | false =>
    rw [flagP_no G hp, rowP_no F hp]
    have HN := Lib.hid (throughRow_no _ a1 n1 c1 xs a2 n2 c2 ys (.func (.func 213) #[] #[.pointer (some ⟨w.heap.size, 0, none⟩)]) k1 k2 hp)
    have HA := Lib.hid hal
    clear k1 k2 hp h1 h2 hdo hal
    go_enter Tryz.func169, Tryz.ntmps169
    go_wp2_with fail
    refine HN.out.mono ?_
    rintro e w' ⟨rfl, rfl⟩
    go_wp2_with fail
    go_ret2
    exact ⟨_, rfl, Row.nil _ _, HA.out⟩
  | true =>
    obtain ⟨hp1, hp2, hl⟩ := pairB_has hp
    rw [flagP_yes G hp, rowP_yes F hp, h1.len]
    have hnn : n1 = n2 := by rw [← h1.len, ← h2.len]; exact hl
    subst hnn
    have hD : (w.alloc (.cells #[.func (.func g) #[] lb] 139)).cell? ⟨w.heap.size, 0, none⟩ = some (.func (.func g) #[] lb) := by
      rw [cell_of_row _ _ _ _ _ _ (heap_alloc_new w _)]
      rfl
    have hsz : (w.alloc (.cells #[.func (.func g) #[] lb] 139)).heap.size = w.heap.size + 1 := by simp
    have HY := Lib.hid (throughRow_yes _ a1 n1 c1 xs a2 c2 ys 213 #[.pointer (some ⟨w.heap.size, 0, none⟩)] F G eg_step (fun wr v zs x y hb hrow hz =>
      step_any _ w.heap.size wr v zs x y (F x y) (G x y) g lb eg ((hb.cell (p := ⟨w.heap.size, 0, none⟩) (by rw [hsz]; exact Nat.lt_succ_self _)).trans hD) hb.size hrow hz (hdo wr x y (hal.trans (hb.mono hal.size)))) k1 k2 hp1 hp2)
    have HA := Lib.hid hal
    clear k1 k2 hp h1 h2 hdo hal hp1 hp2 hl hD hsz
    go_enter Tryz.func169, Tryz.ntmps169
    go_wp2_with fail
    refine HY.out.mono ?_
    rintro e w' ⟨v, rfl, hrow, hb⟩
    go_wp2_with fail
    go_ret2
    exact ⟨_, rfl, hrow.le HA.out.size, HA.out.trans (hb.mono HA.out.size)⟩
end Go.Proofs.YtpnifgpmleaohaaGreatDoor

end
