/-
  Stages: the sizes of what is saved, by the program (mkeqf.py).
-/
import Derived.Test.YtcooobnaocbdjaaGreatJoin37
namespace Go.Proofs.YtcooobnaocbdjaaGreat
open Go.RowKit Go.Sort
set_option linter.unusedVariables false
set_option linter.unusedSimpArgs false

/-- How many go into the first of these operations, and come out of each. -/
def sizesN (m : List dOp) : List Int := inG m :: m.map (fun x => x.2.2.1)
set_option maxRecDepth 100000 in
set_option maxHeartbeats 3200000 in
theorem implSizes_c (w : World) (a : Option Addr) (n c : Nat) (m : List dOp) (h : ListAt shOp (Under w.heap.size) w a n m) (h8 : n ≤ 8) :
    Calls Tryz.prog 187 #[.slice a n c] w fun e w' => ∃ a' c', e = .returned (.slice a' (n + 1) c') ∧ n + 1 ≤ c' ∧ c' ≤ 9223372036854775807 ∧ Row w.heap.size w' (.slice a' (n + 1) c') (sizesN m) ∧ Below w.heap.size w w' := by
  have HC := Lib.hid (implIn_c w a n c m h h8)
  obtain ⟨I, hI⟩ : ∃ q, inG m = q := ⟨_, rfl⟩
  have hsz : sizesN m = I :: m.map (fun x => x.2.2.1) := by unfold sizesN; rw [hI]
  rw [hsz]
  rw [hI] at HC
  have HL := Lib.hid h
  have HLEN := Lib.hid h.1
  have hal := (Below.refl w.heap.size w).alloc (Nat.le_refl _) (.cells #[.int .i64 I] 3 (0, 0))
  have hr0 : Row w.heap.size (w.alloc (.cells #[.int .i64 I] 3 (0, 0))) (.slice (some ⟨w.heap.size, 0, none⟩) 1 1) [I] :=
    ⟨by simp [icells], .inr ⟨w.heap.size, 1, #[.int .i64 I], rfl, Nat.le_refl _, heap_alloc_new w _, Nat.le_refl _, by unfold maxLen; simp, by simp, by simp [icells]⟩⟩
  have HA := Lib.hid hal
  have HR0 := Lib.hid hr0
  clear h hI hsz hal hr0
  go_enter Tryz.func187, Tryz.ntmps187
  go_wp2_with fail
  refine HC.out.mono ?_
  rintro e w' ⟨rfl, rfl⟩
  go_wp2_with fail
  generalize w.alloc (.cells #[.int .i64 I] 3 (0, 0)) = W0 at HA HR0 ⊢
  go_loopw [3, 11] (fun v i wr => ∃ k : Nat, k ≤ n ∧ i = .int .i64 k ∧ Row w.heap.size wr v (I :: (m.take k).map (fun x => x.2.2.1)) ∧ Below w.heap.size w wr) (fun _ i _ => n - (intOf i).toNat)
  case atStart => exact ⟨0, Nat.zero_le _, rfl, HR0.out, HA.out⟩
  case round =>
    obtain ⟨k, hk, rfl, hr, hbw⟩ := hrel
    have hsz := hbw.size
    by_cases hlt : k < n
    · obtain ⟨b, o, x, ax, nx, cx, hx, rfl, hbB, hc0, hc1, hc2, hc3, -, -, -⟩ := op_at HL.out k hlt
      have htk : (I :: (m.take (k + 1)).map (fun x => x.2.2.1)) = (I :: (m.take k).map (fun x => x.2.2.1)) ++ [x.2.2.1] := by rw [List.take_add_one, hx, List.map_append]; rfl
      have hlk : (I :: (m.take k).map (fun x => x.2.2.1)).length = k + 1 := by rw [List.length_cons, List.length_map, List.length_take, HLEN.out]; omega
      obtain ⟨K0, hK0⟩ : ∃ q, x.1 = q := ⟨_, rfl⟩
      obtain ⟨K1, hK1⟩ : ∃ q, x.2.1 = q := ⟨_, rfl⟩
      obtain ⟨K2, hK2⟩ : ∃ q, x.2.2.1 = q := ⟨_, rfl⟩
      rw [hK0] at hc0
      rw [hK1] at hc1
      rw [hK2] at hc2 htk
      obtain ⟨L, hL⟩ : ∃ L, (I :: (m.take k).map (fun x => x.2.2.1)) = L := ⟨_, rfl⟩
      rw [hL] at hr htk hlk
      obtain ⟨av, cv, rfl, -⟩ := hr.form
      rw [hlk] at hr
      have d0 := (hbw.cell (p := ⟨b, o + k * 4, none⟩) hbB).trans hc0
      have d1 := (hbw.cell (p := ⟨b, o + k * 4 + 1, none⟩) hbB).trans hc1
      have d2 := (hbw.cell (p := ⟨b, o + k * 4 + 2, none⟩) hbB).trans hc2
      have d3 := (hbw.cell (p := ⟨b, o + k * 4 + 3, none⟩) hbB).trans hc3
      have hal := (Below.refl wr.heap.size wr).alloc (Nat.le_refl _) (.cells #[.int .i64 K0, .int .i64 K1, .int .i64 K2, .slice ax nx cx] 156 (0, 0))
      have hbk := heap_alloc_new wr (.cells #[.int .i64 K0, .int .i64 K1, .int .i64 K2, .slice ax nx cx] 156 (0, 0))
      have hrw : Row w.heap.size (wr.alloc (.cells #[.int .i64 K0, .int .i64 K1, .int .i64 K2, .slice ax nx cx] 156 (0, 0))) (.slice av (k + 1) cv) L := World.ownsRow.alloc hr (.cells #[.int .i64 K0, .int .i64 K1, .int .i64 K2, .slice ax nx cx] 156 (0, 0))
      have HR := Lib.hid hrw
      have HBW := Lib.hid (hbw.trans (hal.mono hsz))
      have HBK := Lib.hid hbk
      have HTK := Lib.hid htk
      rw [hlk]
      clear hx hc0 hc1 hc2 hc3 htk hK0 hK1 hK2 hL hr hrw hbw hal hbk
      go_upto_region 5 with fail
      clear d0 d1 d2 d3
      generalize wr.alloc (.cells #[.int .i64 K0, .int .i64 K1, .int .i64 K2, .slice ax nx cx] 156 (0, 0)) = wb at HR HBW HBK ⊢
      have y2 := box14 HBK.out 2 _ rfl
      go_wp2_with (at_builtin; refine wpList_num rfl _ _ rfl _ _ _ rfl HR.out rfl (by omega) (by have := HBW.out.size; omega) ?_; intro a1 n1 c1 w1 hr1 hb1; have HR1 := Lib.hid hr1; have HB1 := Lib.hid (HBW.out.trans hb1); clear hr1 hb1)
      go_roundw
      case rel =>
        refine ⟨k + 1, by omega, by go_num, ?_, HB1.out⟩
        rw [HTK.out]
        exact HR1.out
      case measure => simp [intOf]; omega
    · obtain rfl : k = n := by omega
      rw [List.take_of_length_le (Nat.le_of_eq HLEN.out)] at hr
      obtain ⟨av, nv, cv, e', k1, k2, -⟩ := hr.own
      obtain ⟨av', cv', rfl, -⟩ := hr.form
      have hl1 : (I :: m.map (fun x => x.2.2.1)).length = k + 1 := by rw [List.length_cons, List.length_map, HLEN.out]
      rw [hl1] at hr e' ⊢
      obtain ⟨rfl, rfl, rfl⟩ : av' = av ∧ k + 1 = nv ∧ cv' = cv := by simpa using e'
      have HR := Lib.hid hr
      have HBW := Lib.hid hbw
      have HK := Lib.hid (And.intro k1 k2)
      clear hr hbw hl1 e' k1 k2
      go_wp2_with fail
      go_ret
      exact ⟨av', cv', rfl, HK.out.1, HK.out.2, HR.out, HBW.out⟩
set_option maxRecDepth 100000 in
theorem implSumFits_c (w : World) (a : Option Addr) (n c : Nat) (xs : List dRow) (L : Int) (q : Bool) (h : ListAt shRow (Under w.heap.size) w a n xs) (hb : (Shape.list shRow).bulk xs ≤ 1048576) (a' : Option Addr) (n' c' : Nat) (ys : List dOp) (h' : ListAt shOp (Under w.heap.size) w a' n' ys) (hn' : n' ≤ 1048576) :
    Calls Tryz.prog 163 #[.agg #[.slice a n c, .int .i64 L, .bool q], .slice a' n' c'] w fun e w' => e = .returned (.bool (eqAll xs.length ys.length (sumAt xs ys))) ∧ Below w.heap.size w w' := by
  have hal := (Below.refl w.heap.size w).alloc (Nat.le_refl _) (.cells #[.slice a n c, .int .i64 L, .bool q] 75 (0, 0))
  have HC := Lib.hid (equalFunc_ops _ a n c xs ((h.below hal (Nat.le_refl _)).le hal.size) hb a' n' c' ys ((h'.below hal (Nat.le_refl _)).le hal.size) hn')
  have HA := Lib.hid hal
  obtain ⟨p, hp⟩ : ∃ p, eqAll xs.length ys.length (sumAt xs ys) = p := ⟨_, rfl⟩
  rw [hp] at HC ⊢
  clear h h' hb hal hp
  go_enter Tryz.func163, Tryz.ntmps163
  go_wp2_with fail
  refine HC.out.mono ?_
  rintro e w1 ⟨rfl, hb⟩
  have HB := Lib.hid (HA.out.trans (hb.mono HA.out.size))
  clear hb
  go_wp2_with fail
  go_ret
  exact ⟨rfl, HB.out⟩
set_option maxRecDepth 100000 in
theorem implRowsFit_c (w : World) (a : Option Addr) (n c : Nat) (xs : List dRow) (h : ListAt shRow (Under w.heap.size) w a n xs) (hb : (Shape.list shRow).bulk xs ≤ 1048576) (a' : Option Addr) (n' c' : Nat) (ys : List Int) (h' : IntsIn w.heap.size w a' n' ys) (hn' : n' ≤ 1048576) :
    Calls Tryz.prog 165 #[.slice a n c, .slice a' n' c'] w fun e w' => e = .returned (.bool (eqAll xs.length ys.length (sizeAt xs ys))) ∧ Below w.heap.size w w' := by
  have HC := Lib.hid (equalFunc_sizes w a n c xs h hb a' n' c' ys h' hn')
  obtain ⟨p, hp⟩ : ∃ p, eqAll xs.length ys.length (sizeAt xs ys) = p := ⟨_, rfl⟩
  rw [hp] at HC ⊢
  clear h h' hb hp
  go_enter Tryz.func165, Tryz.ntmps165
  go_wp2_with fail
  refine HC.out.mono ?_
  rintro e w1 ⟨rfl, hb⟩
  have HB := Lib.hid hb
  clear hb
  go_wp2_with fail
  go_ret
  exact ⟨rfl, HB.out⟩
theorem IntsIn.take {B : Nat} {w : World} {a : Option Addr} {n : Nat} {xs : List Int} (h : IntsIn B w a n xs) (k : Nat) (hk : k ≤ n) : IntsIn B w a k (xs.take k) :=
  ⟨by rw [List.length_take, h.len]; omega, by have := h.room; omega, fun j hj => by
    obtain ⟨b, o, e1, e2, e3⟩ := h.cells j (by omega)
    refine ⟨b, o, e1, e2, ?_⟩
    rw [e3, List.getD_eq_getElem?_getD, List.getD_eq_getElem?_getD, List.getElem?_take, if_pos hj]⟩
/-- What a stage saves of a micro-batch. -/
def savedSizesN (redo : Bool) (m : List dOp) : List Int := if redo = true then (sizesN m).take 1 else sizesN m
theorem savedSizes_length (redo : Bool) (m : List dOp) : (savedSizesN redo m).length = if redo = true then 1 else m.length + 1 := by
  unfold savedSizesN sizesN
  cases redo <;> simp
theorem savedSizes_at (redo : Bool) (m : List dOp) (hm : 0 < m.length) (i : Nat) (hi : i < (savedSizesN redo m).length) : (savedSizesN redo m).getD i 0 = if i = 0 then (opAt m 0).2.1 else (opAt m (i - 1)).2.2.1 := by
  have h0 : inG m = (opAt m 0).2.1 := by unfold inG; rw [if_neg (by omega)]
  have hg : ∀ i, i < (sizesN m).length → (sizesN m).getD i 0 = if i = 0 then (opAt m 0).2.1 else (opAt m (i - 1)).2.2.1 := fun i hi => by
    cases i with
    | zero => rw [if_pos rfl]; exact h0
    | succ i =>
      have hl : i < m.length := by unfold sizesN at hi; simpa using hi
      rw [if_neg (by omega), Nat.add_sub_cancel]
      unfold sizesN
      rw [List.getD_cons_succ, List.getD_eq_getElem?_getD, List.getElem?_map, List.getElem?_eq_getElem hl, opAt_get (List.getElem?_eq_getElem hl)]
      rfl
  unfold savedSizesN at hi ⊢
  cases redo with
  | false => exact hg i hi
  | true =>
    simp only [if_true] at hi ⊢
    rw [List.length_take] at hi
    have hi0 : i = 0 := by omega
    subst hi0
    have := hg 0 (by unfold sizesN; simp)
    rw [← this]
    unfold sizesN
    rfl
theorem all_congr' {α : Type} {l : List α} {p q : α → Bool} (h : ∀ x ∈ l, p x = q x) : l.all p = l.all q := by
  induction l with
  | nil => rfl
  | cons x r ih => rw [List.all_cons, List.all_cons, h x (by simp), ih fun y hy => h y (by simp [hy])]
theorem saved_fits (redo : Bool) (m : List dOp) (hm : 0 < m.length) (x : dSaved) : eqAll x.2.length (savedSizesN redo m).length (sizeAt x.2 (savedSizesN redo m)) = savedB redo m x := by
  have hl := savedSizes_length redo m
  unfold eqAll savedB
  rw [hl]
  by_cases e : x.2.length = if redo = true then 1 else m.length + 1
  · rw [decide_eq_true e, Bool.true_and, Bool.true_and]
    refine all_congr' fun i hi => ?_
    have hi' := List.mem_range.1 hi
    unfold sizeAt savedRowB isOfB
    rw [savedSizes_at redo m hm i (by omega)]
  · rw [decide_eq_false e, Bool.false_and, Bool.false_and]
set_option maxRecDepth 100000 in
set_option maxHeartbeats 3200000 in
theorem implSavedSizes_c (w : World) (redo : Bool) (q0 : Int) (a0 : Option Addr) (n0 c0 : Nat) (a1 : Option Addr) (n1 c1 : Nat) (q3 : Bool) (a2 : Option Addr) (n2 c2 : Nat) (a3 : Option Addr) (n3 c3 : Nat) (a4 : Option Addr) (n4 c4 : Nat) (a5 : Option Addr) (n5 c5 : Nat) (a6 : Option Addr) (n6 c6 : Nat) (a7 : Option Addr) (n7 c7 : Nat) (a8 : Option Addr) (n8 c8 : Nat) (q12 : Int) (q13 : Bool) (m : List dOp) (h : ListAt shOp (Under w.heap.size) w a1 n1 m) (h8 : n1 ≤ 8) :
    Calls Tryz.prog 164 #[.agg #[.int .i64 q0, .slice a0 n0 c0, .slice a1 n1 c1, .bool q3, .bool redo, .slice a2 n2 c2, .slice a3 n3 c3, .slice a4 n4 c4, .slice a5 n5 c5, .slice a6 n6 c6, .slice a7 n7 c7, .slice a8 n8 c8, .int .i64 q12, .bool q13]] w fun e w' =>
      ∃ a' n' c', e = .returned (.slice a' n' c') ∧ n' ≤ 9 ∧ IntsIn w'.heap.size w' a' n' (savedSizesN redo m) ∧ Below w.heap.size w w' := by
  have hal : Below w.heap.size w (w.alloc (.cells #[.int .i64 q0, .slice a0 n0 c0, .slice a1 n1 c1, .bool q3, .bool redo, .slice a2 n2 c2, .slice a3 n3 c3, .slice a4 n4 c4, .slice a5 n5 c5, .slice a6 n6 c6, .slice a7 n7 c7, .slice a8 n8 c8, .int .i64 q12, .bool q13] 77 (0, 0))) := (Below.refl _ _).alloc (Nat.le_refl _) _
  have hk0 := heap_alloc_new w (.cells #[.int .i64 q0, .slice a0 n0 c0, .slice a1 n1 c1, .bool q3, .bool redo, .slice a2 n2 c2, .slice a3 n3 c3, .slice a4 n4 c4, .slice a5 n5 c5, .slice a6 n6 c6, .slice a7 n7 c7, .slice a8 n8 c8, .int .i64 q12, .bool q13] 77 (0, 0))
  have hs0 : w.heap.size < (w.alloc (.cells #[.int .i64 q0, .slice a0 n0 c0, .slice a1 n1 c1, .bool q3, .bool redo, .slice a2 n2 c2, .slice a3 n3 c3, .slice a4 n4 c4, .slice a5 n5 c5, .slice a6 n6 c6, .slice a7 n7 c7, .slice a8 n8 c8, .int .i64 q12, .bool q13] 77 (0, 0))).heap.size := by simp
  have HC := Lib.hid (implSizes_c _ a1 n1 c1 m ((h.below hal (Nat.le_refl _)).le hal.size) h8)
  have hsl : (sizesN m).length = n1 + 1 := by unfold sizesN; rw [List.length_cons, List.length_map, h.1]
  have HSL := Lib.hid hsl
  have HA := Lib.hid hal
  have K0 := Lib.hid hk0
  have HS0 := Lib.hid hs0
  clear h hal hk0 hs0 hsl
  go_enter Tryz.func164, Tryz.ntmps164
  go_upto_region 1 with fail
  generalize w.alloc (.cells #[.int .i64 q0, .slice a0 n0 c0, .slice a1 n1 c1, .bool q3, .bool redo, .slice a2 n2 c2, .slice a3 n3 c3, .slice a4 n4 c4, .slice a5 n5 c5, .slice a6 n6 c6, .slice a7 n7 c7, .slice a8 n8 c8, .int .i64 q12, .bool q13] 77 (0, 0)) = wa at HC HA K0 HS0 ⊢
  have y2 := box14 K0.out 2 _ rfl
  go_wp2_with fail
  refine HC.out.mono ?_
  rintro e w1 ⟨a', c', rfl, hc1, hc2, hr, hb⟩
  have HR := Lib.hid hr
  have HBC := Lib.hid hb
  clear hr hb
  have HB := Lib.hid (HA.out.trans (HBC.out.mono HA.out.size))
  have hk1 := (HBC.out.block w.heap.size HS0.out).trans K0.out
  have z4 := box14 hk1 4 _ rfl
  clear y2 hk1
  have hin := HR.out.ints HSL.out (by omega)
  have HIN := Lib.hid hin
  clear hin
  cases redo with
  | false =>
    go_wp2_with fail
    go_ret
    exact ⟨a', n1 + 1, c', rfl, by omega, HIN.out, HB.out⟩
  | true =>
    go_wp2_with fail
    go_ret
    exact ⟨a', 1, c', rfl, by omega, HIN.out.take 1 (by omega), HB.out⟩

end Go.Proofs.YtcooobnaocbdjaaGreat
