/-
  Plans: the model's.
-/
import Derived.Test.YtikjhpljaanakaaPlanA
import Derived.Test.YtikjhpljaanakaaIns
import Derived.Test.YtikjhpljaanakaaOwn
namespace Go.Proofs.Ytikjhpljaanakaa
open Go.RowKit Go.Sort
set_option linter.unusedVariables false
set_option linter.unusedSimpArgs false

/-- One instruction more. -/
theorem wpList_ins {ops : Array Oper} {rest : List Oper} {o : Oper} {a : Act} {Q : Exit → Act → World → Prop} (hgd : o.guard = none) (s x : Operand)
    (ho : o.op = .call { callee := .builtin .append, args := #[s, x], argTypes := #[26, 26] }) {base : Nat} {w0 : World} (v : Value) (xs : List dTwo) (k m : Int) (hs : a.eval s = v) (hown : InsR base w0 v xs)
 (hx : a.eval x = .slice (some ⟨w0.heap.size, 0, none⟩) 1 1) (hlen : xs.length ≤ 1048000) (hbase : base ≤ w0.heap.size)
    (h : ∀ a' n' c' w', InsR base w' (.slice a' n' c') (xs ++ [(k, m)]) → Below base w0 w' → wpList Try.prog ops Q rest (a.put o.dst (.slice a' n' c')) w') :
    wpList Try.prog ops Q (o :: rest) a (w0.alloc (.cells #[.int .i64 k, .int .i64 m] 54 (0, 0))) := by
  obtain ⟨i0, hi, hz0, hz1, hz2⟩ := info_parts infoIns
  refine wpList_append_own _ hgd s x 26 ho base 54 i0 (.agg #[.int .i64 0, .int .i64 0]) 2 16 Try.underlying26 hi hz0 hz1 hz2 rfl (by decide) v xs.length (tcells xs) hs (World.ownsRow.alloc hown _) ⟨w0.heap.size, 0, none⟩ 1 1 (tcells [(k, m)]) hx rfl (cells_two _ _ _) tcells_one (by unfold maxLen; omega) (by omega) (by simp; omega) ?_
  intro v' w' hown' hg _
  have hp := TwoR.put hown hbase _ (ys := [(k, m)]) hown' hg
  obtain ⟨a', c', e, -⟩ := hp.1.form
  subst e
  exact h _ _ _ w' hp.1 hp.2
set_option maxRecDepth 100000 in
set_option maxHeartbeats 1600000 in
theorem specAhead_any (base : Nat) (w : World) (v : Value) (xs : List dTwo) (n s m : Int) (h : InsR base w v xs) (hB : base ≤ w.heap.size) (hl : xs.length ≤ 1000000) (hn1 : 1 ≤ n) (hn2 : n ≤ 4) (hs1 : 0 ≤ s) (hs2 : s < n) :
    Calls Try.prog 39 #[v, .int .i64 n, .int .i64 s, .int .i64 m] w fun e w' => ∃ v', e = .returned v' ∧ InsR base w' v' (xs ++ eachP (aheadK n s) m) ∧ Below base w w' := by
  obtain ⟨a0, c0, rfl, -⟩ := h.form
  have R := Lib.hid h
  have B := Lib.hid (Below.refl base w)

  obtain ⟨ys, hys⟩ : ∃ ys, xs ++ eachP (aheadK n s) m = ys := ⟨_, rfl⟩
  rw [hys]
  unfold aheadK at hys
  clear h
  by_cases c1 : 0 < s
  · have qc1 := eq_true c1
    by_cases c3 : s < n - 1
    · have qc3 := eq_true c3
      simp only [qc1, if_true, qc3, if_true, eachP, List.nil_append, List.append_nil, List.singleton_append, List.cons_append, List.map_cons, List.map_nil] at hys
      have HY := Lib.hid hys
      clear hys
      go_enter Try.func39, Try.ntmps39
      go_wp2_with (at_builtin; refine wpList_ins rfl _ _ rfl _ _ _ _ rfl R.out rfl (by first | omega | (simp; omega)) (by have := B.out.size; omega) ?_; intro a1 n1 c1 w1 hr hb; have R' := Lib.hid hr; have B' := Lib.hid (B.out.trans hb); clear hr hb R B; have R := R'; have B := B'; clear R' B')
      go_ret
      refine ⟨_, rfl, ?_, B.out⟩
      have hR := R.out
      try simp only [List.append_assoc, List.singleton_append, List.cons_append, List.nil_append] at hR
      rw [← HY.out]
      exact hR
    · have qc3 := eq_false c3
      simp only [qc1, if_true, qc3, if_false, eachP, List.nil_append, List.append_nil, List.singleton_append, List.cons_append, List.map_cons, List.map_nil] at hys
      have HY := Lib.hid hys
      clear hys
      go_enter Try.func39, Try.ntmps39
      go_wp2_with (at_builtin; refine wpList_ins rfl _ _ rfl _ _ _ _ rfl R.out rfl (by first | omega | (simp; omega)) (by have := B.out.size; omega) ?_; intro a1 n1 c1 w1 hr hb; have R' := Lib.hid hr; have B' := Lib.hid (B.out.trans hb); clear hr hb R B; have R := R'; have B := B'; clear R' B')
      go_ret
      refine ⟨_, rfl, ?_, B.out⟩
      have hR := R.out
      try simp only [List.append_assoc, List.singleton_append, List.cons_append, List.nil_append] at hR
      rw [← HY.out]
      exact hR
  · have qc1 := eq_false c1
    by_cases c3 : s < n - 1
    · have qc3 := eq_true c3
      simp only [qc1, if_false, qc3, if_true, eachP, List.nil_append, List.append_nil, List.singleton_append, List.cons_append, List.map_cons, List.map_nil] at hys
      have HY := Lib.hid hys
      clear hys
      go_enter Try.func39, Try.ntmps39
      go_wp2_with (at_builtin; refine wpList_ins rfl _ _ rfl _ _ _ _ rfl R.out rfl (by first | omega | (simp; omega)) (by have := B.out.size; omega) ?_; intro a1 n1 c1 w1 hr hb; have R' := Lib.hid hr; have B' := Lib.hid (B.out.trans hb); clear hr hb R B; have R := R'; have B := B'; clear R' B')
      go_ret
      refine ⟨_, rfl, ?_, B.out⟩
      have hR := R.out
      try simp only [List.append_assoc, List.singleton_append, List.cons_append, List.nil_append] at hR
      rw [← HY.out]
      exact hR
    · have qc3 := eq_false c3
      simp only [qc1, if_false, qc3, if_false, eachP, List.nil_append, List.append_nil, List.singleton_append, List.cons_append, List.map_cons, List.map_nil] at hys
      have HY := Lib.hid hys
      clear hys
      go_enter Try.func39, Try.ntmps39
      go_wp2_with (at_builtin; refine wpList_ins rfl _ _ rfl _ _ _ _ rfl R.out rfl (by first | omega | (simp; omega)) (by have := B.out.size; omega) ?_; intro a1 n1 c1 w1 hr hb; have R' := Lib.hid hr; have B' := Lib.hid (B.out.trans hb); clear hr hb R B; have R := R'; have B := B'; clear R' B')
      go_ret
      refine ⟨_, rfl, ?_, B.out⟩
      have hR := R.out
      try simp only [List.append_assoc, List.singleton_append, List.cons_append, List.nil_append] at hR
      rw [← HY.out]
      exact hR
set_option maxRecDepth 100000 in
set_option maxHeartbeats 1600000 in
theorem specBack_any (base : Nat) (w : World) (v : Value) (xs : List dTwo) (n s m : Int) (r : Bool) (h : InsR base w v xs) (hB : base ≤ w.heap.size) (hl : xs.length ≤ 1000000) (hn1 : 1 ≤ n) (hn2 : n ≤ 4) (hs1 : 0 ≤ s) (hs2 : s < n) :
    Calls Try.prog 40 #[v, .int .i64 n, .int .i64 s, .int .i64 m, .bool r] w fun e w' => ∃ v', e = .returned v' ∧ InsR base w' v' (xs ++ eachP (backK n s r) m) ∧ Below base w w' := by
  obtain ⟨a0, c0, rfl, -⟩ := h.form
  have R := Lib.hid h
  have B := Lib.hid (Below.refl base w)

  obtain ⟨ys, hys⟩ : ∃ ys, xs ++ eachP (backK n s r) m = ys := ⟨_, rfl⟩
  rw [hys]
  unfold backK at hys
  clear h
  by_cases c4 : s < n - 1
  · have qc4 := eq_true c4
    cases r
    · have hrf : (false = true) = False := by simp
      by_cases c7 : 0 < s
      · have qc7 := eq_true c7
        simp only [qc4, if_true, hrf, if_false, qc7, if_true, eachP, List.nil_append, List.append_nil, List.singleton_append, List.cons_append, List.map_cons, List.map_nil] at hys
        have HY := Lib.hid hys
        clear hys
        go_enter Try.func40, Try.ntmps40
        go_wp2_with (at_builtin; refine wpList_ins rfl _ _ rfl _ _ _ _ rfl R.out rfl (by first | omega | (simp; omega)) (by have := B.out.size; omega) ?_; intro a1 n1 c1 w1 hr hb; have R' := Lib.hid hr; have B' := Lib.hid (B.out.trans hb); clear hr hb R B; have R := R'; have B := B'; clear R' B')
        go_ret
        refine ⟨_, rfl, ?_, B.out⟩
        have hR := R.out
        try simp only [List.append_assoc, List.singleton_append, List.cons_append, List.nil_append] at hR
        rw [← HY.out]
        exact hR
      · have qc7 := eq_false c7
        simp only [qc4, if_true, hrf, if_false, qc7, if_false, eachP, List.nil_append, List.append_nil, List.singleton_append, List.cons_append, List.map_cons, List.map_nil] at hys
        have HY := Lib.hid hys
        clear hys
        go_enter Try.func40, Try.ntmps40
        go_wp2_with (at_builtin; refine wpList_ins rfl _ _ rfl _ _ _ _ rfl R.out rfl (by first | omega | (simp; omega)) (by have := B.out.size; omega) ?_; intro a1 n1 c1 w1 hr hb; have R' := Lib.hid hr; have B' := Lib.hid (B.out.trans hb); clear hr hb R B; have R := R'; have B := B'; clear R' B')
        go_ret
        refine ⟨_, rfl, ?_, B.out⟩
        have hR := R.out
        try simp only [List.append_assoc, List.singleton_append, List.cons_append, List.nil_append] at hR
        rw [← HY.out]
        exact hR
    · have hrt : (true = true) = True := by simp
      by_cases c7 : 0 < s
      · have qc7 := eq_true c7
        simp only [qc4, if_true, if_true, qc7, if_true, eachP, List.nil_append, List.append_nil, List.singleton_append, List.cons_append, List.map_cons, List.map_nil] at hys
        have HY := Lib.hid hys
        clear hys
        go_enter Try.func40, Try.ntmps40
        go_wp2_with (at_builtin; refine wpList_ins rfl _ _ rfl _ _ _ _ rfl R.out rfl (by first | omega | (simp; omega)) (by have := B.out.size; omega) ?_; intro a1 n1 c1 w1 hr hb; have R' := Lib.hid hr; have B' := Lib.hid (B.out.trans hb); clear hr hb R B; have R := R'; have B := B'; clear R' B')
        go_ret
        refine ⟨_, rfl, ?_, B.out⟩
        have hR := R.out
        try simp only [List.append_assoc, List.singleton_append, List.cons_append, List.nil_append] at hR
        rw [← HY.out]
        exact hR
      · have qc7 := eq_false c7
        simp only [qc4, if_true, if_true, qc7, if_false, eachP, List.nil_append, List.append_nil, List.singleton_append, List.cons_append, List.map_cons, List.map_nil] at hys
        have HY := Lib.hid hys
        clear hys
        go_enter Try.func40, Try.ntmps40
        go_wp2_with (at_builtin; refine wpList_ins rfl _ _ rfl _ _ _ _ rfl R.out rfl (by first | omega | (simp; omega)) (by have := B.out.size; omega) ?_; intro a1 n1 c1 w1 hr hb; have R' := Lib.hid hr; have B' := Lib.hid (B.out.trans hb); clear hr hb R B; have R := R'; have B := B'; clear R' B')
        go_ret
        refine ⟨_, rfl, ?_, B.out⟩
        have hR := R.out
        try simp only [List.append_assoc, List.singleton_append, List.cons_append, List.nil_append] at hR
        rw [← HY.out]
        exact hR
  · have qc4 := eq_false c4
    cases r
    · have hrf : (false = true) = False := by simp
      by_cases c7 : 0 < s
      · have qc7 := eq_true c7
        simp only [qc4, if_false, hrf, if_false, qc7, if_true, eachP, List.nil_append, List.append_nil, List.singleton_append, List.cons_append, List.map_cons, List.map_nil] at hys
        have HY := Lib.hid hys
        clear hys
        go_enter Try.func40, Try.ntmps40
        go_wp2_with (at_builtin; refine wpList_ins rfl _ _ rfl _ _ _ _ rfl R.out rfl (by first | omega | (simp; omega)) (by have := B.out.size; omega) ?_; intro a1 n1 c1 w1 hr hb; have R' := Lib.hid hr; have B' := Lib.hid (B.out.trans hb); clear hr hb R B; have R := R'; have B := B'; clear R' B')
        go_ret
        refine ⟨_, rfl, ?_, B.out⟩
        have hR := R.out
        try simp only [List.append_assoc, List.singleton_append, List.cons_append, List.nil_append] at hR
        rw [← HY.out]
        exact hR
      · have qc7 := eq_false c7
        simp only [qc4, if_false, hrf, if_false, qc7, if_false, eachP, List.nil_append, List.append_nil, List.singleton_append, List.cons_append, List.map_cons, List.map_nil] at hys
        have HY := Lib.hid hys
        clear hys
        go_enter Try.func40, Try.ntmps40
        go_wp2_with (at_builtin; refine wpList_ins rfl _ _ rfl _ _ _ _ rfl R.out rfl (by first | omega | (simp; omega)) (by have := B.out.size; omega) ?_; intro a1 n1 c1 w1 hr hb; have R' := Lib.hid hr; have B' := Lib.hid (B.out.trans hb); clear hr hb R B; have R := R'; have B := B'; clear R' B')
        go_ret
        refine ⟨_, rfl, ?_, B.out⟩
        have hR := R.out
        try simp only [List.append_assoc, List.singleton_append, List.cons_append, List.nil_append] at hR
        rw [← HY.out]
        exact hR
    · have hrt : (true = true) = True := by simp
      by_cases c7 : 0 < s
      · have qc7 := eq_true c7
        simp only [qc4, if_false, if_true, qc7, if_true, eachP, List.nil_append, List.append_nil, List.singleton_append, List.cons_append, List.map_cons, List.map_nil] at hys
        have HY := Lib.hid hys
        clear hys
        go_enter Try.func40, Try.ntmps40
        go_wp2_with (at_builtin; refine wpList_ins rfl _ _ rfl _ _ _ _ rfl R.out rfl (by first | omega | (simp; omega)) (by have := B.out.size; omega) ?_; intro a1 n1 c1 w1 hr hb; have R' := Lib.hid hr; have B' := Lib.hid (B.out.trans hb); clear hr hb R B; have R := R'; have B := B'; clear R' B')
        go_ret
        refine ⟨_, rfl, ?_, B.out⟩
        have hR := R.out
        try simp only [List.append_assoc, List.singleton_append, List.cons_append, List.nil_append] at hR
        rw [← HY.out]
        exact hR
      · have qc7 := eq_false c7
        simp only [qc4, if_false, if_true, qc7, if_false, eachP, List.nil_append, List.append_nil, List.singleton_append, List.cons_append, List.map_cons, List.map_nil] at hys
        have HY := Lib.hid hys
        clear hys
        go_enter Try.func40, Try.ntmps40
        go_wp2_with (at_builtin; refine wpList_ins rfl _ _ rfl _ _ _ _ rfl R.out rfl (by first | omega | (simp; omega)) (by have := B.out.size; omega) ?_; intro a1 n1 c1 w1 hr hb; have R' := Lib.hid hr; have B' := Lib.hid (B.out.trans hb); clear hr hb R B; have R := R'; have B := B'; clear R' B')
        go_ret
        refine ⟨_, rfl, ?_, B.out⟩
        have hR := R.out
        try simp only [List.append_assoc, List.singleton_append, List.cons_append, List.nil_append] at hR
        rw [← HY.out]
        exact hR
end Go.Proofs.Ytikjhpljaanakaa
