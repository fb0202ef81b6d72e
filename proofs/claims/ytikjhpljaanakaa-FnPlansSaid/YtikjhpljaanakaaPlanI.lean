/-
  Plans: the program's.
-/
import Derived.Test.YtikjhpljaanakaaPlanC
import Derived.Test.YtikjhpljaanakaaRow
namespace Go.Proofs.Ytikjhpljaanakaa
open Go.RowKit Go.Sort
set_option linter.unusedVariables false
set_option linter.unusedSimpArgs false

/-- One number more. -/
theorem cells_num (w : World) (k : Int) : ∀ j u, (icells [k])[j]? = some u → (w.alloc (.cells #[.int .i64 k] 3 (0, 0))).cell? ((⟨w.heap.size, 0, none⟩ : Addr).add j) = some u := by
  intro j u hu
  rw [Addr.add_lit, cell_of_row _ _ _ _ _ _ (heap_alloc_new w _)]
  simpa [icells] using hu
theorem icells_oneCell {l : List Int} : ∀ u ∈ icells l, u.oneCell' = true := by
  intro u hu
  obtain ⟨x, -, rfl⟩ := List.mem_map.1 hu
  rfl
theorem wpList_num {ops : Array Oper} {rest : List Oper} {o : Oper} {a : Act} {Q : Exit → Act → World → Prop} (hgd : o.guard = none) (s x : Operand)
    (ho : o.op = .call { callee := .builtin .append, args := #[s, x], argTypes := #[50, 50] }) {base : Nat} {w0 : World} (v : Value) (xs : List Int) (k : Int) (hs : a.eval s = v) (hown : Row base w0 v xs)
    (hx : a.eval x = .slice (some ⟨w0.heap.size, 0, none⟩) 1 1) (hlen : xs.length ≤ 1048000) (hbase : base ≤ w0.heap.size)
    (h : ∀ a' n' c' w', Row base w' (.slice a' n' c') (xs ++ [k]) → Below base w0 w' → wpList Try.prog ops Q rest (a.put o.dst (.slice a' n' c')) w') :
    wpList Try.prog ops Q (o :: rest) a (w0.alloc (.cells #[.int .i64 k] 3 (0, 0))) := by
  obtain ⟨i0, hi, hz0, hz1, hz2⟩ := info_parts Try.infoI64
  refine wpList_append_own _ hgd s x 50 ho base 3 i0 (.int .i64 0) 1 8 Try.underlying50 hi hz0 hz1 hz2 rfl (by decide) v xs.length (icells xs) hs (World.ownsRow.alloc hown _) ⟨w0.heap.size, 0, none⟩ 1 1 (icells [k]) hx rfl (cells_num _ _) icells_oneCell (by unfold maxLen; omega) (by omega) (by simp; omega) ?_
  intro v' w' hown' hg _
  have hr : Row base w' v' (xs ++ [k]) := by
    unfold Row
    rw [List.length_append, icells_append]
    exact hown'
  have hb : Below base w0 w' := ((Below.refl base w0).alloc hbase _).grown hg (by simp; omega) fun k hk => (Row.lt hown k hk).1
  obtain ⟨a', c', e, -⟩ := hr.form
  subst e
  exact h _ _ _ w' hr hb

set_option maxRecDepth 100000 in
set_option maxHeartbeats 1600000 in
theorem implKinds_any (w : World) (n s m : Int) (r : Bool) (f : Int) (c : Nat) (l : Int) (hn1 : 1 ≤ n) (hn2 : n ≤ 4) (hs1 : 0 ≤ s) (hs2 : s < n) (hf1 : 0 ≤ f) (hf2 : f ≤ 8) (hc : c ≤ 8) (hl : l = f + (c : Int) - 1) :
    Calls Try.prog 30 #[taskV n s m r, .int .i64 f, .int .i64 l] w fun e w' => ∃ v', e = .returned v' ∧ Row w.heap.size w' v' (kindsK n s r f c) ∧ Below w.heap.size w w' := by
  have hal : Below w.heap.size w (w.alloc (.cells #[.int .i64 n, .int .i64 s, .int .i64 m, .bool r] 48 (0, 0))) := (Below.refl _ _).alloc (Nat.le_refl _) _
  have hb0 := heap_alloc_new w (.cells #[.int .i64 n, .int .i64 s, .int .i64 m, .bool r] 48 (0, 0))
  have hs0 : w.heap.size < (w.alloc (.cells #[.int .i64 n, .int .i64 s, .int .i64 m, .bool r] 48 (0, 0))).heap.size := by simp
  have HA := Lib.hid hal
  have HB0 := Lib.hid hb0
  have HD := Lib.hid fun (wx : World) (k : Int) => implDoes_any wx n s m r k hn1 hn2 hs1 hs2
  have HL := Lib.hid hl
  clear hal hb0 hl
  go_enter Try.func30, Try.ntmps30
  go_wp2_with fail
  generalize w.alloc (.cells #[.int .i64 n, .int .i64 s, .int .i64 m, .bool r] 48 (0, 0)) = wa at HA HB0 hs0 ⊢
  go_loopw [7, 8] (fun v i wr => ∃ (k : Nat), k ≤ c ∧ i = .int .i64 (f + (k : Int)) ∧ Row (w.heap.size + 1) wr v (kindsK n s r f k) ∧ Below (w.heap.size + 1) wa wr) (fun _ i _ => c - (intOf i - f).toNat)
  case atStart => exact ⟨0, Nat.zero_le _, by simp, Row.nil _ _, Below.refl _ _⟩
  case round =>
    obtain ⟨k, hk, rfl, hr, hb⟩ := hrel
    have hkl := kindsK_length n s r f k
    obtain ⟨i, hi⟩ : ∃ i, f + (k : Int) = i := ⟨_, rfl⟩
    rw [hi]
    have hi1 : 0 ≤ i := by omega
    have hi2 : i ≤ 16 := by omega
    have hbx := (hb.block w.heap.size (by omega)).trans HB0.out
    obtain ⟨c0, c1, c2, c3⟩ := box4 hbx
    have hsz := hb.size
    clear hbx
    by_cases hlt : k < c
    · have hil : i ≤ l := by have := HL.out; omega
      have HC := Lib.hid (HD.out wr i)
      have HR := Lib.hid hr
      have HB := Lib.hid hb
      obtain ⟨d, hd⟩ : ∃ d, doesB n s r i = d := ⟨_, rfl⟩
      rw [hd] at HC
      have hst : kindsK n s r f (k + 1) = kindsK n s r f k ++ if d = true then [i] else [] := by rw [kindsK, hi, hd]
      have HST := Lib.hid hst
      have HI := Lib.hid hi
      clear hr hb hd hst hi
      cases d
      · go_wp2_with fail
        refine HC.out.mono ?_
        rintro e w2 ⟨rfl, hb⟩
        have HR2 := Lib.hid (HR.out.below hb)
        have HB2 := Lib.hid (HB.out.trans (hb.mono (by omega)))
        clear hb
        go_wp2_with fail
        go_roundw
        case rel => exact ⟨k + 1, by omega, by rw [← HI.out]; go_num, by rw [HST.out]; simpa using HR2.out, HB2.out⟩
        case measure => have := HI.out; simp [intOf]; omega
      · obtain ⟨a0, cp0, rfl, -⟩ := HR.out.form
        go_wp2_with fail
        refine HC.out.mono ?_
        rintro e w2 ⟨rfl, hb⟩
        have R := Lib.hid (HR.out.below hb)
        have B := Lib.hid (HB.out.trans (hb.mono (by omega)))
        clear hb
        go_wp2_with (at_builtin; refine wpList_num rfl _ _ rfl _ _ _ rfl R.out rfl (by omega) (by have := B.out.size; omega) ?_; intro a1 n1 c1 w1 hr hb; have R' := Lib.hid hr; have B' := Lib.hid (B.out.trans hb); clear hr hb R B; have R := R'; have B := B'; clear R' B')
        go_roundw
        case rel => exact ⟨k + 1, by omega, by rw [← HI.out]; go_num, by rw [HST.out]; exact R.out, B.out⟩
        case measure => have := HI.out; simp [intOf]; omega
    · obtain rfl : k = c := by omega
      have hil : ¬ i ≤ l := by have := HL.out; omega
      have HR := Lib.hid (Row.le (base' := w.heap.size) hr (Nat.le_succ _))
      have HB := Lib.hid (HA.out.trans (hb.mono (Nat.le_succ _)))
      clear hr hb
      go_wp2_with fail
      go_ret
      exact ⟨_, rfl, HR.out, HB.out⟩

set_option maxRecDepth 100000 in
set_option maxHeartbeats 1600000 in
theorem implAddEach_any (base : Nat) (w : World) (v : Value) (xs : List dTwo) (a' : Option Addr) (n' c' : Nat) (ks : List Int) (m : Int) (h : InsR base w v xs) (hB : base ≤ w.heap.size) (hl : xs.length ≤ 1000000) (h' : IntsIn base w a' n' ks) (hn : n' ≤ 10) :
    Calls Try.prog 31 #[v, .slice a' n' c', .int .i64 m] w fun e w' => ∃ v', e = .returned v' ∧ InsR base w' v' (xs ++ eachP ks m) ∧ Below base w w' := by
  have HK := Lib.hid h'
  have hlen := h'.len
  have HR0 := Lib.hid h
  clear h h'
  go_enter Try.func31, Try.ntmps31
  go_wp2_with fail
  go_loopw [0, 11] (fun l i wr => ∃ k : Nat, k ≤ n' ∧ i = .int .i64 k ∧ InsR base wr l (xs ++ eachP (ks.take k) m) ∧ Below base w wr) (fun _ i _ => n' - (intOf i).toNat)
  case atStart => exact ⟨0, Nat.zero_le _, rfl, by simpa [eachP] using HR0.out, Below.refl _ _⟩
  case round =>
    obtain ⟨k, hk, rfl, hr, hb⟩ := hrel
    by_cases hlt : k < n'
    · obtain ⟨b, o, rfl, hbB, hc0⟩ := HK.out.cells k hlt
      obtain ⟨X, hX⟩ : ∃ X, X = ks.getD k 0 := ⟨_, rfl⟩
      rw [← hX] at hc0
      have hcell := (hb.cell (p := ⟨b, o + k, none⟩) hbB).trans hc0
      have hst : xs ++ eachP (ks.take (k + 1)) m = (xs ++ eachP (ks.take k) m) ++ [(X, m)] := by
        rw [List.append_assoc, List.take_add_one, List.getElem?_eq_getElem (by omega), eachP_append, hX]
        simp [eachP, List.getD, hlen, hlt]
      have hln : (xs ++ eachP (ks.take k) m).length ≤ 1048000 := by rw [List.length_append, eachP_length, List.length_take]; omega
      obtain ⟨a0, cp0, rfl, -⟩ := hr.form
      have R := Lib.hid hr
      have B := Lib.hid hb
      have HST := Lib.hid hst
      clear hr hb hc0 hX hst
      go_wp2_with (at_builtin; refine wpList_ins rfl _ _ rfl _ _ _ _ rfl R.out rfl hln (by have := B.out.size; omega) ?_; intro a1 n1 c1 w1 hr hb; have R' := Lib.hid hr; have B' := Lib.hid (B.out.trans hb); clear hr hb R B; have R := R'; have B := B'; clear R' B')
      go_roundw
      case rel => exact ⟨k + 1, by omega, by go_num, by rw [HST.out]; exact R.out, B.out⟩
      case measure => simp [intOf]; omega
    · obtain rfl : k = n' := by omega
      rw [List.take_of_length_le (by omega)] at hr
      have HR := Lib.hid hr
      have HB := Lib.hid hb
      clear hr hb
      go_wp2_with fail
      go_ret
      exact ⟨_, rfl, HR.out, HB.out⟩
end Go.Proofs.Ytikjhpljaanakaa
