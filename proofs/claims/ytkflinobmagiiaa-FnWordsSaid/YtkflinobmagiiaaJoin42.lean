import Derived.Test.YtkflinobmagiiaaJoin8
import Derived.OwnWalk
import Derived.Laws.OwnMore
import Derived.Test.YtkflinobmagiiaaJoin34
import Derived.Test.YtkflinobmagiiaaJoin41
import Derived.Test.YtkflinobmagiiaaJoin23
/-! YtkflinobmagiiaaNumPut -/
section

namespace Go.Proofs.Ytkflinobmagiiaa
open Go.RowKit
set_option linter.unusedVariables false
set_option linter.unusedSimpArgs false

/-- One number more. -/
theorem cells_num (w : World) (k : Int) : ∀ j u, (icells [k])[j]? = some u → (w.alloc (.cells #[.int .i64 k] 3 (0, 0))).cell? ((⟨w.heap.size, 0, none⟩ : Addr).add j) = some u := by
  intro j u hu
  rw [Addr.add_lit, cell_of_row _ _ _ _ _ _ (heap_alloc_new w _)]
  simpa [icells] using hu
theorem icells_oneCell {l : List Int} : ∀ u ∈ icells l, u.oneCell' = true := by
  intro u hu
  obtain ⟨x, -, rfl⟩ := List.mem_map.1 hu
  rfl
theorem wpList_num {ops : Array Oper} {rest : List Oper} {o : Oper} {a : Act} {Q : Exit → Act → World → Prop} (hgd : o.guard = none) (s x : Operand)
    (ho : o.op = .call { callee := .builtin .append, args := #[s, x], argTypes := #[27, 27] }) {base : Nat} {w0 : World} (v : Value) (xs : List Int) (k : Int) (hs : a.eval s = v) (hown : Row base w0 v xs)
    (hx : a.eval x = .slice (some ⟨w0.heap.size, 0, none⟩) 1 1) (hlen : xs.length ≤ 1048000) (hbase : base ≤ w0.heap.size)
    (h : ∀ a' n' c' w', Row base w' (.slice a' n' c') (xs ++ [k]) → Below base w0 w' → wpList Try.prog ops Q rest (a.put o.dst (.slice a' n' c')) w') :
    wpList Try.prog ops Q (o :: rest) a (w0.alloc (.cells #[.int .i64 k] 3 (0, 0))) := by
  obtain ⟨i0, hi, hz0, hz1, hz2⟩ := info_parts Try.infoI64
  refine wpList_append_own _ hgd s x 27 ho base 3 i0 (.int .i64 0) 1 8 Try.underlying27 hi hz0 hz1 hz2 rfl (by decide) v xs.length (icells xs) hs (World.ownsRow.alloc hown _) ⟨w0.heap.size, 0, none⟩ 1 1 (icells [k]) hx rfl (cells_num _ _) icells_oneCell (by unfold maxLen; omega) (by omega) (by simp; omega) ?_
  intro v' w' hown' hg _
  have hr : Row base w' v' (xs ++ [k]) := by
    unfold Row
    rw [List.length_append, icells_append]
    exact hown'
  have hb : Below base w0 w' := ((Below.refl base w0).alloc hbase _).grown hg (by simp; omega) fun k hk => (Row.lt hown k hk).1
  obtain ⟨a', c', e, -⟩ := hr.form
  subst e
  exact h _ _ _ w' hr hb

end Go.Proofs.Ytkflinobmagiiaa

end

/-! YtkflinobmagiiaaAdmZ -/
section

namespace Go.Proofs.Ytkflinobmagiiaa
open Go.RowKit Go.Sort
set_option linter.unusedVariables false
set_option linter.unusedSimpArgs false

theorem box14A {w : World} {g : Nat} {cs : Array Value} {T : TypeId} (h : w.heap[g]? = some (.cells cs T (0, 0))) (i : Nat) (v : Value) (hv : cs[i]? = some v) : w.cell? ⟨g, i, none⟩ = some v := by
  rw [cell_of_row _ _ _ _ _ _ h]
  exact hv

/-- What one operation reads as. -/
theorem op_atA {I : Nat → Prop} {w : World} {a : Option Addr} {n : Nat} {l : List dOp} (h : ListAt shOp I w a n l) (j : Nat) (hj : j < n) :
    ∃ b o x ax nx cx, l[j]? = some x ∧ a = some ⟨b, o, none⟩ ∧ I b ∧ w.cell? ⟨b, o + j * 4, none⟩ = some (.int .i64 x.1) ∧ w.cell? ⟨b, o + j * 4 + 1, none⟩ = some (.int .i64 x.2.1) ∧ w.cell? ⟨b, o + j * 4 + 2, none⟩ = some (.int .i64 x.2.2.1) ∧ w.cell? ⟨b, o + j * 4 + 3, none⟩ = some (.slice ax nx cx) ∧ nx ≤ cx ∧ cx ≤ 9223372036854775807 ∧ ListAt Shape.int I w ax nx x.2.2.2 := by
  obtain ⟨x, hx⟩ : ∃ x, l[j]? = some x := ⟨_, List.getElem?_eq_getElem (by rw [h.1]; exact hj)⟩
  obtain ⟨b, o, es, e, hb, hr, hs⟩ := h.2 j x hx
  obtain ⟨ax, nx, cx, rfl, h1, h2, h3⟩ := shOp_reads.1 hs
  refine ⟨b, o, x, ax, nx, cx, hx, e, hb, ?_, ?_, ?_, ?_, h1, h2, h3⟩
  · have := hr 0 _ rfl
    simpa [shOp_size] using this
  · have := hr 1 _ rfl
    simpa [shOp_size] using this
  · have := hr 2 _ rfl
    simpa [shOp_size] using this
  · have := hr 3 _ rfl
    simpa [shOp_size] using this
/-- How many go into the first of these operations, and come out of each. -/
def sizesA (m : List dOp) : List Int := inG m :: m.map (fun x => x.2.2.1)
set_option maxRecDepth 100000 in
set_option maxHeartbeats 3200000 in
theorem implSizesA_c (w : World) (a : Option Addr) (n c : Nat) (m : List dOp) (h : ListAt shOp (Under w.heap.size) w a n m) (h8 : n ≤ 8) :
    Calls Try.prog 39 #[.slice a n c] w fun e w' => ∃ a' c', e = .returned (.slice a' (n + 1) c') ∧ n + 1 ≤ c' ∧ c' ≤ 9223372036854775807 ∧ Row w.heap.size w' (.slice a' (n + 1) c') (sizesA m) ∧ Below w.heap.size w w' := by
  have HC := Lib.hid (implIn_c w a n c m h h8)
  obtain ⟨I, hI⟩ : ∃ q, inG m = q := ⟨_, rfl⟩
  have hsz : sizesA m = I :: m.map (fun x => x.2.2.1) := by unfold sizesA; rw [hI]
  rw [hsz]
  rw [hI] at HC
  have HL := Lib.hid h
  have HLEN := Lib.hid h.1
  have hal := (Below.refl w.heap.size w).alloc (Nat.le_refl _) (.cells #[.int .i64 I] 3 (0, 0))
  have hr0 : Row w.heap.size (w.alloc (.cells #[.int .i64 I] 3 (0, 0))) (.slice (some ⟨w.heap.size, 0, none⟩) 1 1) [I] :=
    ⟨by simp [icells], .inr ⟨w.heap.size, 1, #[.int .i64 I], rfl, Nat.le_refl _, heap_alloc_new w _, Nat.le_refl _, by unfold maxLen; simp, by simp, by simp [icells]⟩⟩
  have HA := Lib.hid hal
  have HR0 := Lib.hid hr0
  clear h hI hsz hal hr0
  go_enter Try.func39, Try.ntmps39
  go_wp2_with fail
  refine HC.out.mono ?_
  rintro e w' ⟨rfl, rfl⟩
  go_wp2_with fail
  generalize w.alloc (.cells #[.int .i64 I] 3 (0, 0)) = W0 at HA HR0 ⊢
  go_loopw [3, 11] (fun v i wr => ∃ k : Nat, k ≤ n ∧ i = .int .i64 k ∧ Row w.heap.size wr v (I :: (m.take k).map (fun x => x.2.2.1)) ∧ Below w.heap.size w wr) (fun _ i _ => n - (intOf i).toNat)
  case atStart => exact ⟨0, Nat.zero_le _, rfl, HR0.out, HA.out⟩
  case round =>
    obtain ⟨k, hk, rfl, hr, hbw⟩ := hrel
    have hsz := hbw.size
    by_cases hlt : k < n
    · obtain ⟨b, o, x, ax, nx, cx, hx, rfl, hbB, hc0, hc1, hc2, hc3, -, -, -⟩ := op_atA HL.out k hlt
      have htk : (I :: (m.take (k + 1)).map (fun x => x.2.2.1)) = (I :: (m.take k).map (fun x => x.2.2.1)) ++ [x.2.2.1] := by rw [List.take_add_one, hx, List.map_append]; rfl
      have hlk : (I :: (m.take k).map (fun x => x.2.2.1)).length = k + 1 := by rw [List.length_cons, List.length_map, List.length_take, HLEN.out]; omega
      obtain ⟨K0, hK0⟩ : ∃ q, x.1 = q := ⟨_, rfl⟩
      obtain ⟨K1, hK1⟩ : ∃ q, x.2.1 = q := ⟨_, rfl⟩
      obtain ⟨K2, hK2⟩ : ∃ q, x.2.2.1 = q := ⟨_, rfl⟩
      rw [hK0] at hc0
      rw [hK1] at hc1
      rw [hK2] at hc2 htk
      obtain ⟨L, hL⟩ : ∃ L, (I :: (m.take k).map (fun x => x.2.2.1)) = L := ⟨_, rfl⟩
      rw [hL] at hr htk hlk
      obtain ⟨av, cv, rfl, -⟩ := hr.form
      rw [hlk] at hr
      have d0 := (hbw.cell (p := ⟨b, o + k * 4, none⟩) hbB).trans hc0
      have d1 := (hbw.cell (p := ⟨b, o + k * 4 + 1, none⟩) hbB).trans hc1
      have d2 := (hbw.cell (p := ⟨b, o + k * 4 + 2, none⟩) hbB).trans hc2
      have d3 := (hbw.cell (p := ⟨b, o + k * 4 + 3, none⟩) hbB).trans hc3
      have hal := (Below.refl wr.heap.size wr).alloc (Nat.le_refl _) (.cells #[.int .i64 K0, .int .i64 K1, .int .i64 K2, .slice ax nx cx] 72 (0, 0))
      have hbk := heap_alloc_new wr (.cells #[.int .i64 K0, .int .i64 K1, .int .i64 K2, .slice ax nx cx] 72 (0, 0))
      have hrw : Row w.heap.size (wr.alloc (.cells #[.int .i64 K0, .int .i64 K1, .int .i64 K2, .slice ax nx cx] 72 (0, 0))) (.slice av (k + 1) cv) L := World.ownsRow.alloc hr (.cells #[.int .i64 K0, .int .i64 K1, .int .i64 K2, .slice ax nx cx] 72 (0, 0))
      have HR := Lib.hid hrw
      have HBW := Lib.hid (hbw.trans (hal.mono hsz))
      have HBK := Lib.hid hbk
      have HTK := Lib.hid htk
      rw [hlk]
      clear hx hc0 hc1 hc2 hc3 htk hK0 hK1 hK2 hL hr hrw hbw hal hbk
      go_upto_region 5 with fail
      clear d0 d1 d2 d3
      generalize wr.alloc (.cells #[.int .i64 K0, .int .i64 K1, .int .i64 K2, .slice ax nx cx] 72 (0, 0)) = wb at HR HBW HBK ⊢
      have y2 := box14A HBK.out 2 _ rfl
      go_wp2_with (at_builtin; refine wpList_num rfl _ _ rfl _ _ _ rfl HR.out rfl (by omega) (by have := HBW.out.size; omega) ?_; intro a1 n1 c1 w1 hr1 hb1; have HR1 := Lib.hid hr1; have HB1 := Lib.hid (HBW.out.trans hb1); clear hr1 hb1)
      go_roundw
      case rel =>
        refine ⟨k + 1, by omega, by go_num, ?_, HB1.out⟩
        rw [HTK.out]
        exact HR1.out
      case measure => simp [intOf]; omega
    · obtain rfl : k = n := by omega
      rw [List.take_of_length_le (Nat.le_of_eq HLEN.out)] at hr
      obtain ⟨av, nv, cv, e', k1, k2, -⟩ := hr.own
      obtain ⟨av', cv', rfl, -⟩ := hr.form
      have hl1 : (I :: m.map (fun x => x.2.2.1)).length = k + 1 := by rw [List.length_cons, List.length_map, HLEN.out]
      rw [hl1] at hr e' ⊢
      obtain ⟨rfl, rfl, rfl⟩ : av' = av ∧ k + 1 = nv ∧ cv' = cv := by simpa using e'
      have HR := Lib.hid hr
      have HBW := Lib.hid hbw
      have HK := Lib.hid (And.intro k1 k2)
      clear hr hbw hl1 e' k1 k2
      go_wp2_with fail
      go_ret
      exact ⟨av', cv', rfl, HK.out.1, HK.out.2, HR.out, HBW.out⟩
end Go.Proofs.Ytkflinobmagiiaa

end
