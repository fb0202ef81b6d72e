/-
  Appends at a step of a region that draws its order: of numbers to a row of the call's own; of one element to a list of the call's own.
-/
import Derived.Test.YtpnifgpmleaohaaRow
import Derived.Test.YtpnifgpmleaohaaGrow
import Derived.Deep.AppendLies
namespace Go.Proofs.Ytpnifgpmleaohaa
open Go.RowKit
set_option linter.unusedVariables false

theorem ints_oneCell {l : List Int} : ∀ u ∈ icells l, u.oneCell' = true := by
  intro u hu
  obtain ⟨x, -, rfl⟩ := List.mem_map.1 hu
  rfl
theorem ints_cellsAt {B : Nat} {w : World} {ad : Addr} {m : Nat} {ys : List Int} (h : IntsIn B w (some ad) m ys) : ∀ j u, (icells ys)[j]? = some u → w.cell? (ad.add j) = some u := fun j u hu => by
  have hj : j < ys.length := by have := (List.getElem?_eq_some_iff.1 hu).1; rwa [icells_length] at this
  obtain ⟨b, o, e, -, hc⟩ := h.cells j (by rw [← h.len]; exact hj)
  cases e
  rw [icells_get ys j hj] at hu
  cases hu
  rw [Addr.add_mid]
  exact hc
/-- A row onto which nothing is put. -/
theorem run_append_empty {P : Program} (w : World) (t ty e : TypeId) (i : TypeInfo) (ht : P.underlying t = some (.slice e)) (hi : P.info? e = some i) (g n cap c : Nat) (h : n ≤ cap) :
    (Builtin.append_ #[t, t] ty #[.slice (some ⟨g, 0, none⟩) n cap, .slice none 0 c]).run P w = .ok (.slice (some ⟨g, 0, none⟩) n cap) w := by
  simp [Builtin.append_, run_underlying ht, sizeOf, typeInfo, hi, Builtin.lenOf, h, run_firstCells_none, Addr.add_lit, storeCells]
theorem run_append_empty_none {P : Program} (w : World) (t ty e : TypeId) (i : TypeInfo) (ht : P.underlying t = some (.slice e)) (hi : P.info? e = some i) (c : Nat) :
    (Builtin.append_ #[t, t] ty #[.slice none 0 0, .slice none 0 c]).run P w = .ok (.slice none 0 0) w := by
  simp [Builtin.append_, run_underlying ht, sizeOf, typeInfo, hi, Builtin.lenOf, run_firstCells_none]
theorem step_append_ints (w : World) {ops : Array Oper} {o : Oper} {a : Act} {K : Act → World → Prop} {Q : Exit → Act → World → Prop} {E : Prop} (hgd : o.guard = none) (s x : Operand)
    (ho : o.op = .call { callee := .builtin .append, args := #[s, x], argTypes := #[30, 30] }) (base : Nat) (v : Value) (xs : List Int) (hs : a.eval s = v) (hown : Row base w v xs)
    (ad : Option Addr) (m c B : Nat) (ys : List Int) (hx : a.eval x = .slice ad m c) (hin : IntsIn B w ad m ys) (hlen : xs.length ≤ 1048576) (hbase : base ≤ w.heap.size)
    (h : ∀ ar nr cr w', Row base w' (.slice ar nr cr) (xs ++ ys) → w.grownBy w' v.ownBlock → K (a.put o.dst (.slice ar nr cr)) w') :
    if Region.wanted o (yielded ops a.tmps) = true then Oper.wp Try.prog o a w K Q else E := by
  have hw : Region.wanted o (yielded ops a.tmps) = true := by simp [Region.wanted, hgd]
  rw [if_pos hw]
  obtain ⟨i0, hi, hz0, hz1, hz2⟩ := info_parts Try.infoI64
  have hm := hin.room
  cases ad with
  | none =>
    obtain rfl : m = 0 := by
      rcases Nat.eq_zero_or_pos m with e | e
      · exact e
      · obtain ⟨b, o', e', -⟩ := hin.cells 0 e
        cases e'
    obtain rfl : ys = [] := List.eq_nil_of_length_eq_zero hin.len
    rw [List.append_nil] at h
    have hv : v = .slice none 0 0 ∨ ∃ g n cap, v = .slice (some ⟨g, 0, none⟩) n cap ∧ n ≤ cap := by
      rcases hown.2 with ⟨e, -⟩ | ⟨g, cap, cur, e, -, -, hc, -⟩
      · exact .inl e
      · exact .inr ⟨g, _, cap, e, hc⟩
    rcases hv with rfl | ⟨g, n, cap, rfl, hc⟩
    · have hr := run_append_empty_none (P := Try.prog) w 30 o.type 3 i0 Try.underlying30 hi c
      unfold Oper.wp execOp
      simp only [ho, resolve, invoke, builtin, Sem.run_bind, Sem.run_pure, Result.andThen_ok, List.map_toArray, List.map_cons, List.map_nil, hs, hx, hr]
      exact h _ _ _ w hown (World.grownBy.refl _ _)
    · have hr := run_append_empty (P := Try.prog) w 30 o.type 3 i0 Try.underlying30 hi g n cap c hc
      unfold Oper.wp execOp
      simp only [ho, resolve, invoke, builtin, Sem.run_bind, Sem.run_pure, Result.andThen_ok, List.map_toArray, List.map_cons, List.map_nil, hs, hx, hr]
      exact h _ _ _ w hown (World.grownBy.refl _ _)
  | some ad =>
    refine wp_append_own w s x 30 ho base 3 i0 (.int .i64 0) 1 8 Try.underlying30 hi hz0 hz1 hz2 rfl (by decide) v xs.length (icells xs) hs hown ad m c (icells ys) hx (by rw [icells_length, hin.len, Nat.mul_one]) (ints_cellsAt hin) ints_oneCell (by unfold maxLen; omega) (by omega) hbase ?_
    intro v' w' hown' hg _
    have hr : Row base w' v' (xs ++ ys) := by
      unfold Row
      rw [List.length_append, icells_append, hin.len]
      exact hown'
    obtain ⟨ar, cr, e, -⟩ := hr.form
    subst e
    exact h _ _ _ w' hr hg
/-- A store behind the growth, seen as one before it. -/
theorem grownBy_set {w w' : World} {row : Option Nat} (h : w.grownBy w' row) {g i : Nat} {cs : Array Value} {T0 : TypeId} (u : Value) (hg : g < w.heap.size) (ho : w.heap[g]? = some (.cells cs T0 (0, 0))) (hne : row ≠ some g) :
    (w.setCell ⟨g, i, none⟩ u).grownBy (w'.setCell ⟨g, i, none⟩ u) row := by
  refine ⟨h.os, h.tape, h.output, by simpa using h.size, fun k hk hr => ?_⟩
  rw [World.size_setCell] at hk
  by_cases e : k = g
  · subst e
    rw [heap_setCell_same w k i _ _ u ho, heap_setCell_same w' k i _ _ u ((h.block k hk hr).trans ho)]
  · rw [heap_setCell_other _ _ _ _ (by exact e), heap_setCell_other _ _ _ _ (by exact e)]
    exact h.block k hk hr
theorem ownsRow_set {lo size n : Nat} {T : TypeId} {w : World} {v : Value} {us : List Value} (h : w.ownsRow lo T size v n us) {g : Nat} (i : Nat) (u : Value) (hg : ∀ k, v.ownBlock = some k → k ≠ g) : (w.setCell ⟨g, i, none⟩ u).ownsRow lo T size v n us := by
  refine ⟨h.1, h.2.imp id ?_⟩
  rintro ⟨k, cap, cur, rfl, e1, e2, e3⟩
  exact ⟨k, cap, cur, rfl, e1, (heap_setCell_other _ _ _ _ (by exact hg k rfl)).trans e2, e3⟩
/-- One element more, and a store to a block that lies between the list and the element. -/
theorem ListL.putSet {α : Type} {S : Owned α} {T : TypeId} {lo hi : Nat} {w w' : World} {v v' : Value} {xs : List α} {es : List Value} {x : α} {F : Foot} {o : Obj} {us : List Value} {G : Nat → Foot} (hlo : lo ≤ hi)
    (h1 : w.ownsRow lo T S.size v xs.length us) (h2 : ∀ g, v.ownBlock = some g → g < hi) (hh : hi ≤ w.heap.size) (h3 : ∀ j x, xs[j]? = some x → ∃ es, (∀ i u, es[i]? = some u → us[j * S.size + i]? = some u) ∧ S.owns (G j) w es x)
    (h4 : ∀ j b o, G j b o → lo ≤ b ∧ b < hi ∧ v.ownBlock ≠ some b) (h5 : ∀ j j', j ≠ j' → Apart (G j) (G j'))
    (hs : S.owns F w es x) (hF : ∀ b o, F b o → hi ≤ b ∧ b < w.heap.size) (hl : es.length = S.size)
    (hown : w'.ownsRow lo T S.size v' (xs.length + 1) (us ++ es)) (hg : (w.alloc o).grownBy w' v.ownBlock) (hv : v'.ownBlock = v.ownBlock ∨ v'.ownBlock = some (w.alloc o).heap.size)
    (g i : Nat) (u : Value) {cs : Array Value} {T0 : TypeId} (hg0 : hi ≤ g) (hg1 : g < w.heap.size) (hF0 : ∀ b o, F b o → b ≠ g) (ho : w.heap[g]? = some (.cells cs T0 (0, 0))) :
    ListL S T lo (w'.setCell ⟨g, i, none⟩ u).heap.size (w'.setCell ⟨g, i, none⟩ u) v' (xs ++ [x]) := by
  have hsz : (w.alloc o).heap.size = w.heap.size + 1 := by simp
  have hne : ∀ k, v.ownBlock = some k → k ≠ g := fun k hk e => by have := h2 k hk; omega
  have hsame : ∀ F' : Foot, (∀ b o, F' b o → b ≠ g) → SameAt F' w (w.setCell ⟨g, i, none⟩ u) := fun F' hF' =>
    (Touched.set (F := fun b _ => b = g) w g i u rfl).same fun b o f f' => hF' b o f' f
  refine (ListL.put (w := w.setCell ⟨g, i, none⟩ u) (w' := w'.setCell ⟨g, i, none⟩ u) (o := o) (F := F) (G := G) (us := us) (es := es) hlo (ownsRow_set h1 i u hne) h2 (by simpa using hh)
    (fun j y hy => ?_) h4 h5 (S.owns_keep hs (hsame F hF0)) (fun b o f => by simpa using hF b o f) hl (ownsRow_set hown i u fun k hk => ?_) ?_ (by simpa using hv)).1
  · obtain ⟨es', q1, q2⟩ := h3 j y hy
    exact ⟨es', q1, S.owns_keep q2 (hsame (G j) fun b o f e => by have := (h4 j b o f).2.1; omega)⟩
  · rcases hv with e | e
    · exact hne k (e ▸ hk)
    · rw [e] at hk
      have : (w.alloc o).heap.size = k := by simpa using hk
      omega
  · have := grownBy_set (i := i) hg u (g := g) (by omega) ((heap_alloc_old w o hg1).trans ho) (fun e => hne g e rfl)
    rwa [World.setCell_alloc_past o g i u hg1] at this
/-- One element more: it lies in a block of its own, laid just before. -/
theorem step_append_one (w0 : World) {α : Type} {S : Owned α} {T Ts : TypeId} {ops : Array Oper} {o : Oper} {a : Act} {K : Act → World → Prop} {Q : Exit → Act → World → Prop} {E : Prop} (hgd : o.guard = none) (s x : Operand)
    (ho : o.op = .call { callee := .builtin .append, args := #[s, x], argTypes := #[Ts, Ts] }) (i : TypeInfo) (z : Value) (bytes : Nat) (ht : Try.prog.underlying Ts = some (.slice T)) (hi : Try.prog.info? T = some i) (hz : i.zero = some z)
    (hsize : i.size = S.size) (hby : i.bytes = bytes) (hzs : z.cells.size = S.size) (hsz : 0 < S.size) (hbb : bytes ≤ 1000) (lo hi' : Nat) (hlo : lo ≤ hi') (v : Value) (xs : List α) (y : α) (es : List Value) (F : Foot) (hs : a.eval s = v) (hl : ListL S T lo hi' w0 v xs)
    (hown : S.owns F w0 es y) (hF : ∀ b o, F b o → hi' ≤ b ∧ b < w0.heap.size) (hone : ∀ u ∈ es, u.oneCell' = true) (hx : a.eval x = .slice (some ⟨w0.heap.size, 0, none⟩) 1 1) (hlen : xs.length ≤ 1048576)
    (h : ∀ ar nr cr w', ListL S T lo w'.heap.size w' (.slice ar nr cr) (xs ++ [y]) → Below lo w0 w' → w0.grownBy w' v.ownBlock →
      Hid (∀ (g i : Nat) (u : Value) (cs : Array Value) (T0 : TypeId), hi' ≤ g → g < w0.heap.size → (∀ b o, F b o → b ≠ g) → w0.heap[g]? = some (.cells cs T0 (0, 0)) → ListL S T lo (w'.setCell ⟨g, i, none⟩ u).heap.size (w'.setCell ⟨g, i, none⟩ u) (.slice ar nr cr) (xs ++ [y])) → K (a.put o.dst (.slice ar nr cr)) w') :
    if Region.wanted o (yielded ops a.tmps) = true then Oper.wp Try.prog o a (w0.alloc (.cells es.toArray T (0, 0))) K Q else E := by
  have hle := S.owns_len hown
  obtain ⟨us, G, q1, q2, q3, q4, q5⟩ := hl.all
  have hb0 : (xs.length + 1) * bytes ≤ 1048577 * 1000 := Nat.mul_le_mul (by omega) hbb
  refine step_append_lies (w0.alloc (.cells es.toArray T (0, 0))) hgd s x Ts ho lo T i z S.size bytes ht hi hz hsize hby hzs hsz v xs.length us hs (q1.alloc _) ⟨w0.heap.size, 0, none⟩ 1 1 es hx (by rw [hle, Nat.one_mul]) (fun j u hu => by
    rw [Addr.add_lit, cell_of_row _ _ _ _ _ _ (heap_alloc_new w0 _)]
    simpa using hu) hone (by decide) (by unfold maxLen; omega) (by omega) (by simp; have := hl.top; omega) _ rfl ?_
  intro g cap w' hown' hg hat hlt
  have hv' : (Value.slice (some ⟨g, 0, none⟩) (xs.length + 1) cap).ownBlock = v.ownBlock ∨ (Value.slice (some ⟨g, 0, none⟩) (xs.length + 1) cap).ownBlock = some (w0.alloc (.cells es.toArray T (0, 0))).heap.size := by
    rcases hat with e | e
    · exact .inl e.symm
    · exact .inr (congrArg some e)
  have hset := Lib.hid fun (g' i : Nat) (u : Value) (cs : Array Value) (T0 : TypeId) (hg0 : hi' ≤ g') (hg1 : g' < w0.heap.size) (hF0 : ∀ b o, F b o → b ≠ g') (ho' : w0.heap[g']? = some (.cells cs T0 (0, 0))) =>
    ListL.putSet (S := S) (T := T) (lo := lo) (hi := hi') (w := w0) (w' := w') (v := v) (v' := .slice (some ⟨g, 0, none⟩) (xs.length + 1) cap) (xs := xs) (o := .cells es.toArray T (0, 0)) (x := y) (F := F)
      hlo q1 q2 hl.top q3 q4 q5 hown hF hle hown' hg hv' g' i u hg0 hg1 hF0 ho'
  have hp := ListL.put (S := S) (T := T) (lo := lo) (hi := hi') (w := w0) (w' := w') (v := v) (v' := .slice (some ⟨g, 0, none⟩) (xs.length + 1) cap) (xs := xs) (o := .cells es.toArray T (0, 0)) (x := y) (F := F)
    hlo q1 q2 hl.top q3 q4 q5 hown hF hle hown' hg (by
      rcases hat with e | e
      · exact .inl e.symm
      · exact .inr (congrArg some e))
  refine h _ _ _ w' hp.1 hp.2 ⟨hg.os.trans rfl, hg.tape.trans rfl, hg.output.trans rfl, Nat.le_trans (by simp) hg.size, fun b hb hne => (hg.block b (by simp; omega) hne).trans (heap_alloc_old w0 _ hb)⟩ hset
/-- The operation itself, out of what a step of a drawn region asks. -/
theorem of_step {o : Oper} {ys : Nat → Option Bool} {X : Prop} (hgd : o.guard = none) (h : if Region.wanted o ys = true then X else True) : X := by
  rwa [if_pos (by simp [Region.wanted, hgd])] at h
end Go.Proofs.Ytpnifgpmleaohaa
