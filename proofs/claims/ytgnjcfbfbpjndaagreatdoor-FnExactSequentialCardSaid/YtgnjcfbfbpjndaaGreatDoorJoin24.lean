import Derived.OrdersIn
import Derived.TacticsIn
import Derived.RangeFuncCalls
import Derived.Test.YtgnjcfbfbpjndaaGreatDoorJoin22
import Derived.Test.YtgnjcfbfbpjndaaGreatDoorJoin23
import Derived.Sort.CutIn
import Derived.Test.YtgnjcfbfbpjndaaGreatDoorProg
import Derived.Test.YtgnjcfbfbpjndaaGreatDoorJoin2
import Derived.Lib.Hide
import Derived.WalkSpells
import Derived.WalkLawsBesides
import Derived.Deep.QuietTactic
import Derived.BigQuiet
import Derived.Outline
/-! YtgnjcfbfbpjndaaGreatDoorRoundM -/
section

namespace Go.Proofs.YtgnjcfbfbpjndaaGreatDoor
open Go.RowKit
set_option linter.unusedVariables false

theorem uponIn_round' {F : Fence} {l n : Nat} {P : Program} {o : Oper} {a : Act} {K : Act → World → Prop} {Q : Exit → Act → World → Prop} (r : Result Next) (h : o.uponIn F n P a K Q r) : o.uponIn (F.inRound l) n P a K Q r := by
  cases r with
  | ok v w => cases v <;> exact h
  | halt h' w => cases h' <;> exact h
def notDefer (o : Oper) : Bool := match o.op with | .defer _ => false | _ => true
theorem wpAnyIn_round {F : Fence} {l n : Nat} {P : Program} {md : Region.Mode} {ops : Array Oper} {Q : Exit → Act → World → Prop} (hro : F.round = none) (hd : ∀ (i : Nat) (o : Oper), ops[i]? = some o → ∀ c, o.op ≠ .defer c) :
    ∀ (fuel : Nat) (listed : Array Bool) (a : Act) (w : World), wpAnyIn F n P md ops Q fuel listed a w → wpAnyIn (F.inRound l) n P md ops Q fuel listed a w
  | 0, listed, a, w, h => h
  | fuel + 1, listed, a, w, h => by
    refine ⟨h.1, fun i hi => ?_⟩
    have h1 := h.2 i hi
    have ih := wpAnyIn_round (l := l) (n := n) (P := P) (md := md) (Q := Q) hro hd fuel (listed.setIfInBounds i true)
    unfold wpOpIn at h1 ⊢
    cases ho : ops[i]? with
    | none =>
      rw [ho] at h1
      exact ih _ _ h1
    | some o =>
      rw [ho] at h1
      simp only at h1 ⊢
      split at h1
      · rename_i hw
        rw [if_pos hw]
        have h2 := Oper.wpIn_mono (F := F) (n := n) (P := P) (Q := Q) ih h1
        unfold Oper.wpIn at h2 ⊢
        rw [Oper.semAt_eq _ _ _ (hd i o ho)] at h2 ⊢
        exact ⟨h2.1, uponIn_round' _ h2.2⟩
      · rename_i hw
        rw [if_neg hw]
        exact ⟨h1.1, ih _ _ h1.2⟩
/-- The same, the region's text looked at by reckoning. -/
theorem wpAnyIn_round' {F : Fence} {l n : Nat} {P : Program} {md : Region.Mode} {ops : Array Oper} {Q : Exit → Act → World → Prop} (hro : F.round = none) (hd : ops.all notDefer = true) (fuel : Nat) (listed : Array Bool) (a : Act) (w : World) (h : wpAnyIn F n P md ops Q fuel listed a w) : wpAnyIn (F.inRound l) n P md ops Q fuel listed a w :=
  wpAnyIn_round hro (fun i o ho c hc => by
    have hi := (Array.getElem?_eq_some_iff.1 ho)
    obtain ⟨hlt, he⟩ := hi
    have h1 := Array.all_eq_true.1 hd i hlt
    rw [he] at h1
    unfold notDefer at h1
    rw [hc] at h1
    simp at h1) fuel listed a w h
end Go.Proofs.YtgnjcfbfbpjndaaGreatDoor

end

/-! YtgnjcfbfbpjndaaGreatDoorSeqY -/
section

namespace Go.Proofs.YtgnjcfbfbpjndaaGreatDoor
open Go.RowKit Go.Shelf
set_option linter.unusedVariables false
attribute [local go_sem] Oper.semAt_some

/-- A step back at a place, counted from the end. -/
def stepN (m : List dOp) (xs : List Int) (n : Nat) (s : List Int × Bool × List dRow) (t : Nat) : List Int × Bool × List dRow :=
  (bwOp (opAt m (n - 1 - t)) (inK m xs (n - 1 - t)) s.1, s.2.1 || bwOpB (opAt m (n - 1 - t)) (inK m xs (n - 1 - t)) s.1, s.2.2.set (n - 1 - t) (bwOpG (opAt m (n - 1 - t)) (inK m xs (n - 1 - t)) s.1))
def startB (ds : List Int) (n : Nat) : List Int × Bool × List dRow := (ds, false, listK (fun _ => ([] : List Int)) n)
def foldB (m : List dOp) (xs ds : List Int) (n : Nat) (pre : List (Fin n)) : List Int × Bool × List dRow := (pre.map fun x => x.1).foldl (stepN m xs n) (startB ds n)
theorem foldB_snoc (m : List dOp) (xs ds : List Int) (n : Nat) (pre : List (Fin n)) (x : Fin n) : foldB m xs ds n (pre ++ [x]) = stepN m xs n (foldB m xs ds n pre) x.1 := by
  unfold foldB
  rw [List.map_append, List.foldl_append]
  rfl
theorem foldB_end (m : List dOp) (xs ds : List Int) (n : Nat) (hn : m.length = n) : ∀ k, k ≤ n → (List.range k).foldl (stepN m xs n) (startB ds n) = (backK m xs ds k, backKB m xs ds k, listK (fun j => if j < n - k then [] else gradAt m xs ds j) n)
  | 0, _ => by
    show (ds, false, listK (fun _ => ([] : List Int)) n) = (ds, false, _)
    have e : listK (fun _ => ([] : List Int)) n = listK (fun j => if j < n - 0 then [] else gradAt m xs ds j) n := listK_congr fun j hj => (if_pos (by omega)).symm
    rw [← e]
  | k + 1, hk => by
    rw [List.range_succ, List.foldl_append, foldB_end m xs ds n hn k (by omega)]
    show stepN m xs n _ k = _
    unfold stepN
    have e1 : bwOp (opAt m (n - 1 - k)) (inK m xs (n - 1 - k)) (backK m xs ds k) = backK m xs ds (k + 1) := by
      show _ = bwOp (opAt m (m.length - 1 - k)) (inK m xs (m.length - 1 - k)) (backK m xs ds k)
      rw [hn]
    have e2 : (backKB m xs ds k || bwOpB (opAt m (n - 1 - k)) (inK m xs (n - 1 - k)) (backK m xs ds k)) = backKB m xs ds (k + 1) := by
      show _ = (backKB m xs ds k || bwOpB (opAt m (m.length - 1 - k)) (inK m xs (m.length - 1 - k)) (backK m xs ds k))
      rw [hn]
    have e3 : (listK (fun j => if j < n - k then [] else gradAt m xs ds j) n).set (n - 1 - k) (bwOpG (opAt m (n - 1 - k)) (inK m xs (n - 1 - k)) (backK m xs ds k)) = listK (fun j => if j < n - (k + 1) then [] else gradAt m xs ds j) n := by
      rw [listK_set _ _ _ _ (by omega)]
      refine listK_congr fun i hi => ?_
      by_cases h1 : i = n - 1 - k
      · subst h1
        rw [if_pos rfl, if_neg (by omega)]
        unfold gradAt
        rw [hn, show n - 1 - (n - 1 - k) = k by omega]
      · rw [if_neg h1]
        by_cases h2 : i < n - k
        · rw [if_pos h2, if_pos (by omega)]
        · rw [if_neg h2, if_neg (by omega)]
    simp only [e1, e2, e3]
theorem foldB_came (m : List dOp) (xs ds : List Int) (n : Nat) (hn : m.length = n) (ys : List (Fin n)) (h : CameK ys n) : foldB m xs ds n ys = (backK m xs ds n, backKB m xs ds n, gradsN m xs ds) := by
  unfold foldB
  rw [show ys.map (fun x => x.1) = List.range n from h, foldB_end m xs ds n hn n (Nat.le_refl _)]
  have e : listK (fun j => if j < n - n then [] else gradAt m xs ds j) n = gradsN m xs ds := by
    unfold gradsN
    rw [hn]
    exact listK_congr fun j hj => if_neg (by omega)
  rw [e]
/-- What lies between two rounds of goBack. -/
def BackInv (m : List dOp) (xs ds : List Int) (n g L Bd Br Bo : Nat) (d0 : Value) (n0 : Nat) (w0 : World) (pre : List (Fin n)) (W : World) : Prop :=
  ((∃ d, Boxed W Bd 37 d ∧ ((pre = [] ∧ d = d0) ∨ Row L W d (foldB m xs ds n pre).1)) ∧ Boxed W Br 30 (.slice (some ⟨g, 0, none⟩) n n) ∧ Boxed W Bo 4 (.bool (foldB m xs ds n pre).2.1) ∧
    (∃ H, L ≤ H ∧ H ≤ W.heap.size ∧ GradsAt g L H n W (foldB m xs ds n pre).2.2) ∧ (foldB m xs ds n pre).1.length ≤ 1048576) ∧ Below n0 w0 W
theorem backInv_own (m : List dOp) (xs ds : List Int) (n g L Bd Br Bo : Nat) (d0 : Value) (n0 : Nat) (w0 : World) (S : Nat) (h : n0 ≤ w0.heap.size) (hS : n0 ≤ S) : OwnFrom S (BackInv m xs ds n g L Bd Br Bo d0 n0 w0) := by
  refine OwnFrom.and (Own.from (fun s A B row hs hg hr => ?_) S) (ownFrom_below h hS)
  obtain ⟨⟨d, q1, q2⟩, q3, q4, ⟨H, q5, q6, q7⟩, q8⟩ := hs
  have kb : ∀ (b : Nat) (t : TypeId) (v : Value), Boxed A b t v → Boxed B b t v := fun b t v hb => boxed_own b t (fun _ : Unit => v) () A B row hb hg hr
  refine ⟨⟨d, kb _ _ _ q1, ?_⟩, kb _ _ _ q3, kb _ _ _ q4, ⟨H, q5, Nat.le_trans q6 hg.size, q7.turned hg q6 hr⟩, q8⟩
  rcases q2 with q2 | q2
  · exact .inl q2
  · refine .inr (q2.kept hg ?_)
    cases hd : d.ownBlock with
    | none => exact .inl rfl
    | some k =>
      refine .inr fun e => ?_
      obtain ⟨o, h1, h2⟩ := hr k e.symm
      obtain ⟨-, cur, h3⟩ := owns_block q2 k hd
      rw [h3] at h1
      cases h1
      simp [Obj.isCells] at h2
theorem back_end {n₀ S Bd g Bo B1 B2 j : Nat} {W W1 : World} (a b c : Value) (hb : Below W.heap.size W W1) (h0 : n₀ ≤ W.heap.size) (hd : n₀ ≤ Bd) (hg : n₀ ≤ g) (ho : n₀ ≤ Bo) (k1 : B1 < W.heap.size) (k2 : B2 < W.heap.size) (d1 : B1 ≠ Bd ∧ B1 ≠ g ∧ B1 ≠ Bo) (d2 : B2 ≠ Bd ∧ B2 ≠ g ∧ B2 ≠ Bo) :
    KeepsFrom S W (((W1.setCell ⟨Bd, 0, none⟩ a).setCell ⟨g, j, none⟩ b).setCell ⟨Bo, 0, none⟩ c) ∧ KeepB n₀ B1 B2 W (((W1.setCell ⟨Bd, 0, none⟩ a).setCell ⟨g, j, none⟩ b).setCell ⟨Bo, 0, none⟩ c) := by
  have hs := hb.size
  have hold : ∀ k, k < W.heap.size → k ≠ Bd → k ≠ g → k ≠ Bo → (((W1.setCell ⟨Bd, 0, none⟩ a).setCell ⟨g, j, none⟩ b).setCell ⟨Bo, 0, none⟩ c).heap[k]? = W.heap[k]? := fun k hk e1 e2 e3 => by
    rw [Below.heap_setCell _ _ _ _ e3, Below.heap_setCell _ _ _ _ e2, Below.heap_setCell _ _ _ _ e1]
    exact hb.block k hk
  refine ⟨?_, (((hb.mono h0).setCell (p := ⟨Bd, 0, none⟩) hd a).setCell (p := ⟨g, j, none⟩) hg b).setCell (p := ⟨Bo, 0, none⟩) ho c, hold B1 k1 d1.1 d1.2.1 d1.2.2, hold B2 k2 d2.1 d2.2.1 d2.2.2⟩
  have a1 : KeepsOthers W1 (((W1.setCell ⟨Bd, 0, none⟩ a).setCell ⟨g, j, none⟩ b).setCell ⟨Bo, 0, none⟩ c) := ((KeepsOthers.setCell _ _ _).trans (KeepsOthers.setCell _ _ _)).trans (KeepsOthers.setCell _ _ _)
  exact ⟨Nat.le_trans hs a1.size, fun k o' _ hk ho => a1.same k o' ((hb.block k (Array.getElem?_eq_some_iff.1 hk).1).trans hk) ho⟩
theorem back_inv {m : List dOp} {xs ds : List Int} {n g L Bd Br Bo j n0 H : Nat} {d0 : Value} {w0 W W1 : World} {pre : List (Fin n)} {vd : Value} {a5 a6 : Option Addr} {n5 c5 n6 c6 : Nat} {N1 N2 : List Int} {rows : List dRow} {q fl : Bool}
    (hnx : foldB m xs ds n pre = (N1, q, rows.set j N2)) (hN1 : N1.length ≤ 6) (hj : j < n) (hBd : Boxed W1 Bd 37 vd) (hBr : Boxed W1 Br 30 (.slice (some ⟨g, 0, none⟩) n n)) (hBo : Boxed W1 Bo 4 (.bool fl))
    (hr : Row W.heap.size W1 (.slice a5 n5 c5) N1) (hr' : Row W.heap.size W1 (.slice a6 n6 c6) N2) (hga : GradsAt g L H n W1 rows) (hL : L ≤ H) (hH : H ≤ W.heap.size) (hb : Below W.heap.size W W1) (h0 : Below n0 w0 W) (hn : n0 ≤ W.heap.size)
    (hg : n0 ≤ g ∧ g < L) (hd : n0 ≤ Bd ∧ Bd < L) (ho : n0 ≤ Bo ∧ Bo < L) (e1 : Bd ≠ g) (e2 : Bd ≠ Br) (e3 : Bd ≠ Bo) (e4 : g ≠ Br) (e5 : g ≠ Bo) (e6 : Br ≠ Bo) :
    BackInv m xs ds n g L Bd Br Bo d0 n0 w0 pre (((W1.setCell ⟨Bd, 0, none⟩ (.slice a5 n5 c5)).setCell ⟨g, j, none⟩ (.slice a6 n6 c6)).setCell ⟨Bo, 0, none⟩ (.bool q)) := by
  have hs := hb.size
  have hset : ∀ (A B : Nat) (i : Nat) (t : TypeId) (v u : Value) (X : World), Boxed X A t v → A ≠ B → Boxed (X.setCell ⟨B, i, none⟩ u) A t v := fun A B i t v u X h hne => (Below.heap_setCell _ _ _ _ hne).trans h
  have hro : ownRow.owns (FromB W.heap.size W1.heap.size) (W1.setCell ⟨Bd, 0, none⟩ (.slice a5 n5 c5)) [.slice a6 n6 c6] N2 := by
    have := Row.ownRow (hr'.setBelow (a := ⟨Bd, 0, none⟩) (by show Bd < W.heap.size; omega) (.slice a5 n5 c5))
    simpa using this
  have hg1 := (hga.other (b := Bd) (i := 0) (.slice a5 n5 c5) e1 hd.2).set hj hro (fun b o f => ⟨by have := f.1; omega, f.2⟩) hL (by omega) hg.2
  refine ⟨⟨⟨.slice a5 n5 c5, ?_, .inr ?_⟩, ?_, ?_, ⟨W1.heap.size, by omega, by simp, ?_⟩, ?_⟩, ?_⟩
  · exact hset Bd Bo 0 _ _ _ _ (hset Bd g j _ _ _ _ (hBd.set _) e1) e3
  · rw [hnx]
    exact (((hr.setBelow (a := ⟨Bd, 0, none⟩) (by show Bd < W.heap.size; omega) _).setBelow (a := ⟨g, j, none⟩) (by show g < W.heap.size; omega) _).setBelow (a := ⟨Bo, 0, none⟩) (by show Bo < W.heap.size; omega) _).le (by omega)
  · exact hset Br Bo 0 _ _ _ _ (hset Br g j _ _ _ _ (hset Br Bd 0 _ _ _ _ hBr (Ne.symm e2)) (Ne.symm e4)) e6
  · rw [hnx]
    exact (hset Bo g j _ _ _ _ (hset Bo Bd 0 _ _ _ _ hBo (Ne.symm e3)) (Ne.symm e5)).set _
  · rw [hnx]
    exact hg1.other (b := Bo) (i := 0) (.bool q) (Ne.symm e5) ho.2
  · rw [hnx]
    show N1.length ≤ 1048576
    omega
  · exact (((h0.trans (hb.mono hn)).setCell (p := ⟨Bd, 0, none⟩) hd.1 _).setCell (p := ⟨g, j, none⟩) hg.1 _).setCell (p := ⟨Bo, 0, none⟩) ho.1 _
set_option maxRecDepth 100000 in
set_option maxHeartbeats 3000000 in
theorem implGoBack_any (w : World) (m : List dOp) (n : Nat) (hlen : m.length = n) (hn1 : 1 ≤ n) (hn8 : n ≤ 8) (gs : Nat) (cs : Nat) (us : List Value) (lo0 BI : Nat) (ai : Option Addr) (ni ci : Nat) (xs : List Int)
    (hown : w.ownsRow lo0 118 1 (.slice (some ⟨gs, 0, none⟩) n cs) n us) (hI : w.heap[BI]? = some (.cells #[.slice ai ni ci] 30 (0, 0)))
    (hst : ∀ j x, m[j]? = some x → ∃ u, us[j]? = some u ∧ StepAt w.heap.size 0 w BI x j u) (is : List dRow) (hi : ListAt shRow (Under w.heap.size) w ai ni is) (hin : ∀ j, j < n → is[j]? = some (inK m xs j)) (hsm : xs.length ≤ 6)
    (ad : Option Addr) (nd cd : Nat) (ds : List Int) (hd : IntsIn w.heap.size w ad nd ds) (hg : LaidE w) :
    Calls Tryz.prog 52 #[.slice (some ⟨gs, 0, none⟩) n cs, .slice ad nd cd] w fun e w' => ∃ v, e = .returned (.tuple #[v, .bool (backKB m xs ds n)]) ∧ ListL ownRow 41 w.heap.size w'.heap.size w' v (gradsN m xs ds) ∧ Below w.heap.size w w' := by
  refine (callsIn_wide (n := 6)).1 ?_
  have hmk := run_make_many (P := Tryz.prog) 30 41 _ 1 24 Tryz.underlying30 infoRow1 n (by omega) (by omega)
  refine callsIn_of_wp_marks Tryz.func52 rfl trivial ?_ rfl
  simp only [Tryz.ntmps52, List.size_toArray, List.length_cons, List.length_nil, Nat.reduceAdd, Nat.reduceSub, Array.replicate_succ, Array.replicate_zero, List.push_toArray, List.append_toArray, List.nil_append, List.cons_append]
  have hlt := hg.lt
  have hA1 := (Below.refl w.heap.size w).alloc (Nat.le_refl _) (.cells #[.slice ad nd cd] 37 (0, 0))
  have hA2 := hA1.alloc (by simp) (.cells (madeCells #[.slice none 0 0] n) 41 (0, 0))
  have hA4 := (hA2.alloc (by simp; omega) (.cells #[.slice (some ⟨w.heap.size + 1, 0, none⟩) n n] 30 (0, 0))).alloc (by simp; omega) (.cells #[.bool false] 4 (0, 0))
  have hbd : Boxed ((((w.alloc (.cells #[.slice ad nd cd] 37 (0, 0))).alloc (.cells (madeCells #[.slice none 0 0] n) 41 (0, 0))).alloc (.cells #[.slice (some ⟨w.heap.size + 1, 0, none⟩) n n] 30 (0, 0))).alloc (.cells #[.bool false] 4 (0, 0))) w.heap.size 37 (.slice ad nd cd) := (((Boxed.new w 37 _).alloc _).alloc _).alloc _
  have hga : GradsAt (w.heap.size + 1) (w.heap.size + 5) (w.heap.size + 5) n ((((w.alloc (.cells #[.slice ad nd cd] 37 (0, 0))).alloc (.cells (madeCells #[.slice none 0 0] n) 41 (0, 0))).alloc (.cells #[.slice (some ⟨w.heap.size + 1, 0, none⟩) n n] 30 (0, 0))).alloc (.cells #[.bool false] 4 (0, 0))) (listK (fun _ => ([] : List Int)) n) := by
    have h1 := GradsAt.made (w.alloc (.cells #[.slice ad nd cd] 37 (0, 0))) n (w.heap.size + 5) (w.heap.size + 5) (by omega)
    rw [World.size_alloc] at h1
    obtain ⟨us', G, q0, q1, q2, q3, q4⟩ := h1
    have h2 : ((((w.alloc (.cells #[.slice ad nd cd] 37 (0, 0))).alloc (.cells (madeCells #[.slice none 0 0] n) 41 (0, 0))).alloc (.cells #[.slice (some ⟨w.heap.size + 1, 0, none⟩) n n] 30 (0, 0))).alloc (.cells #[.bool false] 4 (0, 0))).heap[w.heap.size + 1]? = ((w.alloc (.cells #[.slice ad nd cd] 37 (0, 0))).alloc (.cells (madeCells #[.slice none 0 0] n) 41 (0, 0))).heap[w.heap.size + 1]? := by
      rw [Below.heap_alloc _ _ _ (by simp), Below.heap_alloc _ _ _ (by simp)]
    exact GradsAt.keep ⟨us', G, q0, q1, q2, q3, q4⟩ h2 fun b o h1 h2 => absurd h2 (by omega)
  have hbr : Boxed ((((w.alloc (.cells #[.slice ad nd cd] 37 (0, 0))).alloc (.cells (madeCells #[.slice none 0 0] n) 41 (0, 0))).alloc (.cells #[.slice (some ⟨w.heap.size + 1, 0, none⟩) n n] 30 (0, 0))).alloc (.cells #[.bool false] 4 (0, 0))) (w.heap.size + 1 + 1) 30 (.slice (some ⟨w.heap.size + 1, 0, none⟩) n n) := by
    have := (Boxed.new ((w.alloc (.cells #[.slice ad nd cd] 37 (0, 0))).alloc (.cells (madeCells #[.slice none 0 0] n) 41 (0, 0))) 30 (.slice (some ⟨w.heap.size + 1, 0, none⟩) n n)).alloc (.cells #[.bool false] 4 (0, 0))
    rwa [World.size_alloc, World.size_alloc] at this
  have hbo : Boxed ((((w.alloc (.cells #[.slice ad nd cd] 37 (0, 0))).alloc (.cells (madeCells #[.slice none 0 0] n) 41 (0, 0))).alloc (.cells #[.slice (some ⟨w.heap.size + 1, 0, none⟩) n n] 30 (0, 0))).alloc (.cells #[.bool false] 4 (0, 0))) (w.heap.size + 1 + 1 + 1) 4 (.bool false) := by
    have := Boxed.new (((w.alloc (.cells #[.slice ad nd cd] 37 (0, 0))).alloc (.cells (madeCells #[.slice none 0 0] n) 41 (0, 0))).alloc (.cells #[.slice (some ⟨w.heap.size + 1, 0, none⟩) n n] 30 (0, 0))) 4 (.bool false)
    rwa [World.size_alloc, World.size_alloc, World.size_alloc] at this
  have hs4 : ((((w.alloc (.cells #[.slice ad nd cd] 37 (0, 0))).alloc (.cells (madeCells #[.slice none 0 0] n) 41 (0, 0))).alloc (.cells #[.slice (some ⟨w.heap.size + 1, 0, none⟩) n n] 30 (0, 0))).alloc (.cells #[.bool false] 4 (0, 0))).heap.size = w.heap.size + 4 := by simp
  have HOWN := Lib.hid hown
  have HI := Lib.hid hI
  have HST := Lib.hid hst
  have HIS := Lib.hid hi
  have HIN := Lib.hid hin
  have HD := Lib.hid hd
  have HG := Lib.hid hg
  have hnd := hd.room
  have hdl := hd.len
  clear hown hI hst hi hin hd hg hA1 hA2
  gi_wp2
  generalize (((w.alloc (.cells #[.slice ad nd cd] 37 (0, 0))).alloc (.cells (madeCells #[.slice none 0 0] n) 41 (0, 0))).alloc (.cells #[.slice (some ⟨w.heap.size + 1, 0, none⟩) n n] 30 (0, 0))).alloc (.cells #[.bool false] 4 (0, 0)) = wa at hA4 hbd hga hbr hbo hs4 ⊢
  refine ⟨trivial, ?_⟩
  refine (backward_in _ _ _ _ _).mono ?_
  rintro e w' ⟨rfl, rfl⟩
  have hb1 := (Below.refl wa.heap.size wa).alloc (Nat.le_refl _) (.cells #[.slice (some ⟨gs, 0, none⟩) n cs] 88 (0, 0))
  have hbs := Boxed.new wa 88 (.slice (some ⟨gs, 0, none⟩) n cs)
  have hs5 : (wa.alloc (.cells #[.slice (some ⟨gs, 0, none⟩) n cs] 88 (0, 0))).heap.size = w.heap.size + 5 := by simp; omega
  rw [hs4] at hbs
  have HA := Lib.hid (hA4.trans (hb1.mono (by omega)))
  have HBD := Lib.hid (hbd.alloc (.cells #[.slice (some ⟨gs, 0, none⟩) n cs] 88 (0, 0)))
  have HBR := Lib.hid (hbr.alloc (.cells #[.slice (some ⟨gs, 0, none⟩) n cs] 88 (0, 0)))
  have HBO := Lib.hid (hbo.alloc (.cells #[.slice (some ⟨gs, 0, none⟩) n cs] 88 (0, 0)))
  have HGA := Lib.hid (hga.keep (hb1.block _ (by omega)) fun b o h1 h2 => absurd h2 (by omega))
  have HBS := Lib.hid hbs
  clear hA4 hbd hga hbr hbo hb1 hbs
  gi_wp2
  generalize wa.alloc (.cells #[.slice (some ⟨gs, 0, none⟩) n cs] 88 (0, 0)) = W0 at hs5 HA HBD HBR HBO HGA HBS ⊢
  have hgsl : gs < w.heap.size := (World.ownsRow.lt HOWN.out gs rfl).2
  have hul : us.length = n := by have := HOWN.out.1; simpa using this
  have hcl : ∀ i, i < n → W0.cell? ⟨gs, i, none⟩ = some (us.getD i .nilFunc) := fun i hi' => by
    rw [World.cell?_of_block (a := ⟨gs, i, none⟩) (HA.out.block gs hgsl), World.ownsRow.cellAt HOWN.out i (by omega), List.getD_eq_getElem?_getD, List.getElem?_eq_getElem (by omega)]
    rfl
  have HCL := Lib.hid hcl
  have hI0 : BackInv m xs ds n (w.heap.size + 1) (w.heap.size + 5) w.heap.size (w.heap.size + 1 + 1) (w.heap.size + 1 + 1 + 1) (.slice ad nd cd) w.heap.size w [] W0 :=
    ⟨⟨⟨_, HBD.out, .inl ⟨rfl, rfl⟩⟩, HBR.out, HBO.out, ⟨w.heap.size + 5, Nat.le_refl _, by omega, HGA.out⟩, by show ds.length ≤ _; omega⟩, HA.out⟩
  clear hcl
  refine wpIn_rangeFunc_ownG rfl (by omega) (gf := 125) (lb := #[.pointer (some ⟨w.heap.size + 4, 0, none⟩)]) rfl trivial (enters_of Tryz.func125 (by kernel_rfl) rfl)
    (back_stops _ (by omega) (w.heap.size + 4) gs n cs us hn1 hn8 (KeepB w.heap.size (w.heap.size + 4) gs) (fun X Y h => h.2) W0 _ HBS.out (by omega) HCL.out)
    keepB_t (keepB_b (by omega) (by omega) (by omega)) (Below.refl _ _) (fun _ => rfl)
    (BackInv m xs ds n (w.heap.size + 1) (w.heap.size + 5) w.heap.size (w.heap.size + 1 + 1) (w.heap.size + 1 + 1 + 1) (.slice ad nd cd) w.heap.size w)
    (fun _ _ _ => False)
    (backInv_own m xs ds n (w.heap.size + 1) (w.heap.size + 5) w.heap.size (w.heap.size + 1 + 1) (w.heap.size + 1 + 1 + 1) (.slice ad nd cd) w.heap.size w W0.heap.size (Nat.le_refl _) (by omega))
    (fun _ _ _ _ _ hs _ _ => hs)
    hI0 ?a1 ?assign ?body ?done ?stop
  case assign =>
    intro l x W K hK
    simp only [stepEnc]
    gi_wp2
    exact hK
  case body =>
    rintro l pre x W ⟨⟨⟨d, bd, hdd⟩, br, bo, ⟨H, hH1, hH2, hga⟩, hsl⟩, hB⟩ hlen'
    obtain ⟨j, hj⟩ : ∃ j, n - 1 - x.1 = j := ⟨_, rfl⟩
    have hjn : j < n := by omega
    obtain ⟨y, hy⟩ : ∃ y, m[j]? = some y := ⟨_, List.getElem?_eq_getElem (by rw [hlen]; exact hjn)⟩
    obtain ⟨u, hu1, bo', bi, ae, ne, ce, rfl, h1, h2, h3, h4, h5, h6, h7⟩ := HST.out j y hy
    have hug : us[j]?.getD .nilFunc = stepV bo' BI bi := by rw [hu1]; rfl
    have hBI := (Array.getElem?_eq_some_iff.1 HI.out).1
    have hsW := hB.size
    obtain ⟨S, hS⟩ : ∃ S, foldB m xs ds n pre = S := ⟨_, rfl⟩
    have hnext := foldB_snoc m xs ds n pre x
    rw [hS] at hnext hdd bo hga hsl
    unfold stepN at hnext
    rw [hj, opAt_get hy] at hnext
    obtain ⟨vd, nd', cd', rfl, hid⟩ : ∃ vd nd' cd', d = .slice vd nd' cd' ∧ IntsIn W.heap.size W vd nd' S.1 := by
      rcases hdd with ⟨rfl, rfl⟩ | hr
      · refine ⟨ad, nd, cd, rfl, ?_⟩
        rw [← hS]
        exact (HD.out.below hB (Nat.le_refl _)).le hsW
      · obtain ⟨a', c', e, hi'⟩ := hr.form
        exact ⟨a', _, c', e, hi' hsl⟩
    have hX6 : (inK m xs j).length ≤ 1048576 := by
      cases j with
      | zero => show xs.length ≤ _; omega
      | succ k => have := fwOp_length (opAt m k) (inK m xs k); show (fwOp (opAt m k) (inK m xs k)).length ≤ _; omega
    have hT := implStep_any W.drew bo' BI bi y.1 y.2.1 y.2.2.1 ae ne ce y.2.2.2 ai ni ci is j (inK m xs j) vd nd' cd' S.1 ((hB.block bo' h1.2).trans h3) ((hB.block BI hBI).trans HI.out) ((hB.block bi h2.2).trans h4) (((h5.below hB (Nat.le_refl _)).le hsW).below (Below.refl W.heap.size W).drew (Nat.le_refl _)) h6 h7 (((HIS.out.below hB (Nat.le_refl _)).le hsW).below (Below.refl W.heap.size W).drew (Nat.le_refl _)) (HIN.out j hjn) hX6 (hid.below (Below.refl W.heap.size W).drew (Nat.le_refl _)) (HG.out.below hlt (hB.trans ⟨rfl, rfl, rfl, Nat.le_refl _, fun _ _ => rfl⟩))
    obtain ⟨N1, hN1'⟩ : ∃ v, bwN y.1 y.2.1 y.2.2.1 y.2.2.2 (inK m xs j) S.1 = v := ⟨_, rfl⟩
    obtain ⟨N2, hN2'⟩ : ∃ v, bwG y.1 y.2.1 y.2.2.1 y.2.2.2 (inK m xs j) S.1 = v := ⟨_, rfl⟩
    obtain ⟨N3, hN3'⟩ : ∃ v, bwB y.1 y.2.1 y.2.2.1 y.2.2.2 (inK m xs j) S.1 = v := ⟨_, rfl⟩
    have hN1l : N1.length ≤ 6 := by rw [← hN1']; exact bwN_length _ _ _ _ _ _
    have hnx : foldB m xs ds n (pre ++ [x]) = (N1, S.2.1 || N3, S.2.2.set j N2) := by rw [hnext, ← hN1', ← hN2', ← hN3']; rfl
    rw [hN1', hN2', hN3'] at hT
    obtain ⟨fl, hfl⟩ : ∃ fl, S.2.1 = fl := ⟨_, rfl⟩
    rw [hfl] at bo hnx
    have HT := Lib.hid hT
    have HNX := Lib.hid hnx
    have BD := Lib.hid bd
    have BR := Lib.hid br
    have BOX := Lib.hid bo
    have GA := Lib.hid hga
    have HBW := Lib.hid hB
    have cd0 := bd.cell
    have cr0 := br.cell
    have co0 := bo.cell
    simp only [hj, hug]
    unfold stepV
    clear hT hnext hnx bd br bo hga hB hid hdd hN1' hN2' hN3' hfl hS hug hu1 h1 h2 h3 h4 h5 h6 h7 hy hX6
    gi_wp2
    refine wpIn_region_any (by kernel_rfl) ?_
    change wpAnyIn _ _ _ _ _ _ _ _ _ (World.drew _)
    refine wpAnyIn_round' rfl (by kernel_rfl) _ _ _ _ ?_
    refine wpAnyIn_take (i := 1) (v := (.int .i64 j)) rfl rfl (by kernel_rfl) (by kernel_rfl) (by kernel_rfl) (fun _ _ _ h => h) ⟨Or.inl ⟨by rfl, ?hy1⟩, fun _ => rfl⟩ ?rest1
    case hy1 => intro w_; go_simp
    case rest1 =>
      refine wpAnyIn_take (i := 2) (v := (.func (.func 93) #[] #[.pointer (some ⟨bo', 0, none⟩), .pointer (some ⟨BI, 0, none⟩), .pointer (some ⟨bi, 0, none⟩)])) rfl rfl (by kernel_rfl) (by kernel_rfl) (by kernel_rfl) (fun _ _ _ h => h) ⟨Or.inl ⟨by rfl, ?hy2⟩, fun _ => rfl⟩ ?rest2
      case hy2 => intro w_; go_simp
      case rest2 =>
        refine wpAnyIn_ready (rs := [0, 3]) (by kernel_rfl) (by simp) ?_
        refine AllReadyIn.cons rfl (fun K hK => ?step3) ?more3
        case step3 =>
          go_simp
          refine hK _ _ ?_
          clear hK K
          refine wpAnyIn_ready (rs := [3]) (by kernel_rfl) (by simp) ?_
          refine AllReadyIn.cons rfl (fun K hK => ?step4) ?more4
          case step4 =>
            go_simp
            refine hK _ _ ?_
            clear hK K
            refine wpAnyIn_ready (rs := [4]) (by kernel_rfl) (by simp) ?_
            refine AllReadyIn.cons rfl (fun K hK => ?step5) ?more5
            case step5 =>
              go_simp
              refine ⟨trivial, ?_⟩
              refine (callsIn_wide.2 HT.out).mono ?_
              rintro e W1 ⟨v, u, rfl, hr, hr', hap, hb⟩
              have hs1' := hb.size
              have hb1 : Below W.heap.size W W1 := ((Below.refl W.heap.size W).drew).trans hb
              obtain ⟨a5, c5, rfl, -⟩ := hr.form
              obtain ⟨a6, c6, rfl, -⟩ := hr'.form
              obtain ⟨n5, hn5⟩ : ∃ q, N1.length = q := ⟨_, rfl⟩
              obtain ⟨n6, hn6⟩ : ∃ q, N2.length = q := ⟨_, rfl⟩
              rw [hn5] at hr ⊢
              rw [hn6] at hr' ⊢
              have bd1 : Boxed W1 w.heap.size 37 (.slice vd nd' cd') := (hb1.block _ BD.out.lt).trans BD.out
              have br1 : Boxed W1 (w.heap.size + 1 + 1) 30 (.slice (some ⟨w.heap.size + 1, 0, none⟩) n n) := (hb1.block _ BR.out.lt).trans BR.out
              have bo1 : Boxed W1 (w.heap.size + 1 + 1 + 1) 4 (.bool fl) := (hb1.block _ BOX.out.lt).trans BOX.out
              have ga1 := GA.out.below hb1 (by omega) hH2
              obtain ⟨ug, hg1, hg2⟩ := ga1.place hjn
              have k1 := bd1.cell
              have k2 := bd1.frozen
              have k3 := br1.cell
              have k4 := bo1.cell
              have k5 := bo1.frozen
              have HR := Lib.hid hr
              have HR' := Lib.hid hr'
              have HB1 := Lib.hid hb1
              have BD1 := Lib.hid bd1
              have BR1 := Lib.hid br1
              have BO1 := Lib.hid bo1
              have GA1 := Lib.hid ga1
              have HN5 := Lib.hid hn5
              have HN6 := Lib.hid hn6
              clear hr hr' hap hb hb1 bd1 br1 bo1 ga1 hn5 hn6
              refine hK _ _ ?_
              clear hK K
              refine wpAnyIn_take (i := 5) (v := (.tuple #[.slice a5 n5 c5, .slice a6 n6 c6, .bool N3])) rfl rfl (by kernel_rfl) (by kernel_rfl) (by kernel_rfl) (fun _ _ _ h => h) ⟨Or.inl ⟨by rfl, ?hy6⟩, fun _ => rfl⟩ ?rest6
              case hy6 => intro w_; go_simp
              case rest6 =>
                refine wpAnyIn_take (i := 6) (v := (.slice a5 n5 c5)) rfl rfl (by kernel_rfl) (by kernel_rfl) (by kernel_rfl) (fun _ _ _ h => h) ⟨Or.inl ⟨by rfl, ?hy7⟩, fun _ => rfl⟩ ?rest7
                case hy7 => intro w_; go_simp
                case rest7 =>
                  refine wpAnyIn_take (i := 7) (v := (.slice a6 n6 c6)) rfl rfl (by kernel_rfl) (by kernel_rfl) (by kernel_rfl) (fun _ _ _ h => h) ⟨Or.inl ⟨by rfl, ?hy8⟩, fun _ => rfl⟩ ?rest8
                  case hy8 => intro w_; go_simp
                  case rest8 =>
                    refine wpAnyIn_take (i := 8) (v := (.bool N3)) rfl rfl (by kernel_rfl) (by kernel_rfl) (by kernel_rfl) (fun _ _ _ h => h) ⟨Or.inl ⟨by rfl, ?hy9⟩, fun _ => rfl⟩ ?rest9
                    case hy9 => intro w_; go_simp
                    case rest9 =>
                      refine wpAnyIn_ready (rs := [9]) (by kernel_rfl) (by simp) ?_
                      refine AllReadyIn.cons rfl (fun K hK => ?step10) ?more10
                      case step10 =>
                        go_simp
                        refine hK _ _ ?_
                        clear hK K
                        refine wpAnyIn_take (i := 10) (v := (.pointer (some ⟨w.heap.size + 1, j, none⟩))) rfl rfl (by kernel_rfl) (by kernel_rfl) (by kernel_rfl) (fun _ _ _ h => h) ⟨Or.inl ⟨by rfl, ?hy11⟩, fun _ => rfl⟩ ?rest11
                        case hy11 => intro w_; go_simp
                        case rest11 =>
                          refine wpAnyIn_take (i := 11) (v := (.pointer (some ⟨w.heap.size + 1, j, none⟩))) rfl rfl (by kernel_rfl) (by kernel_rfl) (by kernel_rfl) (fun _ _ _ h => h) ⟨Or.inl ⟨by rfl, ?hy12⟩, fun _ => rfl⟩ ?rest12
                          case hy12 => intro w_; go_simp
                          case rest12 =>
                            refine wpAnyIn_ready (rs := [12]) (by kernel_rfl) (by simp) ?_
                            refine AllReadyIn.cons rfl (fun K hK => ?step13) ?more13
                            case step13 =>
                              go_simp
                              refine hK _ _ ?_
                              clear hK K
                              refine wpAnyIn_take (i := 13) (v := (.bool N3)) rfl rfl (by kernel_rfl) (by kernel_rfl) (by kernel_rfl) (fun _ _ _ h => h) ⟨Or.inl ⟨by rfl, ?hy14⟩, fun _ => rfl⟩ ?rest14
                              case hy14 => intro w_; go_simp
                              case rest14 =>
                                refine wpAnyIn_done (by kernel_rfl) ?_ _
                                obtain ⟨W2, hW2⟩ : ∃ W2, (W1.setCell ⟨w.heap.size, 0, none⟩ (.slice a5 n5 c5)).setCell ⟨w.heap.size + 1, j, none⟩ (.slice a6 n6 c6) = W2 := ⟨_, rfl⟩
                                rw [hW2]
                                have bo2 : Boxed W2 (w.heap.size + 1 + 1 + 1) 4 (.bool fl) := by
                                  rw [← hW2]
                                  exact (Below.heap_setCell _ _ _ _ (by show w.heap.size + 1 + 1 + 1 ≠ w.heap.size + 1; omega)).trans ((Below.heap_setCell _ _ _ _ (by show w.heap.size + 1 + 1 + 1 ≠ w.heap.size; omega)).trans BO1.out)
                                have k6 := bo2.cell
                                have k7 := bo2.frozen
                                have HW2 := Lib.hid hW2
                                clear hW2 bo2 k1 k2 k3 k4 k5 hg1 hg2 cd0 cr0 co0
                                cases fl
                                all_goals
                                  gi_wp2
                                  have hW2 := HW2.out
                                  subst hW2
                                  have E := fun q : Bool => back_end (j := j) (S := W0.heap.size) (n₀ := w.heap.size) (B1 := w.heap.size + 4) (B2 := gs) (Bd := w.heap.size) (g := w.heap.size + 1) (Bo := w.heap.size + 1 + 1 + 1) (.slice a5 n5 c5) (.slice a6 n6 c6) (.bool q) HB1.out hsW (Nat.le_refl _) (by omega) (by omega) (by omega) (by omega) ⟨by omega, by omega, by omega⟩ ⟨by omega, by omega, by omega⟩
                                  have hnx := HNX.out
                                  simp only [Bool.false_or, Bool.true_or] at hnx
                                  refine ⟨(E _).1, (E _).2, back_inv (W := W) hnx hN1l hjn BD1.out BR1.out BO1.out HR.out HR'.out GA1.out hH1 hH2 HB1.out HBW.out hsW ⟨by omega, by omega⟩ ⟨Nat.le_refl _, by omega⟩ ⟨by omega, by omega⟩ (by omega) (by omega) (by omega) (by omega) (by omega) (by omega)⟩
                            case more13 =>
                              exact AllReadyIn.nil
                      case more10 =>
                        exact AllReadyIn.nil
            case more5 =>
              exact AllReadyIn.nil
          case more4 =>
            exact AllReadyIn.nil
        case more3 =>
          refine AllReadyIn.cons rfl (fun K hK => ?step15) ?more15
          case step15 =>
            go_simp
            refine hK _ _ ?_
            clear hK K
            refine wpAnyIn_ready (rs := [0, 4]) (by kernel_rfl) (by simp) ?_
            refine AllReadyIn.cons rfl (fun K hK => ?step16) ?more16
            case step16 =>
              go_simp
              refine hK _ _ ?_
              clear hK K
              refine wpAnyIn_ready (rs := [4]) (by kernel_rfl) (by simp) ?_
              refine AllReadyIn.cons rfl (fun K hK => ?step17) ?more17
              case step17 =>
                go_simp
                refine ⟨trivial, ?_⟩
                refine (callsIn_wide.2 HT.out).mono ?_
                rintro e W1 ⟨v, u, rfl, hr, hr', hap, hb⟩
                have hs1' := hb.size
                have hb1 : Below W.heap.size W W1 := ((Below.refl W.heap.size W).drew).trans hb
                obtain ⟨a5, c5, rfl, -⟩ := hr.form
                obtain ⟨a6, c6, rfl, -⟩ := hr'.form
                obtain ⟨n5, hn5⟩ : ∃ q, N1.length = q := ⟨_, rfl⟩
                obtain ⟨n6, hn6⟩ : ∃ q, N2.length = q := ⟨_, rfl⟩
                rw [hn5] at hr ⊢
                rw [hn6] at hr' ⊢
                have bd1 : Boxed W1 w.heap.size 37 (.slice vd nd' cd') := (hb1.block _ BD.out.lt).trans BD.out
                have br1 : Boxed W1 (w.heap.size + 1 + 1) 30 (.slice (some ⟨w.heap.size + 1, 0, none⟩) n n) := (hb1.block _ BR.out.lt).trans BR.out
                have bo1 : Boxed W1 (w.heap.size + 1 + 1 + 1) 4 (.bool fl) := (hb1.block _ BOX.out.lt).trans BOX.out
                have ga1 := GA.out.below hb1 (by omega) hH2
                obtain ⟨ug, hg1, hg2⟩ := ga1.place hjn
                have k1 := bd1.cell
                have k2 := bd1.frozen
                have k3 := br1.cell
                have k4 := bo1.cell
                have k5 := bo1.frozen
                have HR := Lib.hid hr
                have HR' := Lib.hid hr'
                have HB1 := Lib.hid hb1
                have BD1 := Lib.hid bd1
                have BR1 := Lib.hid br1
                have BO1 := Lib.hid bo1
                have GA1 := Lib.hid ga1
                have HN5 := Lib.hid hn5
                have HN6 := Lib.hid hn6
                clear hr hr' hap hb hb1 bd1 br1 bo1 ga1 hn5 hn6
                refine hK _ _ ?_
                clear hK K
                refine wpAnyIn_take (i := 5) (v := (.tuple #[.slice a5 n5 c5, .slice a6 n6 c6, .bool N3])) rfl rfl (by kernel_rfl) (by kernel_rfl) (by kernel_rfl) (fun _ _ _ h => h) ⟨Or.inl ⟨by rfl, ?hy18⟩, fun _ => rfl⟩ ?rest18
                case hy18 => intro w_; go_simp
                case rest18 =>
                  refine wpAnyIn_take (i := 6) (v := (.slice a5 n5 c5)) rfl rfl (by kernel_rfl) (by kernel_rfl) (by kernel_rfl) (fun _ _ _ h => h) ⟨Or.inl ⟨by rfl, ?hy19⟩, fun _ => rfl⟩ ?rest19
                  case hy19 => intro w_; go_simp
                  case rest19 =>
                    refine wpAnyIn_take (i := 7) (v := (.slice a6 n6 c6)) rfl rfl (by kernel_rfl) (by kernel_rfl) (by kernel_rfl) (fun _ _ _ h => h) ⟨Or.inl ⟨by rfl, ?hy20⟩, fun _ => rfl⟩ ?rest20
                    case hy20 => intro w_; go_simp
                    case rest20 =>
                      refine wpAnyIn_take (i := 8) (v := (.bool N3)) rfl rfl (by kernel_rfl) (by kernel_rfl) (by kernel_rfl) (fun _ _ _ h => h) ⟨Or.inl ⟨by rfl, ?hy21⟩, fun _ => rfl⟩ ?rest21
                      case hy21 => intro w_; go_simp
                      case rest21 =>
                        refine wpAnyIn_ready (rs := [9]) (by kernel_rfl) (by simp) ?_
                        refine AllReadyIn.cons rfl (fun K hK => ?step22) ?more22
                        case step22 =>
                          go_simp
                          refine hK _ _ ?_
                          clear hK K
                          refine wpAnyIn_take (i := 10) (v := (.pointer (some ⟨w.heap.size + 1, j, none⟩))) rfl rfl (by kernel_rfl) (by kernel_rfl) (by kernel_rfl) (fun _ _ _ h => h) ⟨Or.inl ⟨by rfl, ?hy23⟩, fun _ => rfl⟩ ?rest23
                          case hy23 => intro w_; go_simp
                          case rest23 =>
                            refine wpAnyIn_take (i := 11) (v := (.pointer (some ⟨w.heap.size + 1, j, none⟩))) rfl rfl (by kernel_rfl) (by kernel_rfl) (by kernel_rfl) (fun _ _ _ h => h) ⟨Or.inl ⟨by rfl, ?hy24⟩, fun _ => rfl⟩ ?rest24
                            case hy24 => intro w_; go_simp
                            case rest24 =>
                              refine wpAnyIn_ready (rs := [12]) (by kernel_rfl) (by simp) ?_
                              refine AllReadyIn.cons rfl (fun K hK => ?step25) ?more25
                              case step25 =>
                                go_simp
                                refine hK _ _ ?_
                                clear hK K
                                refine wpAnyIn_take (i := 13) (v := (.bool N3)) rfl rfl (by kernel_rfl) (by kernel_rfl) (by kernel_rfl) (fun _ _ _ h => h) ⟨Or.inl ⟨by rfl, ?hy26⟩, fun _ => rfl⟩ ?rest26
                                case hy26 => intro w_; go_simp
                                case rest26 =>
                                  refine wpAnyIn_done (by kernel_rfl) ?_ _
                                  obtain ⟨W2, hW2⟩ : ∃ W2, (W1.setCell ⟨w.heap.size, 0, none⟩ (.slice a5 n5 c5)).setCell ⟨w.heap.size + 1, j, none⟩ (.slice a6 n6 c6) = W2 := ⟨_, rfl⟩
                                  rw [hW2]
                                  have bo2 : Boxed W2 (w.heap.size + 1 + 1 + 1) 4 (.bool fl) := by
                                    rw [← hW2]
                                    exact (Below.heap_setCell _ _ _ _ (by show w.heap.size + 1 + 1 + 1 ≠ w.heap.size + 1; omega)).trans ((Below.heap_setCell _ _ _ _ (by show w.heap.size + 1 + 1 + 1 ≠ w.heap.size; omega)).trans BO1.out)
                                  have k6 := bo2.cell
                                  have k7 := bo2.frozen
                                  have HW2 := Lib.hid hW2
                                  clear hW2 bo2 k1 k2 k3 k4 k5 hg1 hg2 cd0 cr0 co0
                                  cases fl
                                  all_goals
                                    gi_wp2
                                    have hW2 := HW2.out
                                    subst hW2
                                    have E := fun q : Bool => back_end (j := j) (S := W0.heap.size) (n₀ := w.heap.size) (B1 := w.heap.size + 4) (B2 := gs) (Bd := w.heap.size) (g := w.heap.size + 1) (Bo := w.heap.size + 1 + 1 + 1) (.slice a5 n5 c5) (.slice a6 n6 c6) (.bool q) HB1.out hsW (Nat.le_refl _) (by omega) (by omega) (by omega) (by omega) ⟨by omega, by omega, by omega⟩ ⟨by omega, by omega, by omega⟩
                                    have hnx := HNX.out
                                    simp only [Bool.false_or, Bool.true_or] at hnx
                                    refine ⟨(E _).1, (E _).2, back_inv (W := W) hnx hN1l hjn BD1.out BR1.out BO1.out HR.out HR'.out GA1.out hH1 hH2 HB1.out HBW.out hsW ⟨by omega, by omega⟩ ⟨Nat.le_refl _, by omega⟩ ⟨by omega, by omega⟩ (by omega) (by omega) (by omega) (by omega) (by omega) (by omega)⟩
                              case more25 =>
                                exact AllReadyIn.nil
                        case more22 =>
                          exact AllReadyIn.nil
              case more17 =>
                exact AllReadyIn.nil
            case more16 =>
              refine AllReadyIn.cons rfl (fun K hK => ?step27) ?more27
              case step27 =>
                go_simp
                refine ⟨trivial, ?_⟩
                refine (callsIn_wide.2 HT.out).mono ?_
                rintro e W1 ⟨v, u, rfl, hr, hr', hap, hb⟩
                have hs1' := hb.size
                have hb1 : Below W.heap.size W W1 := ((Below.refl W.heap.size W).drew).trans hb
                obtain ⟨a5, c5, rfl, -⟩ := hr.form
                obtain ⟨a6, c6, rfl, -⟩ := hr'.form
                obtain ⟨n5, hn5⟩ : ∃ q, N1.length = q := ⟨_, rfl⟩
                obtain ⟨n6, hn6⟩ : ∃ q, N2.length = q := ⟨_, rfl⟩
                rw [hn5] at hr ⊢
                rw [hn6] at hr' ⊢
                have bd1 : Boxed W1 w.heap.size 37 (.slice vd nd' cd') := (hb1.block _ BD.out.lt).trans BD.out
                have br1 : Boxed W1 (w.heap.size + 1 + 1) 30 (.slice (some ⟨w.heap.size + 1, 0, none⟩) n n) := (hb1.block _ BR.out.lt).trans BR.out
                have bo1 : Boxed W1 (w.heap.size + 1 + 1 + 1) 4 (.bool fl) := (hb1.block _ BOX.out.lt).trans BOX.out
                have ga1 := GA.out.below hb1 (by omega) hH2
                obtain ⟨ug, hg1, hg2⟩ := ga1.place hjn
                have k1 := bd1.cell
                have k2 := bd1.frozen
                have k3 := br1.cell
                have k4 := bo1.cell
                have k5 := bo1.frozen
                have HR := Lib.hid hr
                have HR' := Lib.hid hr'
                have HB1 := Lib.hid hb1
                have BD1 := Lib.hid bd1
                have BR1 := Lib.hid br1
                have BO1 := Lib.hid bo1
                have GA1 := Lib.hid ga1
                have HN5 := Lib.hid hn5
                have HN6 := Lib.hid hn6
                clear hr hr' hap hb hb1 bd1 br1 bo1 ga1 hn5 hn6
                refine hK _ _ ?_
                clear hK K
                refine wpAnyIn_take (i := 5) (v := (.tuple #[.slice a5 n5 c5, .slice a6 n6 c6, .bool N3])) rfl rfl (by kernel_rfl) (by kernel_rfl) (by kernel_rfl) (fun _ _ _ h => h) ⟨Or.inl ⟨by rfl, ?hy28⟩, fun _ => rfl⟩ ?rest28
                case hy28 => intro w_; go_simp
                case rest28 =>
                  refine wpAnyIn_take (i := 6) (v := (.slice a5 n5 c5)) rfl rfl (by kernel_rfl) (by kernel_rfl) (by kernel_rfl) (fun _ _ _ h => h) ⟨Or.inl ⟨by rfl, ?hy29⟩, fun _ => rfl⟩ ?rest29
                  case hy29 => intro w_; go_simp
                  case rest29 =>
                    refine wpAnyIn_take (i := 7) (v := (.slice a6 n6 c6)) rfl rfl (by kernel_rfl) (by kernel_rfl) (by kernel_rfl) (fun _ _ _ h => h) ⟨Or.inl ⟨by rfl, ?hy30⟩, fun _ => rfl⟩ ?rest30
                    case hy30 => intro w_; go_simp
                    case rest30 =>
                      refine wpAnyIn_take (i := 8) (v := (.bool N3)) rfl rfl (by kernel_rfl) (by kernel_rfl) (by kernel_rfl) (fun _ _ _ h => h) ⟨Or.inl ⟨by rfl, ?hy31⟩, fun _ => rfl⟩ ?rest31
                      case hy31 => intro w_; go_simp
                      case rest31 =>
                        refine wpAnyIn_ready (rs := [0, 9]) (by kernel_rfl) (by simp) ?_
                        refine AllReadyIn.cons rfl (fun K hK => ?step32) ?more32
                        case step32 =>
                          go_simp
                          refine hK _ _ ?_
                          clear hK K
                          refine wpAnyIn_ready (rs := [9]) (by kernel_rfl) (by simp) ?_
                          refine AllReadyIn.cons rfl (fun K hK => ?step33) ?more33
                          case step33 =>
                            go_simp
                            refine hK _ _ ?_
                            clear hK K
                            refine wpAnyIn_take (i := 10) (v := (.pointer (some ⟨w.heap.size + 1, j, none⟩))) rfl rfl (by kernel_rfl) (by kernel_rfl) (by kernel_rfl) (fun _ _ _ h => h) ⟨Or.inl ⟨by rfl, ?hy34⟩, fun _ => rfl⟩ ?rest34
                            case hy34 => intro w_; go_simp
                            case rest34 =>
                              refine wpAnyIn_take (i := 11) (v := (.pointer (some ⟨w.heap.size + 1, j, none⟩))) rfl rfl (by kernel_rfl) (by kernel_rfl) (by kernel_rfl) (fun _ _ _ h => h) ⟨Or.inl ⟨by rfl, ?hy35⟩, fun _ => rfl⟩ ?rest35
                              case hy35 => intro w_; go_simp
                              case rest35 =>
                                refine wpAnyIn_ready (rs := [12]) (by kernel_rfl) (by simp) ?_
                                refine AllReadyIn.cons rfl (fun K hK => ?step36) ?more36
                                case step36 =>
                                  go_simp
                                  refine hK _ _ ?_
                                  clear hK K
                                  refine wpAnyIn_take (i := 13) (v := (.bool N3)) rfl rfl (by kernel_rfl) (by kernel_rfl) (by kernel_rfl) (fun _ _ _ h => h) ⟨Or.inl ⟨by rfl, ?hy37⟩, fun _ => rfl⟩ ?rest37
                                  case hy37 => intro w_; go_simp
                                  case rest37 =>
                                    refine wpAnyIn_done (by kernel_rfl) ?_ _
                                    obtain ⟨W2, hW2⟩ : ∃ W2, (W1.setCell ⟨w.heap.size, 0, none⟩ (.slice a5 n5 c5)).setCell ⟨w.heap.size + 1, j, none⟩ (.slice a6 n6 c6) = W2 := ⟨_, rfl⟩
                                    rw [hW2]
                                    have bo2 : Boxed W2 (w.heap.size + 1 + 1 + 1) 4 (.bool fl) := by
                                      rw [← hW2]
                                      exact (Below.heap_setCell _ _ _ _ (by show w.heap.size + 1 + 1 + 1 ≠ w.heap.size + 1; omega)).trans ((Below.heap_setCell _ _ _ _ (by show w.heap.size + 1 + 1 + 1 ≠ w.heap.size; omega)).trans BO1.out)
                                    have k6 := bo2.cell
                                    have k7 := bo2.frozen
                                    have HW2 := Lib.hid hW2
                                    clear hW2 bo2 k1 k2 k3 k4 k5 hg1 hg2 cd0 cr0 co0
                                    cases fl
                                    all_goals
                                      gi_wp2
                                      have hW2 := HW2.out
                                      subst hW2
                                      have E := fun q : Bool => back_end (j := j) (S := W0.heap.size) (n₀ := w.heap.size) (B1 := w.heap.size + 4) (B2 := gs) (Bd := w.heap.size) (g := w.heap.size + 1) (Bo := w.heap.size + 1 + 1 + 1) (.slice a5 n5 c5) (.slice a6 n6 c6) (.bool q) HB1.out hsW (Nat.le_refl _) (by omega) (by omega) (by omega) (by omega) ⟨by omega, by omega, by omega⟩ ⟨by omega, by omega, by omega⟩
                                      have hnx := HNX.out
                                      simp only [Bool.false_or, Bool.true_or] at hnx
                                      refine ⟨(E _).1, (E _).2, back_inv (W := W) hnx hN1l hjn BD1.out BR1.out BO1.out HR.out HR'.out GA1.out hH1 hH2 HB1.out HBW.out hsW ⟨by omega, by omega⟩ ⟨Nat.le_refl _, by omega⟩ ⟨by omega, by omega⟩ (by omega) (by omega) (by omega) (by omega) (by omega) (by omega)⟩
                                case more36 =>
                                  exact AllReadyIn.nil
                          case more33 =>
                            exact AllReadyIn.nil
                        case more32 =>
                          refine AllReadyIn.cons rfl (fun K hK => ?step38) ?more38
                          case step38 =>
                            go_simp
                            refine hK _ _ ?_
                            clear hK K
                            refine wpAnyIn_ready (rs := [0]) (by kernel_rfl) (by simp) ?_
                            refine AllReadyIn.cons rfl (fun K hK => ?step39) ?more39
                            case step39 =>
                              go_simp
                              refine hK _ _ ?_
                              clear hK K
                              refine wpAnyIn_take (i := 10) (v := (.pointer (some ⟨w.heap.size + 1, j, none⟩))) rfl rfl (by kernel_rfl) (by kernel_rfl) (by kernel_rfl) (fun _ _ _ h => h) ⟨Or.inl ⟨by rfl, ?hy40⟩, fun _ => rfl⟩ ?rest40
                              case hy40 => intro w_; go_simp
                              case rest40 =>
                                refine wpAnyIn_take (i := 11) (v := (.pointer (some ⟨w.heap.size + 1, j, none⟩))) rfl rfl (by kernel_rfl) (by kernel_rfl) (by kernel_rfl) (fun _ _ _ h => h) ⟨Or.inl ⟨by rfl, ?hy41⟩, fun _ => rfl⟩ ?rest41
                                case hy41 => intro w_; go_simp
                                case rest41 =>
                                  refine wpAnyIn_ready (rs := [12]) (by kernel_rfl) (by simp) ?_
                                  refine AllReadyIn.cons rfl (fun K hK => ?step42) ?more42
                                  case step42 =>
                                    go_simp
                                    refine hK _ _ ?_
                                    clear hK K
                                    refine wpAnyIn_take (i := 13) (v := (.bool N3)) rfl rfl (by kernel_rfl) (by kernel_rfl) (by kernel_rfl) (fun _ _ _ h => h) ⟨Or.inl ⟨by rfl, ?hy43⟩, fun _ => rfl⟩ ?rest43
                                    case hy43 => intro w_; go_simp
                                    case rest43 =>
                                      refine wpAnyIn_done (by kernel_rfl) ?_ _
                                      obtain ⟨W2, hW2⟩ : ∃ W2, (W1.setCell ⟨w.heap.size, 0, none⟩ (.slice a5 n5 c5)).setCell ⟨w.heap.size + 1, j, none⟩ (.slice a6 n6 c6) = W2 := ⟨_, rfl⟩
                                      rw [hW2]
                                      have bo2 : Boxed W2 (w.heap.size + 1 + 1 + 1) 4 (.bool fl) := by
                                        rw [← hW2]
                                        exact (Below.heap_setCell _ _ _ _ (by show w.heap.size + 1 + 1 + 1 ≠ w.heap.size + 1; omega)).trans ((Below.heap_setCell _ _ _ _ (by show w.heap.size + 1 + 1 + 1 ≠ w.heap.size; omega)).trans BO1.out)
                                      have k6 := bo2.cell
                                      have k7 := bo2.frozen
                                      have HW2 := Lib.hid hW2
                                      clear hW2 bo2 k1 k2 k3 k4 k5 hg1 hg2 cd0 cr0 co0
                                      cases fl
                                      all_goals
                                        gi_wp2
                                        have hW2 := HW2.out
                                        subst hW2
                                        have E := fun q : Bool => back_end (j := j) (S := W0.heap.size) (n₀ := w.heap.size) (B1 := w.heap.size + 4) (B2 := gs) (Bd := w.heap.size) (g := w.heap.size + 1) (Bo := w.heap.size + 1 + 1 + 1) (.slice a5 n5 c5) (.slice a6 n6 c6) (.bool q) HB1.out hsW (Nat.le_refl _) (by omega) (by omega) (by omega) (by omega) ⟨by omega, by omega, by omega⟩ ⟨by omega, by omega, by omega⟩
                                        have hnx := HNX.out
                                        simp only [Bool.false_or, Bool.true_or] at hnx
                                        refine ⟨(E _).1, (E _).2, back_inv (W := W) hnx hN1l hjn BD1.out BR1.out BO1.out HR.out HR'.out GA1.out hH1 hH2 HB1.out HBW.out hsW ⟨by omega, by omega⟩ ⟨Nat.le_refl _, by omega⟩ ⟨by omega, by omega⟩ (by omega) (by omega) (by omega) (by omega) (by omega) (by omega)⟩
                                  case more42 =>
                                    exact AllReadyIn.nil
                            case more39 =>
                              exact AllReadyIn.nil
                          case more38 =>
                            exact AllReadyIn.nil
              case more27 =>
                exact AllReadyIn.nil
          case more15 =>
            exact AllReadyIn.nil
  case done =>
    rintro D zs W hD hS ⟨⟨⟨d, bd, hdd⟩, br, bo, ⟨H, hH1, hH2, hga⟩, hsl⟩, hB⟩ hK
    have hz := foldB_came m xs ds n hlen zs hS
    rw [hz] at bo hga
    have c6 := br.cell
    obtain ⟨q, hq⟩ : ∃ q, backKB m xs ds n = q := ⟨_, rfl⟩
    have c7 : W.cell? ⟨w.heap.size + 1 + 1 + 1, 0, none⟩ = some (.bool q) := by
      rw [← hq]
      exact bo.cell
    have HGR := Lib.hid hga
    have HBB := Lib.hid hB
    have HQ := Lib.hid hq
    clear hga hB hdd bd br bo hz hsl hq
    gi_wp2
    gi_quiet (fail)
    gi_wp2
    have hK' : (W.drewN nq).heap[D]? = some (.deferred (some [])) := hK
    have hB' : Below w.heap.size w (W.drewN nq) := HBB.out.trans ⟨rfl, rfl, rfl, Nat.le_refl _, fun _ _ => rfl⟩
    have hga' : GradsAt (w.heap.size + 1) (w.heap.size + 5) H n (W.drewN nq) (gradsN m xs ds) := HGR.out.keep rfl fun _ _ _ _ _ => rfl
    have hga2 := hga'.turned (W' := (W.drewN nq).putObj D (.deferred none)) (row := some D) (grownBy_putObj' _ _ _) hH2 (fun r e => by cases e; exact ⟨_, hK', rfl⟩)
    have hsz : ((W.drewN nq).putObj D (.deferred none)).heap.size = W.heap.size := by simp [World.putObj]
    refine marks_ret1 rfl hK' (results_tmp2 rfl _ _ _) ⟨.slice (some ⟨w.heap.size + 1, 0, none⟩) n n, by rw [HQ.out] <;> rfl, ?_, below_put hB' (by omega) hK' _⟩
    exact (hga2.list (by omega) (by rw [hsz]; exact hH2)).wide (by omega) (Nat.le_refl _) (Nat.le_refl _)
  case stop =>
    rintro D c pre W _ _ h _
    exact h.elim
end Go.Proofs.YtgnjcfbfbpjndaaGreatDoor

end

/-! YtgnjcfbfbpjndaaGreatDoorCur -/
section

namespace Go.Proofs.YtgnjcfbfbpjndaaGreatDoor
open Go.RowKit
set_option linter.unusedVariables false

/-- Where the cursor stands. -/
structure St where
  i : Nat
  h : Int
/-- The cursor in block C, over the code bs. -/
def curCells (a : Option Addr) (n cap : Nat) (s : St) : Array Value := #[.slice a n cap, .int .i64 s.i, .int .i64 s.h]
structure CurAt (B : Nat) (w : World) (C : Nat) (a : Option Addr) (cap : Nat) (bs : List UInt8) (s : St) : Prop where
  cur : w.heap[C]? = some (.cells (curCells a bs.length cap s) 107 (0, 0))
  fit : s.i ≤ bs.length
  room : bs.length ≤ 1048576
  code : ∀ j (hj : j < bs.length), ∃ b o, a = some ⟨b, o, none⟩ ∧ b < B ∧ w.cell? ⟨b, o + j, none⟩ = some (.int .u8 (bs[j].toNat : Int))
  up : B ≤ C

def hStep (h : Int) : Int := wrap64 (wrap64 (h * 6364136223846793005) + 1442695040888963407)
def xOf (h : Int) : Int := bits .and .i64 (bits .xor .i64 (h / 8589934592) (h / 35184372088832)) 255
theorem and255 (y : Int) : 0 ≤ bits .and .i64 y 255 ∧ bits .and .i64 y 255 ≤ 255 := by
  have e : bits .and .i64 y 255 = IntKind.i64.wrap (((BitVec.ofInt 64 y &&& BitVec.ofInt 64 255).toNat : Nat) : Int) := rfl
  have hb : (BitVec.ofInt 64 y &&& BitVec.ofInt 64 255).toNat ≤ 255 := by
    rw [BitVec.toNat_and]
    exact Nat.le_trans Nat.and_le_right (by decide)
  rw [e, IntKind.wrap_i64]
  omega
/-- One byte drawn: the number, and where the cursor stands then. -/
def byteF (bs : List UInt8) (s : St) : Int × St :=
  if s.i < bs.length then (bits .and .i64 (xOf (hStep s.h) + ((bs.getD s.i 0).toNat : Int)) 255, ⟨s.i + 1, hStep s.h⟩) else (xOf (hStep s.h), ⟨s.i, hStep s.h⟩)
theorem byteF_range (bs : List UInt8) (s : St) : 0 ≤ (byteF bs s).1 ∧ (byteF bs s).1 ≤ 255 := by
  unfold byteF
  split
  · exact and255 _
  · exact and255 _

/-- What a drawing call leaves: the cursor's block turned, nothing else that was there. -/
structure Drawn (B : Nat) (w w' : World) (C : Nat) (a : Option Addr) (cap : Nat) (bs : List UInt8) (s : St) : Prop where
  at_ : CurAt B w' C a cap bs s
  grown : w.grownBy w' (some C)

theorem Drawn.refl {B : Nat} {w : World} {C : Nat} {a : Option Addr} {cap : Nat} {bs : List UInt8} {s : St} (h : CurAt B w C a cap bs s) : Drawn B w w C a cap bs s := ⟨h, World.grownBy.refl _ _⟩
theorem grownBy_trans {w w1 w2 : World} {r : Option Nat} (h : w.grownBy w1 r) (k : w1.grownBy w2 r) : w.grownBy w2 r :=
  ⟨k.os.trans h.os, k.tape.trans h.tape, k.output.trans h.output, Nat.le_trans h.size k.size, fun b hb hr => (k.block b (Nat.lt_of_lt_of_le hb h.size) hr).trans (h.block b hb hr)⟩
theorem Drawn.trans {B : Nat} {w w1 w2 : World} {C : Nat} {a : Option Addr} {cap : Nat} {bs : List UInt8} {s s' : St} (h : Drawn B w w1 C a cap bs s) (k : Drawn B w1 w2 C a cap bs s') : Drawn B w w2 C a cap bs s' :=
  ⟨k.at_, grownBy_trans h.grown k.grown⟩
theorem Drawn.below {B : Nat} {w w' : World} {C : Nat} {a : Option Addr} {cap : Nat} {bs : List UInt8} {s : St} (h : Drawn B w w' C a cap bs s) (hB : B ≤ w.heap.size) : Below B w w' :=
  (Below.refl B w).grown h.grown hB (fun k hk => by cases hk; exact h.at_.up)
/-- The cursor stands as it did where its block was not turned. -/
theorem CurAt.keep {B : Nat} {w w' : World} {C : Nat} {a : Option Addr} {cap : Nat} {bs : List UInt8} {s : St} (h : CurAt B w C a cap bs s) (hC : w'.heap[C]? = w.heap[C]?) (hb : ∀ k, k < B → w'.heap[k]? = w.heap[k]?) : CurAt B w' C a cap bs s :=
  ⟨hC.trans h.cur, h.fit, h.room, fun j hj => by
    obtain ⟨b, o, e1, e2, e3⟩ := h.code j hj
    exact ⟨b, o, e1, e2, (World.cell?_of_block (w := w) (a := ⟨b, o + j, none⟩) (hb b e2)).trans e3⟩, h.up⟩
theorem CurAt.grown {B : Nat} {w w' : World} {C : Nat} {a : Option Addr} {cap : Nat} {bs : List UInt8} {s : St} {row : Option Nat} (h : CurAt B w C a cap bs s) (hg : w.grownBy w' row) (hr : ∀ k, row = some k → B ≤ k ∧ k ≠ C) : CurAt B w' C a cap bs s := by
  have hCl : C < w.heap.size := (Array.getElem?_eq_some_iff.1 h.cur).1
  exact h.keep (hg.block C hCl (fun e => (hr C e.symm).2 rfl)) fun k hk => hg.block k (by have := h.up; omega) (fun e => by have := (hr k e.symm).1; omega)
theorem CurAt.alloc {B : Nat} {w : World} {C : Nat} {a : Option Addr} {cap : Nat} {bs : List UInt8} {s : St} (h : CurAt B w C a cap bs s) (o : Obj) : CurAt B (w.alloc o) C a cap bs s :=
  h.grown (World.grownBy_alloc w o none) (fun k hk => by cases hk)
theorem CurAt.drew {B : Nat} {w : World} {C : Nat} {a : Option Addr} {cap : Nat} {bs : List UInt8} {s : St} (h : CurAt B w C a cap bs s) : CurAt B w.drew C a cap bs s := h.keep rfl fun _ _ => rfl
theorem drawn_set2 {B : Nat} {w : World} {C : Nat} {a : Option Addr} {cap : Nat} {bs : List UInt8} {i : Nat} {h : Int} (hc : CurAt B w C a cap bs ⟨i, h⟩) (h' : Int) (W : World) (hW : W.heap = (w.setCell ⟨C, 2, none⟩ (.int .i64 h')).heap)
    (ho : W.os = w.os) (ht : W.tape = w.tape) (hu : W.output = w.output) : Drawn B w W C a cap bs ⟨i, h'⟩ := by
  have hne : ∀ b, b ≠ C → W.heap[b]? = w.heap[b]? := fun b hb => by
    rw [hW]
    exact heap_setCell_other w ⟨C, 2, none⟩ b _ hb
  refine ⟨⟨?_, hc.fit, hc.room, fun j hj => ?_, hc.up⟩, ⟨ho, ht, hu, by rw [hW]; simp [World.setCell], fun b _ hb => hne b (fun e => hb (by rw [e]))⟩⟩
  · rw [hW, heap_setCell_same w C 2 _ _ _ hc.cur]
    rfl
  · obtain ⟨b, o, e1, e2, e3⟩ := hc.code j hj
    exact ⟨b, o, e1, e2, (World.cell?_of_block (w := w) (a := ⟨b, o + j, none⟩) (hne b (by have := hc.up; omega))).trans e3⟩
theorem drawn_set12 {B : Nat} {w : World} {C : Nat} {a : Option Addr} {cap : Nat} {bs : List UInt8} {i : Nat} {h : Int} (hc : CurAt B w C a cap bs ⟨i, h⟩) (h' : Int) (k : Nat) (hi : i < bs.length) (z : Int) (hz : z = ((i + 1 : Nat) : Int)) (W : World) (hW : W.heap = ((w.setCell ⟨C, 2, none⟩ (.int .i64 h')).setCell ⟨C, 1, none⟩ (.int .i64 z)).heap)
    (ho : W.os = w.os) (ht : W.tape = w.tape) (hu : W.output = w.output) :
    Drawn B w W C a cap bs ⟨i + 1, h'⟩ := by
  have hne : ∀ b, b ≠ C → W.heap[b]? = w.heap[b]? := fun b hb => by
    rw [hW]
    exact (heap_setCell_other _ ⟨C, 1, none⟩ b _ hb).trans (heap_setCell_other w ⟨C, 2, none⟩ b _ hb)
  refine ⟨⟨?_, hi, hc.room, fun j hj => ?_, hc.up⟩, ⟨ho, ht, hu, by rw [hW]; simp [World.setCell], fun b _ hb => hne b (fun e => hb (by rw [e]))⟩⟩
  · rw [hW, heap_setCell_same _ C 1 _ _ _ (heap_setCell_same w C 2 _ _ _ hc.cur), hz]
    rfl
  · obtain ⟨b, o, e1, e2, e3⟩ := hc.code j hj
    exact ⟨b, o, e1, e2, (World.cell?_of_block (w := w) (a := ⟨b, o + j, none⟩) (hne b (by have := hc.up; omega))).trans e3⟩

set_option maxRecDepth 100000 in
theorem l1Byte_past (B : Nat) (w : World) (C : Nat) (a : Option Addr) (cap : Nat) (bs : List UInt8) (s : St) (hc : CurAt B w C a cap bs s) (hi : ¬ s.i < bs.length) :
    Calls Tryz.prog 113 #[.pointer (some ⟨C, 0, none⟩)] w fun e w' => e = .returned (.int .i64 (byteF bs s).1) ∧ Drawn B w w' C a cap bs (byteF bs s).2 := by
  obtain ⟨i, h⟩ := s
  have HC := Lib.hid hc
  have HE : Hid (byteF bs ⟨i, h⟩ = (xOf (hStep h), ⟨i, hStep h⟩)) := Lib.hid (if_neg hi)
  obtain ⟨hcur, hfit, hroom, hcode, hup⟩ := hc
  have hc0 : w.cell? ⟨C, 0, none⟩ = some (.slice a bs.length cap) := by rw [cell_of_row w C 0 _ _ _ hcur]; rfl
  have hc1 : w.cell? ⟨C, 1, none⟩ = some (.int .i64 i) := by rw [cell_of_row w C 1 _ _ _ hcur]; rfl
  have hc2 : w.cell? ⟨C, 2, none⟩ = some (.int .i64 h) := by rw [cell_of_row w C 2 _ _ _ hcur]; rfl
  have hf2 : w.frozen? ⟨C, 2, none⟩ = false := frozen_of_row w C 2 _ _ hcur
  clear hcur hcode
  simp only at hi hfit
  go_enter Tryz.func113, Tryz.ntmps113
  go_wp2
  go_quiet (fail)
  go_wp2
  go_quiet (fail)
  go_wp2
  go_ret
  rw [HE.out]
  exact ⟨rfl, drawn_set2 HC.out (hStep h) _ rfl rfl rfl rfl⟩

set_option maxRecDepth 100000 in
theorem l1Byte_more (B : Nat) (w : World) (C : Nat) (a : Option Addr) (cap : Nat) (bs : List UInt8) (s : St) (hc : CurAt B w C a cap bs s) (hi : s.i < bs.length) :
    Calls Tryz.prog 113 #[.pointer (some ⟨C, 0, none⟩)] w fun e w' => e = .returned (.int .i64 (byteF bs s).1) ∧ Drawn B w w' C a cap bs (byteF bs s).2 := by
  obtain ⟨i, h⟩ := s
  have HC := Lib.hid hc
  have HE : Hid (byteF bs ⟨i, h⟩ = (bits .and .i64 (xOf (hStep h) + ((bs.getD i 0).toNat : Int)) 255, ⟨i + 1, hStep h⟩)) := Lib.hid (if_pos hi)
  obtain ⟨hcur, hfit, hroom, hcode, hup⟩ := hc
  have hc0 : w.cell? ⟨C, 0, none⟩ = some (.slice a bs.length cap) := by rw [cell_of_row w C 0 _ _ _ hcur]; rfl
  have hc1 : w.cell? ⟨C, 1, none⟩ = some (.int .i64 i) := by rw [cell_of_row w C 1 _ _ _ hcur]; rfl
  have hc2 : w.cell? ⟨C, 2, none⟩ = some (.int .i64 h) := by rw [cell_of_row w C 2 _ _ _ hcur]; rfl
  have hf2 : w.frozen? ⟨C, 2, none⟩ = false := frozen_of_row w C 2 _ _ hcur
  have hf1 : w.frozen? ⟨C, 1, none⟩ = false := frozen_of_row w C 1 _ _ hcur
  simp only at hi hfit
  obtain ⟨b, o, rfl, hbB, hcb⟩ := hcode i hi
  have hbC : b ≠ C := by omega
  have hg : bs.getD i 0 = bs[i] := by simp [List.getD, hi]
  rw [hg] at HE
  have hb8 : ((bs[i]'hi).toNat : Int) < 256 := by have := (bs[i]'hi).toNat_lt; omega
  obtain ⟨D, hD⟩ : ∃ D : Int, D = ((bs[i]'hi).toNat : Int) := ⟨_, rfl⟩
  rw [← hD] at hcb HE hb8
  have hD0 : 0 ≤ D := by omega
  obtain ⟨X, hX⟩ : ∃ X, X = xOf (hStep h) := ⟨_, rfl⟩
  have hXr := and255 (bits .xor .i64 (hStep h / 8589934592) (hStep h / 35184372088832))
  have hX0 : 0 ≤ X := by rw [hX]; exact hXr.1
  have hX1 : X ≤ 255 := by rw [hX]; exact hXr.2
  clear hcur hcode hD hg hXr
  have HX := Lib.hid hX
  have hX' : bits .and .i64 (bits .xor .i64 (wrap64 (wrap64 (h * 6364136223846793005) + 1442695040888963407) / 8589934592) (wrap64 (wrap64 (h * 6364136223846793005) + 1442695040888963407) / 35184372088832)) 255 = X := hX.symm
  clear hX
  go_enter Tryz.func113, Tryz.ntmps113
  go_wp2
  go_quiet (fail)
  go_wp2
  go_quiet (fail)
  go_wp2
  go_quiet (fail)
  go_wp2
  go_ret
  rw [HE.out, ← HX.out]
  refine ⟨rfl, drawn_set12 HC.out (hStep h) 0 hi _ rfl _ ?_ rfl rfl rfl⟩
  rfl
theorem l1Byte_any (B : Nat) (w : World) (C : Nat) (a : Option Addr) (cap : Nat) (bs : List UInt8) (s : St) (hc : CurAt B w C a cap bs s) :
    Calls Tryz.prog 113 #[.pointer (some ⟨C, 0, none⟩)] w fun e w' => e = .returned (.int .i64 (byteF bs s).1) ∧ Drawn B w w' C a cap bs (byteF bs s).2 := by
  by_cases hi : s.i < bs.length
  · exact l1Byte_more B w C a cap bs s hc hi
  · exact l1Byte_past B w C a cap bs s hc hi
end Go.Proofs.YtgnjcfbfbpjndaaGreatDoor

end

/-! YtgnjcfbfbpjndaaGreatDoorDraw -/
section

namespace Go.Proofs.YtgnjcfbfbpjndaaGreatDoor
open Go.RowKit
set_option linter.unusedVariables false

theorem and30 (y : Int) : 0 ≤ bits .and .i64 y 1073741823 ∧ bits .and .i64 y 1073741823 ≤ 1073741823 := by
  have e : bits .and .i64 y 1073741823 = IntKind.i64.wrap (((BitVec.ofInt 64 y &&& BitVec.ofInt 64 1073741823).toNat : Nat) : Int) := rfl
  have hb : (BitVec.ofInt 64 y &&& BitVec.ofInt 64 1073741823).toNat ≤ 1073741823 := by
    rw [BitVec.toNat_and]
    exact Nat.le_trans Nat.and_le_right (by decide)
  rw [e, IntKind.wrap_i64]
  omega
/-- The number that the code's first k bytes make. -/
def newH (bs : List UInt8) : Nat → Int
  | 0 => 10101 + bs.length
  | k + 1 => bits .and .i64 (newH bs k * 131 + ((bs.getD k 0).toNat : Int) + 7) 1073741823
theorem newH_range (bs : List UInt8) (h : bs.length ≤ 1048576) (k : Nat) : 0 ≤ newH bs k ∧ newH bs k ≤ 1073741823 := by
  cases k with
  | zero => simp only [newH]; omega
  | succ k => exact and30 _
def newSt (bs : List UInt8) : St := ⟨0, newH bs (min bs.length 4000)⟩

set_option maxRecDepth 100000 in
theorem l1New_any (B : Nat) (w : World) (a : Option Addr) (cap : Nat) (bs : List UInt8) (hB : B ≤ w.heap.size) (hroom : bs.length ≤ 1048576)
    (hcode : ∀ j (hj : j < bs.length), ∃ b o, a = some ⟨b, o, none⟩ ∧ b < B ∧ w.cell? ⟨b, o + j, none⟩ = some (.int .u8 (bs[j].toNat : Int))) :
    Calls Tryz.prog 40 #[.slice a bs.length cap] w fun e w' => e = .returned (.pointer (some ⟨w.heap.size, 0, none⟩)) ∧ CurAt B w' w.heap.size a cap bs (newSt bs) ∧ w.grownBy w' none := by
  go_enter Tryz.func40, Tryz.ntmps40
  go_wp2
  go_loop [3, 4] (fun h i => ∃ (k : Nat) (H : Int), k ≤ bs.length ∧ k ≤ 4000 ∧ 0 ≤ H ∧ H ≤ 1073741823 ∧ Hid (H = newH bs k) ∧ h = .int .i64 H ∧ i = .int .i64 k) (fun _ i => 4000 - (intOf i).toNat)
  case atStart => exact ⟨0, newH bs 0, Nat.zero_le _, Nat.zero_le _, (newH_range bs hroom 0).1, (newH_range bs hroom 0).2, Lib.hid rfl, rfl, rfl⟩
  case round =>
    obtain ⟨k, H, hk, hk4, hH0, hH1, hH, rfl, rfl⟩ := hrel
    by_cases hlt : k < bs.length
    · by_cases hlt4 : k < 4000
      · obtain ⟨b, o, rfl, hbB, hcb⟩ := hcode k hlt
        have hb8 : ((bs[k]'hlt).toNat : Int) < 256 := by have := (bs[k]'hlt).toNat_lt; omega
        obtain ⟨D, hD⟩ : ∃ D : Int, D = ((bs[k]'hlt).toNat : Int) := ⟨_, rfl⟩
        rw [← hD] at hcb hb8
        have hD0 : 0 ≤ D := by omega
        have hg : bs.getD k 0 = bs[k] := by simp [List.getD, hlt]
        have HN : Hid (newH bs (k + 1) = bits .and .i64 (H * 131 + D + 7) 1073741823) := Lib.hid (by rw [newH, hg, hD, hH.out])
        obtain ⟨Z, hZ⟩ : ∃ Z, bits .and .i64 (H * 131 + D + 7) 1073741823 = Z := ⟨_, rfl⟩
        have hZr := and30 (H * 131 + D + 7)
        rw [hZ] at hZr HN
        obtain ⟨hZ0, hZ1⟩ := hZr
        clear hD hg hcode
        go_wp2
        go_round
        case rel => exact ⟨k + 1, Z, by omega, by omega, hZ0, hZ1, Lib.hid HN.out.symm, rfl, by go_num⟩
        case measure => simp [intOf]; omega
      · have hd : decide ((k : Int) < 4000) = false := by simp; omega
        have HN : Hid (newSt bs = ⟨0, H⟩) := Lib.hid (by rw [newSt, hH.out, show min bs.length 4000 = k by omega])
        have HCODE := Lib.hid hcode
        clear hcode
        go_wp2
        go_ret
        rw [HN.out]
        refine ⟨rfl, ⟨?_, Nat.zero_le _, hroom, fun j hj => ?_, hB⟩, World.grownBy_alloc w _ none⟩
        · exact heap_alloc_new w _
        · obtain ⟨b, o, e1, e2, e3⟩ := HCODE.out j hj
          exact ⟨b, o, e1, e2, (World.cell?_of_block (w := w) (a := ⟨b, o + j, none⟩) (Below.heap_alloc w _ b (by omega))).trans e3⟩
    · have hd : decide (k < bs.length) = false := by simpa using hlt
      have HN : Hid (newSt bs = ⟨0, H⟩) := Lib.hid (by rw [newSt, hH.out, show min bs.length 4000 = k by omega])
      have HCODE := Lib.hid hcode
      clear hcode
      go_wp2
      go_ret
      rw [HN.out]
      refine ⟨rfl, ⟨?_, Nat.zero_le _, hroom, fun j hj => ?_, hB⟩, World.grownBy_alloc w _ none⟩
      · exact heap_alloc_new w _
      · obtain ⟨b, o, e1, e2, e3⟩ := HCODE.out j hj
        exact ⟨b, o, e1, e2, (World.cell?_of_block (w := w) (a := ⟨b, o + j, none⟩) (Below.heap_alloc w _ b (by omega))).trans e3⟩

/-- A number below n. -/
def belowF (bs : List UInt8) (s : St) (n : Int) : Int × St :=
  if n ≤ 0 then (0, s) else if n ≤ 256 then ((byteF bs s).1 % n, (byteF bs s).2) else
    (((byteF bs s).1 * 16777216 + (byteF bs (byteF bs s).2).1 * 65536 + (byteF bs (byteF bs (byteF bs s).2).2).1 * 256 + (byteF bs (byteF bs (byteF bs (byteF bs s).2).2).2).1) % n,
      (byteF bs (byteF bs (byteF bs (byteF bs s).2).2).2).2)
theorem belowF_range {bs : List UInt8} {s s' : St} {n x : Int} (h : belowF bs s n = (x, s')) (hn : 0 < n) : 0 ≤ x ∧ x < n := by
  have e : x = (belowF bs s n).1 := by rw [h]
  rw [e, belowF, if_neg (by omega)]
  split
  · exact ⟨Int.emod_nonneg _ (by omega), Int.emod_lt_of_pos _ hn⟩
  · exact ⟨Int.emod_nonneg _ (by omega), Int.emod_lt_of_pos _ hn⟩
theorem belowF_zero {bs : List UInt8} {s s' : St} {n x : Int} (h : belowF bs s n = (x, s')) (hn : n ≤ 0) : x = 0 ∧ s' = s := by
  rw [belowF, if_pos hn] at h
  simp only [Prod.mk.injEq] at h
  exact ⟨h.1.symm, h.2.symm⟩

theorem l1Byte_at (B : Nat) (w : World) (C : Nat) (a : Option Addr) (cap : Nat) (bs : List UInt8) (s s' : St) (x : Int) (hE : byteF bs s = (x, s')) (hc : CurAt B w C a cap bs s) :
    Calls Tryz.prog 113 #[.pointer (some ⟨C, 0, none⟩)] w fun e w' => e = .returned (.int .i64 x) ∧ Drawn B w w' C a cap bs s' := by
  have := l1Byte_any B w C a cap bs s hc
  rw [hE] at this
  exact this
theorem byteF_at {bs : List UInt8} {s s' : St} {x : Int} (h : byteF bs s = (x, s')) : 0 ≤ x ∧ x ≤ 255 := by
  have := byteF_range bs s
  rw [h] at this
  exact this

set_option maxRecDepth 100000 in
theorem l1Below_at (B : Nat) (w : World) (C : Nat) (a : Option Addr) (cap : Nat) (bs : List UInt8) (s s' : St) (n x : Int) (hE : belowF bs s n = (x, s')) (hc : CurAt B w C a cap bs s) :
    Calls Tryz.prog 81 #[.pointer (some ⟨C, 0, none⟩), .int .i64 n] w fun e w' => e = .returned (.int .i64 x) ∧ Drawn B w w' C a cap bs s' := by
  have HC := Lib.hid hc
  clear hc
  by_cases h0 : n ≤ 0
  · obtain ⟨rfl, rfl⟩ := belowF_zero hE h0
    clear hE
    go_enter Tryz.func81, Tryz.ntmps81
    go_wp2_with fail
    go_ret
    exact ⟨rfl, Drawn.refl HC.out⟩
  · by_cases h1 : n ≤ 256
    · rcases hb : byteF bs s with ⟨y, s1⟩
      obtain ⟨hy0, hy1⟩ := byteF_at hb
      have HE : Hid (x = y % n ∧ s' = s1) := Lib.hid (by
        rw [belowF, if_neg h0, if_pos h1, hb] at hE
        simp only [Prod.mk.injEq] at hE
        exact ⟨hE.1.symm, hE.2.symm⟩)
      have HB := Lib.hid hb
      clear hE hb
      go_enter Tryz.func81, Tryz.ntmps81
      go_wp2_with fail
      refine (l1Byte_at B _ C a cap bs s s1 y HB.out HC.out).mono ?_
      rintro e w1 ⟨rfl, hd1⟩
      go_wp2_with fail
      go_ret
      rw [HE.out.1, HE.out.2]
      exact ⟨rfl, hd1⟩
    · rcases hb1 : byteF bs s with ⟨y1, s1⟩
      rcases hb2 : byteF bs s1 with ⟨y2, s2⟩
      rcases hb3 : byteF bs s2 with ⟨y3, s3⟩
      rcases hb4 : byteF bs s3 with ⟨y4, s4⟩
      obtain ⟨hy10, hy11⟩ := byteF_at hb1
      obtain ⟨hy20, hy21⟩ := byteF_at hb2
      obtain ⟨hy30, hy31⟩ := byteF_at hb3
      obtain ⟨hy40, hy41⟩ := byteF_at hb4
      have HE : Hid (x = (y1 * 16777216 + y2 * 65536 + y3 * 256 + y4) % n ∧ s' = s4) := Lib.hid (by
        rw [belowF, if_neg h0, if_neg h1] at hE
        simp only [hb1, hb2, hb3, hb4, Prod.mk.injEq] at hE
        exact ⟨hE.1.symm, hE.2.symm⟩)
      have HB1 := Lib.hid hb1
      have HB2 := Lib.hid hb2
      have HB3 := Lib.hid hb3
      have HB4 := Lib.hid hb4
      clear hE hb1 hb2 hb3 hb4
      go_enter Tryz.func81, Tryz.ntmps81
      go_wp2_with fail
      refine (l1Byte_at B _ C a cap bs s s1 y1 HB1.out HC.out).mono ?_
      rintro e w1 ⟨rfl, hd1⟩
      go_wp2_with fail
      refine (l1Byte_at B _ C a cap bs s1 s2 y2 HB2.out hd1.at_).mono ?_
      rintro e w2 ⟨rfl, hd2⟩
      go_wp2_with fail
      refine (l1Byte_at B _ C a cap bs s2 s3 y3 HB3.out hd2.at_).mono ?_
      rintro e w3 ⟨rfl, hd3⟩
      go_wp2_with fail
      refine (l1Byte_at B _ C a cap bs s3 s4 y4 HB4.out hd3.at_).mono ?_
      rintro e w4 ⟨rfl, hd4⟩
      go_wp2_with fail
      go_ret
      rw [HE.out.1, HE.out.2]
      exact ⟨rfl, ((hd1.trans hd2).trans hd3).trans hd4⟩

set_option maxRecDepth 100000 in
theorem l1Once_at (B : Nat) (w : World) (C : Nat) (a : Option Addr) (cap : Nat) (bs : List UInt8) (s s' : St) (n x : Int) (hE : belowF bs s n = (x, s')) (hc : CurAt B w C a cap bs s) :
    Calls Tryz.prog 140 #[.pointer (some ⟨C, 0, none⟩), .int .i64 n] w fun e w' => e = .returned (.bool (x == 0)) ∧ Drawn B w w' C a cap bs s' := by
  have HC := Lib.hid hc
  have HE := Lib.hid hE
  clear hc hE
  go_enter Tryz.func140, Tryz.ntmps140
  go_wp2_with fail
  refine (l1Below_at B _ C a cap bs s s' n x HE.out HC.out).mono ?_
  rintro e w1 ⟨rfl, hd1⟩
  go_wp2_with fail
  go_ret
  exact ⟨rfl, hd1⟩

/-- The numbers at limits. -/
def numTab : List Int := [-1, 0, 127, 128, 255, 256, 16383, 16384, 65535, 65536, 562949953421311, 562949953421312, 999999999, 1000000000, -999999999, 9223372036854775807, -9223372036854775808]
set_option maxRecDepth 100000 in
theorem l1PickInt_at (B : Nat) (w : World) (C : Nat) (a : Option Addr) (cap : Nat) (bs : List UInt8) (s s' : St) (x : Int) (L m : Nat) (zs : List Int) (hm : zs.length = m) (hm0 : 0 < m) (hm1 : m ≤ 1000)
    (hE : belowF bs s m = (x, s')) (hc : CurAt B w C a cap bs s) (hLC : L ≠ C) (hz : ∀ j, j < m → w.cell? ⟨L, j, none⟩ = some (.int .i64 (zs.getD j 0))) :
    Calls Tryz.prog 114 #[.pointer (some ⟨C, 0, none⟩), .slice (some ⟨L, 0, none⟩) m m] w fun e w' => e = .returned (.int .i64 (zs.getD x.toNat 0)) ∧ Drawn B w w' C a cap bs s' := by
  have hr := belowF_range hE (by omega)
  obtain ⟨hr0, hr1⟩ := hr
  obtain ⟨k, hk⟩ : ∃ k : Nat, x = k := ⟨x.toNat, by omega⟩
  subst hk
  have hk1 : k < m := by omega
  have HC := Lib.hid hc
  have HE := Lib.hid hE
  have HZ := Lib.hid (hz k hk1)
  have HM := Lib.hid hm
  have hLl : L < w.heap.size := World.block_lt_of_cell? w _ (hz k hk1)
  clear hc hE hz hm
  go_enter Tryz.func114, Tryz.ntmps114
  go_wp2_with fail
  refine (l1Below_at B _ C a cap bs s s' m k HE.out HC.out).mono ?_
  rintro e w1 ⟨rfl, hd1⟩
  have hcl := hd1.grown.cell HZ.out (fun e => hLC (Option.some.inj e))
  obtain ⟨Y, hY⟩ : ∃ Y, Y = zs.getD k 0 := ⟨_, rfl⟩
  rw [← hY] at hcl
  have HY := Lib.hid hY
  clear hY
  go_wp2_with fail
  go_ret
  exact ⟨by rw [Int.toNat_natCast, ← HY.out]; rfl, hd1⟩
end Go.Proofs.YtgnjcfbfbpjndaaGreatDoor

end
