import Derived.OrdersIn
import Derived.TacticsIn
import Derived.RangeFuncCalls
import Derived.Test.YtpnifgpmleaohaaGreatDoorJoin24
import Derived.Sort.CutIn
/-! YtpnifgpmleaohaaGreatDoorZRoundM -/
section

namespace Go.Proofs.YtpnifgpmleaohaaGreatDoor
open Go.RowKit
set_option linter.unusedVariables false

theorem uponIn_round' {F : Fence} {l n : Nat} {P : Program} {o : Oper} {a : Act} {K : Act → World → Prop} {Q : Exit → Act → World → Prop} (r : Result Next) (h : o.uponIn F n P a K Q r) : o.uponIn (F.inRound l) n P a K Q r := by
  cases r with
  | ok v w => cases v <;> exact h
  | halt h' w => cases h' <;> exact h
def notDefer (o : Oper) : Bool := match o.op with | .defer _ => false | _ => true
theorem wpAnyIn_round {F : Fence} {l n : Nat} {P : Program} {md : Region.Mode} {ops : Array Oper} {Q : Exit → Act → World → Prop} (hro : F.round = none) (hd : ∀ (i : Nat) (o : Oper), ops[i]? = some o → ∀ c, o.op ≠ .defer c) :
    ∀ (fuel : Nat) (listed : Array Bool) (a : Act) (w : World), wpAnyIn F n P md ops Q fuel listed a w → wpAnyIn (F.inRound l) n P md ops Q fuel listed a w
  | 0, listed, a, w, h => h
  | fuel + 1, listed, a, w, h => by
    refine ⟨h.1, fun i hi => ?_⟩
    have h1 := h.2 i hi
    have ih := wpAnyIn_round (l := l) (n := n) (P := P) (md := md) (Q := Q) hro hd fuel (listed.setIfInBounds i true)
    unfold wpOpIn at h1 ⊢
    cases ho : ops[i]? with
    | none =>
      rw [ho] at h1
      exact ih _ _ h1
    | some o =>
      rw [ho] at h1
      simp only at h1 ⊢
      split at h1
      · rename_i hw
        rw [if_pos hw]
        have h2 := Oper.wpIn_mono (F := F) (n := n) (P := P) (Q := Q) ih h1
        unfold Oper.wpIn at h2 ⊢
        rw [Oper.semAt_eq _ _ _ (hd i o ho)] at h2 ⊢
        exact ⟨h2.1, uponIn_round' _ h2.2⟩
      · rename_i hw
        rw [if_neg hw]
        exact ⟨h1.1, ih _ _ h1.2⟩
/-- The same, the region's text looked at by reckoning. -/
theorem wpAnyIn_round' {F : Fence} {l n : Nat} {P : Program} {md : Region.Mode} {ops : Array Oper} {Q : Exit → Act → World → Prop} (hro : F.round = none) (hd : ops.all notDefer = true) (fuel : Nat) (listed : Array Bool) (a : Act) (w : World) (h : wpAnyIn F n P md ops Q fuel listed a w) : wpAnyIn (F.inRound l) n P md ops Q fuel listed a w :=
  wpAnyIn_round hro (fun i o ho c hc => by
    have hi := (Array.getElem?_eq_some_iff.1 ho)
    obtain ⟨hlt, he⟩ := hi
    have h1 := Array.all_eq_true.1 hd i hlt
    rw [he] at h1
    unfold notDefer at h1
    rw [hc] at h1
    simp at h1) fuel listed a w h
end Go.Proofs.YtpnifgpmleaohaaGreatDoor

end

/-! YtpnifgpmleaohaaGreatDoorZSeqY -/
section

namespace Go.Proofs.YtpnifgpmleaohaaGreatDoor
open Go.RowKit Go.Shelf
set_option linter.unusedVariables false
attribute [local go_sem] Oper.semAt_some

/-- A step back at a place, counted from the end. -/
def stepN (m : List dOp) (xs : List Int) (n : Nat) (s : List Int × Bool × List dRow) (t : Nat) : List Int × Bool × List dRow :=
  (bwOp (opAt m (n - 1 - t)) (inK m xs (n - 1 - t)) s.1, s.2.1 || bwOpB (opAt m (n - 1 - t)) (inK m xs (n - 1 - t)) s.1, s.2.2.set (n - 1 - t) (bwOpG (opAt m (n - 1 - t)) (inK m xs (n - 1 - t)) s.1))
def startB (ds : List Int) (n : Nat) : List Int × Bool × List dRow := (ds, false, listK (fun _ => ([] : List Int)) n)
def foldB (m : List dOp) (xs ds : List Int) (n : Nat) (pre : List (Fin n)) : List Int × Bool × List dRow := (pre.map fun x => x.1).foldl (stepN m xs n) (startB ds n)
theorem foldB_snoc (m : List dOp) (xs ds : List Int) (n : Nat) (pre : List (Fin n)) (x : Fin n) : foldB m xs ds n (pre ++ [x]) = stepN m xs n (foldB m xs ds n pre) x.1 := by
  unfold foldB
  rw [List.map_append, List.foldl_append]
  rfl
theorem foldB_end (m : List dOp) (xs ds : List Int) (n : Nat) (hn : m.length = n) : ∀ k, k ≤ n → (List.range k).foldl (stepN m xs n) (startB ds n) = (backK m xs ds k, backKB m xs ds k, listK (fun j => if j < n - k then [] else gradAt m xs ds j) n)
  | 0, _ => by
    show (ds, false, listK (fun _ => ([] : List Int)) n) = (ds, false, _)
    have e : listK (fun _ => ([] : List Int)) n = listK (fun j => if j < n - 0 then [] else gradAt m xs ds j) n := listK_congr fun j hj => (if_pos (by omega)).symm
    rw [← e]
  | k + 1, hk => by
    rw [List.range_succ, List.foldl_append, foldB_end m xs ds n hn k (by omega)]
    show stepN m xs n _ k = _
    unfold stepN
    have e1 : bwOp (opAt m (n - 1 - k)) (inK m xs (n - 1 - k)) (backK m xs ds k) = backK m xs ds (k + 1) := by
      show _ = bwOp (opAt m (m.length - 1 - k)) (inK m xs (m.length - 1 - k)) (backK m xs ds k)
      rw [hn]
    have e2 : (backKB m xs ds k || bwOpB (opAt m (n - 1 - k)) (inK m xs (n - 1 - k)) (backK m xs ds k)) = backKB m xs ds (k + 1) := by
      show _ = (backKB m xs ds k || bwOpB (opAt m (m.length - 1 - k)) (inK m xs (m.length - 1 - k)) (backK m xs ds k))
      rw [hn]
    have e3 : (listK (fun j => if j < n - k then [] else gradAt m xs ds j) n).set (n - 1 - k) (bwOpG (opAt m (n - 1 - k)) (inK m xs (n - 1 - k)) (backK m xs ds k)) = listK (fun j => if j < n - (k + 1) then [] else gradAt m xs ds j) n := by
      rw [listK_set _ _ _ _ (by omega)]
      refine listK_congr fun i hi => ?_
      by_cases h1 : i = n - 1 - k
      · subst h1
        rw [if_pos rfl, if_neg (by omega)]
        unfold gradAt
        rw [hn, show n - 1 - (n - 1 - k) = k by omega]
      · rw [if_neg h1]
        by_cases h2 : i < n - k
        · rw [if_pos h2, if_pos (by omega)]
        · rw [if_neg h2, if_neg (by omega)]
    simp only [e1, e2, e3]
theorem foldB_came (m : List dOp) (xs ds : List Int) (n : Nat) (hn : m.length = n) (ys : List (Fin n)) (h : CameK ys n) : foldB m xs ds n ys = (backK m xs ds n, backKB m xs ds n, gradsN m xs ds) := by
  unfold foldB
  rw [show ys.map (fun x => x.1) = List.range n from h, foldB_end m xs ds n hn n (Nat.le_refl _)]
  have e : listK (fun j => if j < n - n then [] else gradAt m xs ds j) n = gradsN m xs ds := by
    unfold gradsN
    rw [hn]
    exact listK_congr fun j hj => if_neg (by omega)
  rw [e]
/-- What lies between two rounds of goBack. -/
def BackInv (m : List dOp) (xs ds : List Int) (n g L Bd Br Bo : Nat) (d0 : Value) (n0 : Nat) (w0 : World) (pre : List (Fin n)) (W : World) : Prop :=
  ((∃ d, Boxed W Bd 28 d ∧ ((pre = [] ∧ d = d0) ∨ Row L W d (foldB m xs ds n pre).1)) ∧ Boxed W Br 27 (.slice (some ⟨g, 0, none⟩) n n) ∧ Boxed W Bo 4 (.bool (foldB m xs ds n pre).2.1) ∧
    (∃ H, L ≤ H ∧ H ≤ W.heap.size ∧ GradsAt g L H n W (foldB m xs ds n pre).2.2) ∧ (foldB m xs ds n pre).1.length ≤ 1048576) ∧ Below n0 w0 W
theorem backInv_own (m : List dOp) (xs ds : List Int) (n g L Bd Br Bo : Nat) (d0 : Value) (n0 : Nat) (w0 : World) (S : Nat) (h : n0 ≤ w0.heap.size) (hS : n0 ≤ S) : OwnFrom S (BackInv m xs ds n g L Bd Br Bo d0 n0 w0) := by
  refine OwnFrom.and (Own.from (fun s A B row hs hg hr => ?_) S) (ownFrom_below h hS)
  obtain ⟨⟨d, q1, q2⟩, q3, q4, ⟨H, q5, q6, q7⟩, q8⟩ := hs
  have kb : ∀ (b : Nat) (t : TypeId) (v : Value), Boxed A b t v → Boxed B b t v := fun b t v hb => boxed_own b t (fun _ : Unit => v) () A B row hb hg hr
  refine ⟨⟨d, kb _ _ _ q1, ?_⟩, kb _ _ _ q3, kb _ _ _ q4, ⟨H, q5, Nat.le_trans q6 hg.size, q7.turned hg q6 hr⟩, q8⟩
  rcases q2 with q2 | q2
  · exact .inl q2
  · refine .inr (q2.kept hg ?_)
    cases hd : d.ownBlock with
    | none => exact .inl rfl
    | some k =>
      refine .inr fun e => ?_
      obtain ⟨o, h1, h2⟩ := hr k e.symm
      obtain ⟨-, cur, h3⟩ := owns_block q2 k hd
      rw [h3] at h1
      cases h1
      simp [Obj.isCells] at h2
theorem back_end {n₀ S Bd g Bo B1 B2 j : Nat} {W W1 : World} (a b c : Value) (hb : Below W.heap.size W W1) (h0 : n₀ ≤ W.heap.size) (hd : n₀ ≤ Bd) (hg : n₀ ≤ g) (ho : n₀ ≤ Bo) (k1 : B1 < W.heap.size) (k2 : B2 < W.heap.size) (d1 : B1 ≠ Bd ∧ B1 ≠ g ∧ B1 ≠ Bo) (d2 : B2 ≠ Bd ∧ B2 ≠ g ∧ B2 ≠ Bo) :
    KeepsFrom S W (((W1.setCell ⟨Bd, 0, none⟩ a).setCell ⟨g, j, none⟩ b).setCell ⟨Bo, 0, none⟩ c) ∧ KeepB n₀ B1 B2 W (((W1.setCell ⟨Bd, 0, none⟩ a).setCell ⟨g, j, none⟩ b).setCell ⟨Bo, 0, none⟩ c) := by
  have hs := hb.size
  have hold : ∀ k, k < W.heap.size → k ≠ Bd → k ≠ g → k ≠ Bo → (((W1.setCell ⟨Bd, 0, none⟩ a).setCell ⟨g, j, none⟩ b).setCell ⟨Bo, 0, none⟩ c).heap[k]? = W.heap[k]? := fun k hk e1 e2 e3 => by
    rw [Below.heap_setCell _ _ _ _ e3, Below.heap_setCell _ _ _ _ e2, Below.heap_setCell _ _ _ _ e1]
    exact hb.block k hk
  refine ⟨?_, (((hb.mono h0).setCell (p := ⟨Bd, 0, none⟩) hd a).setCell (p := ⟨g, j, none⟩) hg b).setCell (p := ⟨Bo, 0, none⟩) ho c, hold B1 k1 d1.1 d1.2.1 d1.2.2, hold B2 k2 d2.1 d2.2.1 d2.2.2⟩
  have a1 : KeepsOthers W1 (((W1.setCell ⟨Bd, 0, none⟩ a).setCell ⟨g, j, none⟩ b).setCell ⟨Bo, 0, none⟩ c) := ((KeepsOthers.setCell _ _ _).trans (KeepsOthers.setCell _ _ _)).trans (KeepsOthers.setCell _ _ _)
  exact ⟨Nat.le_trans hs a1.size, fun k o' _ hk ho => a1.same k o' ((hb.block k (Array.getElem?_eq_some_iff.1 hk).1).trans hk) ho⟩
theorem back_inv {m : List dOp} {xs ds : List Int} {n g L Bd Br Bo j n0 H : Nat} {d0 : Value} {w0 W W1 : World} {pre : List (Fin n)} {vd : Value} {a5 a6 : Option Addr} {n5 c5 n6 c6 : Nat} {N1 N2 : List Int} {rows : List dRow} {q fl : Bool}
    (hnx : foldB m xs ds n pre = (N1, q, rows.set j N2)) (hN1 : N1.length ≤ 6) (hj : j < n) (hBd : Boxed W1 Bd 28 vd) (hBr : Boxed W1 Br 27 (.slice (some ⟨g, 0, none⟩) n n)) (hBo : Boxed W1 Bo 4 (.bool fl))
    (hr : Row W.heap.size W1 (.slice a5 n5 c5) N1) (hr' : Row W.heap.size W1 (.slice a6 n6 c6) N2) (hga : GradsAt g L H n W1 rows) (hL : L ≤ H) (hH : H ≤ W.heap.size) (hb : Below W.heap.size W W1) (h0 : Below n0 w0 W) (hn : n0 ≤ W.heap.size)
    (hg : n0 ≤ g ∧ g < L) (hd : n0 ≤ Bd ∧ Bd < L) (ho : n0 ≤ Bo ∧ Bo < L) (e1 : Bd ≠ g) (e2 : Bd ≠ Br) (e3 : Bd ≠ Bo) (e4 : g ≠ Br) (e5 : g ≠ Bo) (e6 : Br ≠ Bo) :
    BackInv m xs ds n g L Bd Br Bo d0 n0 w0 pre (((W1.setCell ⟨Bd, 0, none⟩ (.slice a5 n5 c5)).setCell ⟨g, j, none⟩ (.slice a6 n6 c6)).setCell ⟨Bo, 0, none⟩ (.bool q)) := by
  have hs := hb.size
  have hset : ∀ (A B : Nat) (i : Nat) (t : TypeId) (v u : Value) (X : World), Boxed X A t v → A ≠ B → Boxed (X.setCell ⟨B, i, none⟩ u) A t v := fun A B i t v u X h hne => (Below.heap_setCell _ _ _ _ hne).trans h
  have hro : ownRow.owns (FromB W.heap.size W1.heap.size) (W1.setCell ⟨Bd, 0, none⟩ (.slice a5 n5 c5)) [.slice a6 n6 c6] N2 := by
    have := Row.ownRow (hr'.setBelow (a := ⟨Bd, 0, none⟩) (by show Bd < W.heap.size; omega) (.slice a5 n5 c5))
    simpa using this
  have hg1 := (hga.other (b := Bd) (i := 0) (.slice a5 n5 c5) e1 hd.2).set hj hro (fun b o f => ⟨by have := f.1; omega, f.2⟩) hL (by omega) hg.2
  refine ⟨⟨⟨.slice a5 n5 c5, ?_, .inr ?_⟩, ?_, ?_, ⟨W1.heap.size, by omega, by simp, ?_⟩, ?_⟩, ?_⟩
  · exact hset Bd Bo 0 _ _ _ _ (hset Bd g j _ _ _ _ (hBd.set _) e1) e3
  · rw [hnx]
    exact (((hr.setBelow (a := ⟨Bd, 0, none⟩) (by show Bd < W.heap.size; omega) _).setBelow (a := ⟨g, j, none⟩) (by show g < W.heap.size; omega) _).setBelow (a := ⟨Bo, 0, none⟩) (by show Bo < W.heap.size; omega) _).le (by omega)
  · exact hset Br Bo 0 _ _ _ _ (hset Br g j _ _ _ _ (hset Br Bd 0 _ _ _ _ hBr (Ne.symm e2)) (Ne.symm e4)) e6
  · rw [hnx]
    exact (hset Bo g j _ _ _ _ (hset Bo Bd 0 _ _ _ _ hBo (Ne.symm e3)) (Ne.symm e5)).set _
  · rw [hnx]
    exact hg1.other (b := Bo) (i := 0) (.bool q) (Ne.symm e5) ho.2
  · rw [hnx]
    show N1.length ≤ 1048576
    omega
  · exact (((h0.trans (hb.mono hn)).setCell (p := ⟨Bd, 0, none⟩) hd.1 _).setCell (p := ⟨g, j, none⟩) hg.1 _).setCell (p := ⟨Bo, 0, none⟩) ho.1 _
set_option maxRecDepth 100000 in
set_option maxHeartbeats 3000000 in
theorem implGoBack_any (w : World) (m : List dOp) (n : Nat) (hlen : m.length = n) (hn1 : 1 ≤ n) (hn8 : n ≤ 8) (gs : Nat) (cs : Nat) (us : List Value) (lo0 BI : Nat) (ai : Option Addr) (ni ci : Nat) (xs : List Int)
    (hown : w.ownsRow lo0 186 1 (.slice (some ⟨gs, 0, none⟩) n cs) n us) (hI : w.heap[BI]? = some (.cells #[.slice ai ni ci] 27 (0, 0)))
    (hst : ∀ j x, m[j]? = some x → ∃ u, us[j]? = some u ∧ StepAt w.heap.size 0 w BI x j u) (is : List dRow) (hi : ListAt shRow (Under w.heap.size) w ai ni is) (hin : ∀ j, j < n → is[j]? = some (inK m xs j)) (hsm : xs.length ≤ 6)
    (ad : Option Addr) (nd cd : Nat) (ds : List Int) (hd : IntsIn w.heap.size w ad nd ds) (hg : LaidE w) :
    Calls Tryz.prog 85 #[.slice (some ⟨gs, 0, none⟩) n cs, .slice ad nd cd] w fun e w' => ∃ d v, e = .returned (.tuple #[d, v, .bool (backKB m xs ds n)]) ∧ Row w.heap.size w' d (backK m xs ds n) ∧ ListL ownRow 56 w.heap.size w'.heap.size w' v (gradsN m xs ds) ∧ Below w.heap.size w w' := by
  refine (callsIn_wide (n := 6)).1 ?_
  have hmk := run_make_many (P := Tryz.prog) 27 56 _ 1 24 Tryz.underlying27 infoRow1 n (by omega) (by omega)
  refine callsIn_of_wp_marks Tryz.func85 rfl trivial ?_ rfl
  simp only [Tryz.ntmps85, List.size_toArray, List.length_cons, List.length_nil, Nat.reduceAdd, Nat.reduceSub, Array.replicate_succ, Array.replicate_zero, List.push_toArray, List.append_toArray, List.nil_append, List.cons_append]
  have hlt := hg.lt
  have hA1 := (Below.refl w.heap.size w).alloc (Nat.le_refl _) (.cells #[.slice ad nd cd] 28 (0, 0))
  have hA2 := hA1.alloc (by simp) (.cells (madeCells #[.slice none 0 0] n) 56 (0, 0))
  have hA4 := (hA2.alloc (by simp; omega) (.cells #[.slice (some ⟨w.heap.size + 1, 0, none⟩) n n] 27 (0, 0))).alloc (by simp; omega) (.cells #[.bool false] 4 (0, 0))
  have hbd : Boxed ((((w.alloc (.cells #[.slice ad nd cd] 28 (0, 0))).alloc (.cells (madeCells #[.slice none 0 0] n) 56 (0, 0))).alloc (.cells #[.slice (some ⟨w.heap.size + 1, 0, none⟩) n n] 27 (0, 0))).alloc (.cells #[.bool false] 4 (0, 0))) w.heap.size 28 (.slice ad nd cd) := (((Boxed.new w 28 _).alloc _).alloc _).alloc _
  have hga : GradsAt (w.heap.size + 1) (w.heap.size + 5) (w.heap.size + 5) n ((((w.alloc (.cells #[.slice ad nd cd] 28 (0, 0))).alloc (.cells (madeCells #[.slice none 0 0] n) 56 (0, 0))).alloc (.cells #[.slice (some ⟨w.heap.size + 1, 0, none⟩) n n] 27 (0, 0))).alloc (.cells #[.bool false] 4 (0, 0))) (listK (fun _ => ([] : List Int)) n) := by
    have h1 := GradsAt.made (w.alloc (.cells #[.slice ad nd cd] 28 (0, 0))) n (w.heap.size + 5) (w.heap.size + 5) (by omega)
    rw [World.size_alloc] at h1
    obtain ⟨us', G, q0, q1, q2, q3, q4⟩ := h1
    have h2 : ((((w.alloc (.cells #[.slice ad nd cd] 28 (0, 0))).alloc (.cells (madeCells #[.slice none 0 0] n) 56 (0, 0))).alloc (.cells #[.slice (some ⟨w.heap.size + 1, 0, none⟩) n n] 27 (0, 0))).alloc (.cells #[.bool false] 4 (0, 0))).heap[w.heap.size + 1]? = ((w.alloc (.cells #[.slice ad nd cd] 28 (0, 0))).alloc (.cells (madeCells #[.slice none 0 0] n) 56 (0, 0))).heap[w.heap.size + 1]? := by
      rw [Below.heap_alloc _ _ _ (by simp), Below.heap_alloc _ _ _ (by simp)]
    exact GradsAt.keep ⟨us', G, q0, q1, q2, q3, q4⟩ h2 fun b o h1 h2 => absurd h2 (by omega)
  have hbr : Boxed ((((w.alloc (.cells #[.slice ad nd cd] 28 (0, 0))).alloc (.cells (madeCells #[.slice none 0 0] n) 56 (0, 0))).alloc (.cells #[.slice (some ⟨w.heap.size + 1, 0, none⟩) n n] 27 (0, 0))).alloc (.cells #[.bool false] 4 (0, 0))) (w.heap.size + 1 + 1) 27 (.slice (some ⟨w.heap.size + 1, 0, none⟩) n n) := by
    have := (Boxed.new ((w.alloc (.cells #[.slice ad nd cd] 28 (0, 0))).alloc (.cells (madeCells #[.slice none 0 0] n) 56 (0, 0))) 27 (.slice (some ⟨w.heap.size + 1, 0, none⟩) n n)).alloc (.cells #[.bool false] 4 (0, 0))
    rwa [World.size_alloc, World.size_alloc] at this
  have hbo : Boxed ((((w.alloc (.cells #[.slice ad nd cd] 28 (0, 0))).alloc (.cells (madeCells #[.slice none 0 0] n) 56 (0, 0))).alloc (.cells #[.slice (some ⟨w.heap.size + 1, 0, none⟩) n n] 27 (0, 0))).alloc (.cells #[.bool false] 4 (0, 0))) (w.heap.size + 1 + 1 + 1) 4 (.bool false) := by
    have := Boxed.new (((w.alloc (.cells #[.slice ad nd cd] 28 (0, 0))).alloc (.cells (madeCells #[.slice none 0 0] n) 56 (0, 0))).alloc (.cells #[.slice (some ⟨w.heap.size + 1, 0, none⟩) n n] 27 (0, 0))) 4 (.bool false)
    rwa [World.size_alloc, World.size_alloc, World.size_alloc] at this
  have hs4 : ((((w.alloc (.cells #[.slice ad nd cd] 28 (0, 0))).alloc (.cells (madeCells #[.slice none 0 0] n) 56 (0, 0))).alloc (.cells #[.slice (some ⟨w.heap.size + 1, 0, none⟩) n n] 27 (0, 0))).alloc (.cells #[.bool false] 4 (0, 0))).heap.size = w.heap.size + 4 := by simp
  have HOWN := Lib.hid hown
  have HI := Lib.hid hI
  have HST := Lib.hid hst
  have HIS := Lib.hid hi
  have HIN := Lib.hid hin
  have HD := Lib.hid hd
  have HG := Lib.hid hg
  have hnd := hd.room
  have hdl := hd.len
  clear hown hI hst hi hin hd hg hA1 hA2
  gi_wp2
  generalize (((w.alloc (.cells #[.slice ad nd cd] 28 (0, 0))).alloc (.cells (madeCells #[.slice none 0 0] n) 56 (0, 0))).alloc (.cells #[.slice (some ⟨w.heap.size + 1, 0, none⟩) n n] 27 (0, 0))).alloc (.cells #[.bool false] 4 (0, 0)) = wa at hA4 hbd hga hbr hbo hs4 ⊢
  refine ⟨trivial, ?_⟩
  refine (backward_in _ _ _ _ _).mono ?_
  rintro e w' ⟨rfl, rfl⟩
  have hb1 := (Below.refl wa.heap.size wa).alloc (Nat.le_refl _) (.cells #[.slice (some ⟨gs, 0, none⟩) n cs] 125 (0, 0))
  have hbs := Boxed.new wa 125 (.slice (some ⟨gs, 0, none⟩) n cs)
  have hs5 : (wa.alloc (.cells #[.slice (some ⟨gs, 0, none⟩) n cs] 125 (0, 0))).heap.size = w.heap.size + 5 := by simp; omega
  rw [hs4] at hbs
  have HA := Lib.hid (hA4.trans (hb1.mono (by omega)))
  have HBD := Lib.hid (hbd.alloc (.cells #[.slice (some ⟨gs, 0, none⟩) n cs] 125 (0, 0)))
  have HBR := Lib.hid (hbr.alloc (.cells #[.slice (some ⟨gs, 0, none⟩) n cs] 125 (0, 0)))
  have HBO := Lib.hid (hbo.alloc (.cells #[.slice (some ⟨gs, 0, none⟩) n cs] 125 (0, 0)))
  have HGA := Lib.hid (hga.keep (hb1.block _ (by omega)) fun b o h1 h2 => absurd h2 (by omega))
  have HBS := Lib.hid hbs
  clear hA4 hbd hga hbr hbo hb1 hbs
  gi_wp2
  generalize wa.alloc (.cells #[.slice (some ⟨gs, 0, none⟩) n cs] 125 (0, 0)) = W0 at hs5 HA HBD HBR HBO HGA HBS ⊢
  have hgsl : gs < w.heap.size := (World.ownsRow.lt HOWN.out gs rfl).2
  have hul : us.length = n := by have := HOWN.out.1; simpa using this
  have hcl : ∀ i, i < n → W0.cell? ⟨gs, i, none⟩ = some (us.getD i .nilFunc) := fun i hi' => by
    rw [World.cell?_of_block (a := ⟨gs, i, none⟩) (HA.out.block gs hgsl), World.ownsRow.cellAt HOWN.out i (by omega), List.getD_eq_getElem?_getD, List.getElem?_eq_getElem (by omega)]
    rfl
  have HCL := Lib.hid hcl
  have hI0 : BackInv m xs ds n (w.heap.size + 1) (w.heap.size + 5) w.heap.size (w.heap.size + 1 + 1) (w.heap.size + 1 + 1 + 1) (.slice ad nd cd) w.heap.size w [] W0 :=
    ⟨⟨⟨_, HBD.out, .inl ⟨rfl, rfl⟩⟩, HBR.out, HBO.out, ⟨w.heap.size + 5, Nat.le_refl _, by omega, HGA.out⟩, by show ds.length ≤ _; omega⟩, HA.out⟩
  clear hcl
  refine wpIn_rangeFunc_ownG rfl (by omega) (gf := 203) (lb := #[.pointer (some ⟨w.heap.size + 4, 0, none⟩)]) rfl trivial (enters_of Tryz.func203 (by kernel_rfl) rfl)
    (back_stops _ (by omega) (w.heap.size + 4) gs n cs us hn1 hn8 (KeepB w.heap.size (w.heap.size + 4) gs) (fun X Y h => h.2) W0 _ HBS.out (by omega) HCL.out)
    keepB_t (keepB_b (by omega) (by omega) (by omega)) (Below.refl _ _) (fun _ => rfl)
    (BackInv m xs ds n (w.heap.size + 1) (w.heap.size + 5) w.heap.size (w.heap.size + 1 + 1) (w.heap.size + 1 + 1 + 1) (.slice ad nd cd) w.heap.size w)
    (fun _ _ _ => False)
    (backInv_own m xs ds n (w.heap.size + 1) (w.heap.size + 5) w.heap.size (w.heap.size + 1 + 1) (w.heap.size + 1 + 1 + 1) (.slice ad nd cd) w.heap.size w W0.heap.size (Nat.le_refl _) (by omega))
    (fun _ _ _ _ _ hs _ _ => hs)
    hI0 ?a1 ?assign ?body ?done ?stop
  case assign =>
    intro l x W K hK
    simp only [stepEnc]
    gi_wp2
    exact hK
  case body =>
    rintro l pre x W ⟨⟨⟨d, bd, hdd⟩, br, bo, ⟨H, hH1, hH2, hga⟩, hsl⟩, hB⟩ hlen'
    obtain ⟨j, hj⟩ : ∃ j, n - 1 - x.1 = j := ⟨_, rfl⟩
    have hjn : j < n := by omega
    obtain ⟨y, hy⟩ : ∃ y, m[j]? = some y := ⟨_, List.getElem?_eq_getElem (by rw [hlen]; exact hjn)⟩
    obtain ⟨u, hu1, bo', bi, ae, ne, ce, rfl, h1, h2, h3, h4, h5, h6, h7⟩ := HST.out j y hy
    have hug : us[j]?.getD .nilFunc = stepV bo' BI bi := by rw [hu1]; rfl
    have hBI := (Array.getElem?_eq_some_iff.1 HI.out).1
    have hsW := hB.size
    obtain ⟨S, hS⟩ : ∃ S, foldB m xs ds n pre = S := ⟨_, rfl⟩
    have hnext := foldB_snoc m xs ds n pre x
    rw [hS] at hnext hdd bo hga hsl
    unfold stepN at hnext
    rw [hj, opAt_get hy] at hnext
    obtain ⟨vd, nd', cd', rfl, hid⟩ : ∃ vd nd' cd', d = .slice vd nd' cd' ∧ IntsIn W.heap.size W vd nd' S.1 := by
      rcases hdd with ⟨rfl, rfl⟩ | hr
      · refine ⟨ad, nd, cd, rfl, ?_⟩
        rw [← hS]
        exact (HD.out.below hB (Nat.le_refl _)).le hsW
      · obtain ⟨a', c', e, hi'⟩ := hr.form
        exact ⟨a', _, c', e, hi' hsl⟩
    have hX6 : (inK m xs j).length ≤ 1048576 := by
      cases j with
      | zero => show xs.length ≤ _; omega
      | succ k => have := fwOp_length (opAt m k) (inK m xs k); show (fwOp (opAt m k) (inK m xs k)).length ≤ _; omega
    have hT := implStep_any W.drew bo' BI bi y.1 y.2.1 y.2.2.1 ae ne ce y.2.2.2 ai ni ci is j (inK m xs j) vd nd' cd' S.1 ((hB.block bo' h1.2).trans h3) ((hB.block BI hBI).trans HI.out) ((hB.block bi h2.2).trans h4) (((h5.below hB (Nat.le_refl _)).le hsW).below (Below.refl W.heap.size W).drew (Nat.le_refl _)) h6 h7 (((HIS.out.below hB (Nat.le_refl _)).le hsW).below (Below.refl W.heap.size W).drew (Nat.le_refl _)) (HIN.out j hjn) hX6 (hid.below (Below.refl W.heap.size W).drew (Nat.le_refl _)) (HG.out.below hlt (hB.trans ⟨rfl, rfl, rfl, Nat.le_refl _, fun _ _ => rfl⟩))
    obtain ⟨N1, hN1'⟩ : ∃ v, bwN y.1 y.2.1 y.2.2.1 y.2.2.2 (inK m xs j) S.1 = v := ⟨_, rfl⟩
    obtain ⟨N2, hN2'⟩ : ∃ v, bwG y.1 y.2.1 y.2.2.1 y.2.2.2 (inK m xs j) S.1 = v := ⟨_, rfl⟩
    obtain ⟨N3, hN3'⟩ : ∃ v, bwB y.1 y.2.1 y.2.2.1 y.2.2.2 (inK m xs j) S.1 = v := ⟨_, rfl⟩
    have hN1l : N1.length ≤ 6 := by rw [← hN1']; exact bwN_length _ _ _ _ _ _
    have hnx : foldB m xs ds n (pre ++ [x]) = (N1, S.2.1 || N3, S.2.2.set j N2) := by rw [hnext, ← hN1', ← hN2', ← hN3']; rfl
    rw [hN1', hN2', hN3'] at hT
    obtain ⟨fl, hfl⟩ : ∃ fl, S.2.1 = fl := ⟨_, rfl⟩
    rw [hfl] at bo hnx
    have HT := Lib.hid hT
    have HNX := Lib.hid hnx
    have BD := Lib.hid bd
    have BR := Lib.hid br
    have BOX := Lib.hid bo
    have GA := Lib.hid hga
    have HBW := Lib.hid hB
    have cd0 := bd.cell
    have cr0 := br.cell
    have co0 := bo.cell
    simp only [hj, hug]
    unfold stepV
    clear hT hnext hnx bd br bo hga hB hid hdd hN1' hN2' hN3' hfl hS hug hu1 h1 h2 h3 h4 h5 h6 h7 hy hX6
    gi_wp2
    refine wpIn_region_any (by kernel_rfl) ?_
    change wpAnyIn _ _ _ _ _ _ _ _ _ (World.drew _)
    refine wpAnyIn_round' rfl (by kernel_rfl) _ _ _ _ ?_
    refine wpAnyIn_take (i := 1) (v := (.int .i64 j)) rfl rfl (by kernel_rfl) (by kernel_rfl) (by kernel_rfl) (fun _ _ _ h => h) ⟨Or.inl ⟨by rfl, ?hy1⟩, fun _ => rfl⟩ ?rest1
    case hy1 => intro w_; go_simp
    case rest1 =>
      refine wpAnyIn_take (i := 2) (v := (.func (.func 158) #[] #[.pointer (some ⟨bo', 0, none⟩), .pointer (some ⟨BI, 0, none⟩), .pointer (some ⟨bi, 0, none⟩)])) rfl rfl (by kernel_rfl) (by kernel_rfl) (by kernel_rfl) (fun _ _ _ h => h) ⟨Or.inl ⟨by rfl, ?hy2⟩, fun _ => rfl⟩ ?rest2
      case hy2 => intro w_; go_simp
      case rest2 =>
        refine wpAnyIn_ready (rs := [0, 3]) (by kernel_rfl) (by simp) ?_
        refine AllReadyIn.cons rfl (fun K hK => ?step3) ?more3
        case step3 =>
          go_simp
          refine hK _ _ ?_
          clear hK K
          refine wpAnyIn_ready (rs := [3]) (by kernel_rfl) (by simp) ?_
          refine AllReadyIn.cons rfl (fun K hK => ?step4) ?more4
          case step4 =>
            go_simp
            refine hK _ _ ?_
            clear hK K
            refine wpAnyIn_ready (rs := [4]) (by kernel_rfl) (by simp) ?_
            refine AllReadyIn.cons rfl (fun K hK => ?step5) ?more5
            case step5 =>
              go_simp
              refine ⟨trivial, ?_⟩
              refine (callsIn_wide.2 HT.out).mono ?_
              rintro e W1 ⟨v, u, rfl, hr, hr', hap, hb⟩
              have hs1' := hb.size
              have hb1 : Below W.heap.size W W1 := ((Below.refl W.heap.size W).drew).trans hb
              obtain ⟨a5, c5, rfl, -⟩ := hr.form
              obtain ⟨a6, c6, rfl, -⟩ := hr'.form
              obtain ⟨n5, hn5⟩ : ∃ q, N1.length = q := ⟨_, rfl⟩
              obtain ⟨n6, hn6⟩ : ∃ q, N2.length = q := ⟨_, rfl⟩
              rw [hn5] at hr ⊢
              rw [hn6] at hr' ⊢
              have bd1 : Boxed W1 w.heap.size 28 (.slice vd nd' cd') := (hb1.block _ BD.out.lt).trans BD.out
              have br1 : Boxed W1 (w.heap.size + 1 + 1) 27 (.slice (some ⟨w.heap.size + 1, 0, none⟩) n n) := (hb1.block _ BR.out.lt).trans BR.out
              have bo1 : Boxed W1 (w.heap.size + 1 + 1 + 1) 4 (.bool fl) := (hb1.block _ BOX.out.lt).trans BOX.out
              have ga1 := GA.out.below hb1 (by omega) hH2
              obtain ⟨ug, hg1, hg2⟩ := ga1.place hjn
              have k1 := bd1.cell
              have k2 := bd1.frozen
              have k3 := br1.cell
              have k4 := bo1.cell
              have k5 := bo1.frozen
              have HR := Lib.hid hr
              have HR' := Lib.hid hr'
              have HB1 := Lib.hid hb1
              have BD1 := Lib.hid bd1
              have BR1 := Lib.hid br1
              have BO1 := Lib.hid bo1
              have GA1 := Lib.hid ga1
              have HN5 := Lib.hid hn5
              have HN6 := Lib.hid hn6
              clear hr hr' hap hb hb1 bd1 br1 bo1 ga1 hn5 hn6
              refine hK _ _ ?_
              clear hK K
              refine wpAnyIn_take (i := 5) (v := (.tuple #[.slice a5 n5 c5, .slice a6 n6 c6, .bool N3])) rfl rfl (by kernel_rfl) (by kernel_rfl) (by kernel_rfl) (fun _ _ _ h => h) ⟨Or.inl ⟨by rfl, ?hy6⟩, fun _ => rfl⟩ ?rest6
              case hy6 => intro w_; go_simp
              case rest6 =>
                refine wpAnyIn_take (i := 6) (v := (.slice a5 n5 c5)) rfl rfl (by kernel_rfl) (by kernel_rfl) (by kernel_rfl) (fun _ _ _ h => h) ⟨Or.inl ⟨by rfl, ?hy7⟩, fun _ => rfl⟩ ?rest7
                case hy7 => intro w_; go_simp
                case rest7 =>
                  refine wpAnyIn_take (i := 7) (v := (.slice a6 n6 c6)) rfl rfl (by kernel_rfl) (by kernel_rfl) (by kernel_rfl) (fun _ _ _ h => h) ⟨Or.inl ⟨by rfl, ?hy8⟩, fun _ => rfl⟩ ?rest8
                  case hy8 => intro w_; go_simp
                  case rest8 =>
                    refine wpAnyIn_take (i := 8) (v := (.bool N3)) rfl rfl (by kernel_rfl) (by kernel_rfl) (by kernel_rfl) (fun _ _ _ h => h) ⟨Or.inl ⟨by rfl, ?hy9⟩, fun _ => rfl⟩ ?rest9
                    case hy9 => intro w_; go_simp
                    case rest9 =>
                      refine wpAnyIn_ready (rs := [9]) (by kernel_rfl) (by simp) ?_
                      refine AllReadyIn.cons rfl (fun K hK => ?step10) ?more10
                      case step10 =>
                        go_simp
                        refine hK _ _ ?_
                        clear hK K
                        refine wpAnyIn_take (i := 10) (v := (.pointer (some ⟨w.heap.size + 1, j, none⟩))) rfl rfl (by kernel_rfl) (by kernel_rfl) (by kernel_rfl) (fun _ _ _ h => h) ⟨Or.inl ⟨by rfl, ?hy11⟩, fun _ => rfl⟩ ?rest11
                        case hy11 => intro w_; go_simp
                        case rest11 =>
                          refine wpAnyIn_take (i := 11) (v := (.pointer (some ⟨w.heap.size + 1, j, none⟩))) rfl rfl (by kernel_rfl) (by kernel_rfl) (by kernel_rfl) (fun _ _ _ h => h) ⟨Or.inl ⟨by rfl, ?hy12⟩, fun _ => rfl⟩ ?rest12
                          case hy12 => intro w_; go_simp
                          case rest12 =>
                            refine wpAnyIn_ready (rs := [12]) (by kernel_rfl) (by simp) ?_
                            refine AllReadyIn.cons rfl (fun K hK => ?step13) ?more13
                            case step13 =>
                              go_simp
                              refine hK _ _ ?_
                              clear hK K
                              refine wpAnyIn_take (i := 13) (v := (.bool N3)) rfl rfl (by kernel_rfl) (by kernel_rfl) (by kernel_rfl) (fun _ _ _ h => h) ⟨Or.inl ⟨by rfl, ?hy14⟩, fun _ => rfl⟩ ?rest14
                              case hy14 => intro w_; go_simp
                              case rest14 =>
                                refine wpAnyIn_done (by kernel_rfl) ?_ _
                                obtain ⟨W2, hW2⟩ : ∃ W2, (W1.setCell ⟨w.heap.size, 0, none⟩ (.slice a5 n5 c5)).setCell ⟨w.heap.size + 1, j, none⟩ (.slice a6 n6 c6) = W2 := ⟨_, rfl⟩
                                rw [hW2]
                                have bo2 : Boxed W2 (w.heap.size + 1 + 1 + 1) 4 (.bool fl) := by
                                  rw [← hW2]
                                  exact (Below.heap_setCell _ _ _ _ (by show w.heap.size + 1 + 1 + 1 ≠ w.heap.size + 1; omega)).trans ((Below.heap_setCell _ _ _ _ (by show w.heap.size + 1 + 1 + 1 ≠ w.heap.size; omega)).trans BO1.out)
                                have k6 := bo2.cell
                                have k7 := bo2.frozen
                                have HW2 := Lib.hid hW2
                                clear hW2 bo2 k1 k2 k3 k4 k5 hg1 hg2 cd0 cr0 co0
                                cases fl
                                all_goals
                                  gi_wp2
                                  have hW2 := HW2.out
                                  subst hW2
                                  have E := fun q : Bool => back_end (j := j) (S := W0.heap.size) (n₀ := w.heap.size) (B1 := w.heap.size + 4) (B2 := gs) (Bd := w.heap.size) (g := w.heap.size + 1) (Bo := w.heap.size + 1 + 1 + 1) (.slice a5 n5 c5) (.slice a6 n6 c6) (.bool q) HB1.out hsW (Nat.le_refl _) (by omega) (by omega) (by omega) (by omega) ⟨by omega, by omega, by omega⟩ ⟨by omega, by omega, by omega⟩
                                  have hnx := HNX.out
                                  simp only [Bool.false_or, Bool.true_or] at hnx
                                  refine ⟨(E _).1, (E _).2, back_inv (W := W) hnx hN1l hjn BD1.out BR1.out BO1.out HR.out HR'.out GA1.out hH1 hH2 HB1.out HBW.out hsW ⟨by omega, by omega⟩ ⟨Nat.le_refl _, by omega⟩ ⟨by omega, by omega⟩ (by omega) (by omega) (by omega) (by omega) (by omega) (by omega)⟩
                            case more13 =>
                              exact AllReadyIn.nil
                      case more10 =>
                        exact AllReadyIn.nil
            case more5 =>
              exact AllReadyIn.nil
          case more4 =>
            exact AllReadyIn.nil
        case more3 =>
          refine AllReadyIn.cons rfl (fun K hK => ?step15) ?more15
          case step15 =>
            go_simp
            refine hK _ _ ?_
            clear hK K
            refine wpAnyIn_ready (rs := [0, 4]) (by kernel_rfl) (by simp) ?_
            refine AllReadyIn.cons rfl (fun K hK => ?step16) ?more16
            case step16 =>
              go_simp
              refine hK _ _ ?_
              clear hK K
              refine wpAnyIn_ready (rs := [4]) (by kernel_rfl) (by simp) ?_
              refine AllReadyIn.cons rfl (fun K hK => ?step17) ?more17
              case step17 =>
                go_simp
                refine ⟨trivial, ?_⟩
                refine (callsIn_wide.2 HT.out).mono ?_
                rintro e W1 ⟨v, u, rfl, hr, hr', hap, hb⟩
                have hs1' := hb.size
                have hb1 : Below W.heap.size W W1 := ((Below.refl W.heap.size W).drew).trans hb
                obtain ⟨a5, c5, rfl, -⟩ := hr.form
                obtain ⟨a6, c6, rfl, -⟩ := hr'.form
                obtain ⟨n5, hn5⟩ : ∃ q, N1.length = q := ⟨_, rfl⟩
                obtain ⟨n6, hn6⟩ : ∃ q, N2.length = q := ⟨_, rfl⟩
                rw [hn5] at hr ⊢
                rw [hn6] at hr' ⊢
                have bd1 : Boxed W1 w.heap.size 28 (.slice vd nd' cd') := (hb1.block _ BD.out.lt).trans BD.out
                have br1 : Boxed W1 (w.heap.size + 1 + 1) 27 (.slice (some ⟨w.heap.size + 1, 0, none⟩) n n) := (hb1.block _ BR.out.lt).trans BR.out
                have bo1 : Boxed W1 (w.heap.size + 1 + 1 + 1) 4 (.bool fl) := (hb1.block _ BOX.out.lt).trans BOX.out
                have ga1 := GA.out.below hb1 (by omega) hH2
                obtain ⟨ug, hg1, hg2⟩ := ga1.place hjn
                have k1 := bd1.cell
                have k2 := bd1.frozen
                have k3 := br1.cell
                have k4 := bo1.cell
                have k5 := bo1.frozen
                have HR := Lib.hid hr
                have HR' := Lib.hid hr'
                have HB1 := Lib.hid hb1
                have BD1 := Lib.hid bd1
                have BR1 := Lib.hid br1
                have BO1 := Lib.hid bo1
                have GA1 := Lib.hid ga1
                have HN5 := Lib.hid hn5
                have HN6 := Lib.hid hn6
                clear hr hr' hap hb hb1 bd1 br1 bo1 ga1 hn5 hn6
                refine hK _ _ ?_
                clear hK K
                refine wpAnyIn_take (i := 5) (v := (.tuple #[.slice a5 n5 c5, .slice a6 n6 c6, .bool N3])) rfl rfl (by kernel_rfl) (by kernel_rfl) (by kernel_rfl) (fun _ _ _ h => h) ⟨Or.inl ⟨by rfl, ?hy18⟩, fun _ => rfl⟩ ?rest18
                case hy18 => intro w_; go_simp
                case rest18 =>
                  refine wpAnyIn_take (i := 6) (v := (.slice a5 n5 c5)) rfl rfl (by kernel_rfl) (by kernel_rfl) (by kernel_rfl) (fun _ _ _ h => h) ⟨Or.inl ⟨by rfl, ?hy19⟩, fun _ => rfl⟩ ?rest19
                  case hy19 => intro w_; go_simp
                  case rest19 =>
                    refine wpAnyIn_take (i := 7) (v := (.slice a6 n6 c6)) rfl rfl (by kernel_rfl) (by kernel_rfl) (by kernel_rfl) (fun _ _ _ h => h) ⟨Or.inl ⟨by rfl, ?hy20⟩, fun _ => rfl⟩ ?rest20
                    case hy20 => intro w_; go_simp
                    case rest20 =>
                      refine wpAnyIn_take (i := 8) (v := (.bool N3)) rfl rfl (by kernel_rfl) (by kernel_rfl) (by kernel_rfl) (fun _ _ _ h => h) ⟨Or.inl ⟨by rfl, ?hy21⟩, fun _ => rfl⟩ ?rest21
                      case hy21 => intro w_; go_simp
                      case rest21 =>
                        refine wpAnyIn_ready (rs := [9]) (by kernel_rfl) (by simp) ?_
                        refine AllReadyIn.cons rfl (fun K hK => ?step22) ?more22
                        case step22 =>
                          go_simp
                          refine hK _ _ ?_
                          clear hK K
                          refine wpAnyIn_take (i := 10) (v := (.pointer (some ⟨w.heap.size + 1, j, none⟩))) rfl rfl (by kernel_rfl) (by kernel_rfl) (by kernel_rfl) (fun _ _ _ h => h) ⟨Or.inl ⟨by rfl, ?hy23⟩, fun _ => rfl⟩ ?rest23
                          case hy23 => intro w_; go_simp
                          case rest23 =>
                            refine wpAnyIn_take (i := 11) (v := (.pointer (some ⟨w.heap.size + 1, j, none⟩))) rfl rfl (by kernel_rfl) (by kernel_rfl) (by kernel_rfl) (fun _ _ _ h => h) ⟨Or.inl ⟨by rfl, ?hy24⟩, fun _ => rfl⟩ ?rest24
                            case hy24 => intro w_; go_simp
                            case rest24 =>
                              refine wpAnyIn_ready (rs := [12]) (by kernel_rfl) (by simp) ?_
                              refine AllReadyIn.cons rfl (fun K hK => ?step25) ?more25
                              case step25 =>
                                go_simp
                                refine hK _ _ ?_
                                clear hK K
                                refine wpAnyIn_take (i := 13) (v := (.bool N3)) rfl rfl (by kernel_rfl) (by kernel_rfl) (by kernel_rfl) (fun _ _ _ h => h) ⟨Or.inl ⟨by rfl, ?hy26⟩, fun _ => rfl⟩ ?rest26
                                case hy26 => intro w_; go_simp
                                case rest26 =>
                                  refine wpAnyIn_done (by kernel_rfl) ?_ _
                                  obtain ⟨W2, hW2⟩ : ∃ W2, (W1.setCell ⟨w.heap.size, 0, none⟩ (.slice a5 n5 c5)).setCell ⟨w.heap.size + 1, j, none⟩ (.slice a6 n6 c6) = W2 := ⟨_, rfl⟩
                                  rw [hW2]
                                  have bo2 : Boxed W2 (w.heap.size + 1 + 1 + 1) 4 (.bool fl) := by
                                    rw [← hW2]
                                    exact (Below.heap_setCell _ _ _ _ (by show w.heap.size + 1 + 1 + 1 ≠ w.heap.size + 1; omega)).trans ((Below.heap_setCell _ _ _ _ (by show w.heap.size + 1 + 1 + 1 ≠ w.heap.size; omega)).trans BO1.out)
                                  have k6 := bo2.cell
                                  have k7 := bo2.frozen
                                  have HW2 := Lib.hid hW2
                                  clear hW2 bo2 k1 k2 k3 k4 k5 hg1 hg2 cd0 cr0 co0
                                  cases fl
                                  all_goals
                                    gi_wp2
                                    have hW2 := HW2.out
                                    subst hW2
                                    have E := fun q : Bool => back_end (j := j) (S := W0.heap.size) (n₀ := w.heap.size) (B1 := w.heap.size + 4) (B2 := gs) (Bd := w.heap.size) (g := w.heap.size + 1) (Bo := w.heap.size + 1 + 1 + 1) (.slice a5 n5 c5) (.slice a6 n6 c6) (.bool q) HB1.out hsW (Nat.le_refl _) (by omega) (by omega) (by omega) (by omega) ⟨by omega, by omega, by omega⟩ ⟨by omega, by omega, by omega⟩
                                    have hnx := HNX.out
                                    simp only [Bool.false_or, Bool.true_or] at hnx
                                    refine ⟨(E _).1, (E _).2, back_inv (W := W) hnx hN1l hjn BD1.out BR1.out BO1.out HR.out HR'.out GA1.out hH1 hH2 HB1.out HBW.out hsW ⟨by omega, by omega⟩ ⟨Nat.le_refl _, by omega⟩ ⟨by omega, by omega⟩ (by omega) (by omega) (by omega) (by omega) (by omega) (by omega)⟩
                              case more25 =>
                                exact AllReadyIn.nil
                        case more22 =>
                          exact AllReadyIn.nil
              case more17 =>
                exact AllReadyIn.nil
            case more16 =>
              refine AllReadyIn.cons rfl (fun K hK => ?step27) ?more27
              case step27 =>
                go_simp
                refine ⟨trivial, ?_⟩
                refine (callsIn_wide.2 HT.out).mono ?_
                rintro e W1 ⟨v, u, rfl, hr, hr', hap, hb⟩
                have hs1' := hb.size
                have hb1 : Below W.heap.size W W1 := ((Below.refl W.heap.size W).drew).trans hb
                obtain ⟨a5, c5, rfl, -⟩ := hr.form
                obtain ⟨a6, c6, rfl, -⟩ := hr'.form
                obtain ⟨n5, hn5⟩ : ∃ q, N1.length = q := ⟨_, rfl⟩
                obtain ⟨n6, hn6⟩ : ∃ q, N2.length = q := ⟨_, rfl⟩
                rw [hn5] at hr ⊢
                rw [hn6] at hr' ⊢
                have bd1 : Boxed W1 w.heap.size 28 (.slice vd nd' cd') := (hb1.block _ BD.out.lt).trans BD.out
                have br1 : Boxed W1 (w.heap.size + 1 + 1) 27 (.slice (some ⟨w.heap.size + 1, 0, none⟩) n n) := (hb1.block _ BR.out.lt).trans BR.out
                have bo1 : Boxed W1 (w.heap.size + 1 + 1 + 1) 4 (.bool fl) := (hb1.block _ BOX.out.lt).trans BOX.out
                have ga1 := GA.out.below hb1 (by omega) hH2
                obtain ⟨ug, hg1, hg2⟩ := ga1.place hjn
                have k1 := bd1.cell
                have k2 := bd1.frozen
                have k3 := br1.cell
                have k4 := bo1.cell
                have k5 := bo1.frozen
                have HR := Lib.hid hr
                have HR' := Lib.hid hr'
                have HB1 := Lib.hid hb1
                have BD1 := Lib.hid bd1
                have BR1 := Lib.hid br1
                have BO1 := Lib.hid bo1
                have GA1 := Lib.hid ga1
                have HN5 := Lib.hid hn5
                have HN6 := Lib.hid hn6
                clear hr hr' hap hb hb1 bd1 br1 bo1 ga1 hn5 hn6
                refine hK _ _ ?_
                clear hK K
                refine wpAnyIn_take (i := 5) (v := (.tuple #[.slice a5 n5 c5, .slice a6 n6 c6, .bool N3])) rfl rfl (by kernel_rfl) (by kernel_rfl) (by kernel_rfl) (fun _ _ _ h => h) ⟨Or.inl ⟨by rfl, ?hy28⟩, fun _ => rfl⟩ ?rest28
                case hy28 => intro w_; go_simp
                case rest28 =>
                  refine wpAnyIn_take (i := 6) (v := (.slice a5 n5 c5)) rfl rfl (by kernel_rfl) (by kernel_rfl) (by kernel_rfl) (fun _ _ _ h => h) ⟨Or.inl ⟨by rfl, ?hy29⟩, fun _ => rfl⟩ ?rest29
                  case hy29 => intro w_; go_simp
                  case rest29 =>
                    refine wpAnyIn_take (i := 7) (v := (.slice a6 n6 c6)) rfl rfl (by kernel_rfl) (by kernel_rfl) (by kernel_rfl) (fun _ _ _ h => h) ⟨Or.inl ⟨by rfl, ?hy30⟩, fun _ => rfl⟩ ?rest30
                    case hy30 => intro w_; go_simp
                    case rest30 =>
                      refine wpAnyIn_take (i := 8) (v := (.bool N3)) rfl rfl (by kernel_rfl) (by kernel_rfl) (by kernel_rfl) (fun _ _ _ h => h) ⟨Or.inl ⟨by rfl, ?hy31⟩, fun _ => rfl⟩ ?rest31
                      case hy31 => intro w_; go_simp
                      case rest31 =>
                        refine wpAnyIn_ready (rs := [0, 9]) (by kernel_rfl) (by simp) ?_
                        refine AllReadyIn.cons rfl (fun K hK => ?step32) ?more32
                        case step32 =>
                          go_simp
                          refine hK _ _ ?_
                          clear hK K
                          refine wpAnyIn_ready (rs := [9]) (by kernel_rfl) (by simp) ?_
                          refine AllReadyIn.cons rfl (fun K hK => ?step33) ?more33
                          case step33 =>
                            go_simp
                            refine hK _ _ ?_
                            clear hK K
                            refine wpAnyIn_take (i := 10) (v := (.pointer (some ⟨w.heap.size + 1, j, none⟩))) rfl rfl (by kernel_rfl) (by kernel_rfl) (by kernel_rfl) (fun _ _ _ h => h) ⟨Or.inl ⟨by rfl, ?hy34⟩, fun _ => rfl⟩ ?rest34
                            case hy34 => intro w_; go_simp
                            case rest34 =>
                              refine wpAnyIn_take (i := 11) (v := (.pointer (some ⟨w.heap.size + 1, j, none⟩))) rfl rfl (by kernel_rfl) (by kernel_rfl) (by kernel_rfl) (fun _ _ _ h => h) ⟨Or.inl ⟨by rfl, ?hy35⟩, fun _ => rfl⟩ ?rest35
                              case hy35 => intro w_; go_simp
                              case rest35 =>
                                refine wpAnyIn_ready (rs := [12]) (by kernel_rfl) (by simp) ?_
                                refine AllReadyIn.cons rfl (fun K hK => ?step36) ?more36
                                case step36 =>
                                  go_simp
                                  refine hK _ _ ?_
                                  clear hK K
                                  refine wpAnyIn_take (i := 13) (v := (.bool N3)) rfl rfl (by kernel_rfl) (by kernel_rfl) (by kernel_rfl) (fun _ _ _ h => h) ⟨Or.inl ⟨by rfl, ?hy37⟩, fun _ => rfl⟩ ?rest37
                                  case hy37 => intro w_; go_simp
                                  case rest37 =>
                                    refine wpAnyIn_done (by kernel_rfl) ?_ _
                                    obtain ⟨W2, hW2⟩ : ∃ W2, (W1.setCell ⟨w.heap.size, 0, none⟩ (.slice a5 n5 c5)).setCell ⟨w.heap.size + 1, j, none⟩ (.slice a6 n6 c6) = W2 := ⟨_, rfl⟩
                                    rw [hW2]
                                    have bo2 : Boxed W2 (w.heap.size + 1 + 1 + 1) 4 (.bool fl) := by
                                      rw [← hW2]
                                      exact (Below.heap_setCell _ _ _ _ (by show w.heap.size + 1 + 1 + 1 ≠ w.heap.size + 1; omega)).trans ((Below.heap_setCell _ _ _ _ (by show w.heap.size + 1 + 1 + 1 ≠ w.heap.size; omega)).trans BO1.out)
                                    have k6 := bo2.cell
                                    have k7 := bo2.frozen
                                    have HW2 := Lib.hid hW2
                                    clear hW2 bo2 k1 k2 k3 k4 k5 hg1 hg2 cd0 cr0 co0
                                    cases fl
                                    all_goals
                                      gi_wp2
                                      have hW2 := HW2.out
                                      subst hW2
                                      have E := fun q : Bool => back_end (j := j) (S := W0.heap.size) (n₀ := w.heap.size) (B1 := w.heap.size + 4) (B2 := gs) (Bd := w.heap.size) (g := w.heap.size + 1) (Bo := w.heap.size + 1 + 1 + 1) (.slice a5 n5 c5) (.slice a6 n6 c6) (.bool q) HB1.out hsW (Nat.le_refl _) (by omega) (by omega) (by omega) (by omega) ⟨by omega, by omega, by omega⟩ ⟨by omega, by omega, by omega⟩
                                      have hnx := HNX.out
                                      simp only [Bool.false_or, Bool.true_or] at hnx
                                      refine ⟨(E _).1, (E _).2, back_inv (W := W) hnx hN1l hjn BD1.out BR1.out BO1.out HR.out HR'.out GA1.out hH1 hH2 HB1.out HBW.out hsW ⟨by omega, by omega⟩ ⟨Nat.le_refl _, by omega⟩ ⟨by omega, by omega⟩ (by omega) (by omega) (by omega) (by omega) (by omega) (by omega)⟩
                                case more36 =>
                                  exact AllReadyIn.nil
                          case more33 =>
                            exact AllReadyIn.nil
                        case more32 =>
                          refine AllReadyIn.cons rfl (fun K hK => ?step38) ?more38
                          case step38 =>
                            go_simp
                            refine hK _ _ ?_
                            clear hK K
                            refine wpAnyIn_ready (rs := [0]) (by kernel_rfl) (by simp) ?_
                            refine AllReadyIn.cons rfl (fun K hK => ?step39) ?more39
                            case step39 =>
                              go_simp
                              refine hK _ _ ?_
                              clear hK K
                              refine wpAnyIn_take (i := 10) (v := (.pointer (some ⟨w.heap.size + 1, j, none⟩))) rfl rfl (by kernel_rfl) (by kernel_rfl) (by kernel_rfl) (fun _ _ _ h => h) ⟨Or.inl ⟨by rfl, ?hy40⟩, fun _ => rfl⟩ ?rest40
                              case hy40 => intro w_; go_simp
                              case rest40 =>
                                refine wpAnyIn_take (i := 11) (v := (.pointer (some ⟨w.heap.size + 1, j, none⟩))) rfl rfl (by kernel_rfl) (by kernel_rfl) (by kernel_rfl) (fun _ _ _ h => h) ⟨Or.inl ⟨by rfl, ?hy41⟩, fun _ => rfl⟩ ?rest41
                                case hy41 => intro w_; go_simp
                                case rest41 =>
                                  refine wpAnyIn_ready (rs := [12]) (by kernel_rfl) (by simp) ?_
                                  refine AllReadyIn.cons rfl (fun K hK => ?step42) ?more42
                                  case step42 =>
                                    go_simp
                                    refine hK _ _ ?_
                                    clear hK K
                                    refine wpAnyIn_take (i := 13) (v := (.bool N3)) rfl rfl (by kernel_rfl) (by kernel_rfl) (by kernel_rfl) (fun _ _ _ h => h) ⟨Or.inl ⟨by rfl, ?hy43⟩, fun _ => rfl⟩ ?rest43
                                    case hy43 => intro w_; go_simp
                                    case rest43 =>
                                      refine wpAnyIn_done (by kernel_rfl) ?_ _
                                      obtain ⟨W2, hW2⟩ : ∃ W2, (W1.setCell ⟨w.heap.size, 0, none⟩ (.slice a5 n5 c5)).setCell ⟨w.heap.size + 1, j, none⟩ (.slice a6 n6 c6) = W2 := ⟨_, rfl⟩
                                      rw [hW2]
                                      have bo2 : Boxed W2 (w.heap.size + 1 + 1 + 1) 4 (.bool fl) := by
                                        rw [← hW2]
                                        exact (Below.heap_setCell _ _ _ _ (by show w.heap.size + 1 + 1 + 1 ≠ w.heap.size + 1; omega)).trans ((Below.heap_setCell _ _ _ _ (by show w.heap.size + 1 + 1 + 1 ≠ w.heap.size; omega)).trans BO1.out)
                                      have k6 := bo2.cell
                                      have k7 := bo2.frozen
                                      have HW2 := Lib.hid hW2
                                      clear hW2 bo2 k1 k2 k3 k4 k5 hg1 hg2 cd0 cr0 co0
                                      cases fl
                                      all_goals
                                        gi_wp2
                                        have hW2 := HW2.out
                                        subst hW2
                                        have E := fun q : Bool => back_end (j := j) (S := W0.heap.size) (n₀ := w.heap.size) (B1 := w.heap.size + 4) (B2 := gs) (Bd := w.heap.size) (g := w.heap.size + 1) (Bo := w.heap.size + 1 + 1 + 1) (.slice a5 n5 c5) (.slice a6 n6 c6) (.bool q) HB1.out hsW (Nat.le_refl _) (by omega) (by omega) (by omega) (by omega) ⟨by omega, by omega, by omega⟩ ⟨by omega, by omega, by omega⟩
                                        have hnx := HNX.out
                                        simp only [Bool.false_or, Bool.true_or] at hnx
                                        refine ⟨(E _).1, (E _).2, back_inv (W := W) hnx hN1l hjn BD1.out BR1.out BO1.out HR.out HR'.out GA1.out hH1 hH2 HB1.out HBW.out hsW ⟨by omega, by omega⟩ ⟨Nat.le_refl _, by omega⟩ ⟨by omega, by omega⟩ (by omega) (by omega) (by omega) (by omega) (by omega) (by omega)⟩
                                  case more42 =>
                                    exact AllReadyIn.nil
                            case more39 =>
                              exact AllReadyIn.nil
                          case more38 =>
                            exact AllReadyIn.nil
              case more27 =>
                exact AllReadyIn.nil
          case more15 =>
            exact AllReadyIn.nil
  case done =>
    rintro D zs W hD hS ⟨⟨⟨d, bd, hdd⟩, br, bo, ⟨H, hH1, hH2, hga⟩, hsl⟩, hB⟩ hK
    have hz := foldB_came m xs ds n hlen zs hS
    have hdr : Row (w.heap.size + 5) W d (backK m xs ds n) := by
      rcases hdd with ⟨rfl, -⟩ | h
      · have : (List.range n).length = 0 := by rw [← hS]; rfl
        rw [List.length_range] at this
        omega
      · rwa [hz] at h
    rw [hz] at bo hga
    have c5 := bd.cell
    have c6 := br.cell
    obtain ⟨q, hq⟩ : ∃ q, backKB m xs ds n = q := ⟨_, rfl⟩
    have c7 : W.cell? ⟨w.heap.size + 1 + 1 + 1, 0, none⟩ = some (.bool q) := by
      rw [← hq]
      exact bo.cell
    obtain ⟨ak, ck, rfl, -⟩ := hdr.form
    obtain ⟨nk, hnk⟩ : ∃ q, (backK m xs ds n).length = q := ⟨_, rfl⟩
    rw [hnk] at hdr c5
    have HDR := Lib.hid hdr
    have HNK := Lib.hid hnk
    have HGR := Lib.hid hga
    have HBB := Lib.hid hB
    have HQ := Lib.hid hq
    clear hga hB hdd bd br bo hz hsl hq hdr hnk
    gi_wp2
    gi_quiet (fail)
    gi_wp2
    have hK' : (W.drewN nq).heap[D]? = some (.deferred (some [])) := hK
    have hB' : Below w.heap.size w (W.drewN nq) := HBB.out.trans ⟨rfl, rfl, rfl, Nat.le_refl _, fun _ _ => rfl⟩
    have hga' : GradsAt (w.heap.size + 1) (w.heap.size + 5) H n (W.drewN nq) (gradsN m xs ds) := HGR.out.keep rfl fun _ _ _ _ _ => rfl
    have hga2 := hga'.turned (W' := (W.drewN nq).putObj D (.deferred none)) (row := some D) (grownBy_putObj' _ _ _) hH2 (fun r e => by cases e; exact ⟨_, hK', rfl⟩)
    have hsz : ((W.drewN nq).putObj D (.deferred none)).heap.size = W.heap.size := by simp [World.putObj]
    have hdr' : Row (w.heap.size + 5) (W.drewN nq) (.slice ak nk ck) (backK m xs ds n) := HDR.out
    have hdr2 : Row (w.heap.size + 5) ((W.drewN nq).putObj D (.deferred none)) (.slice ak nk ck) (backK m xs ds n) := by
      refine hdr'.kept (grownBy_putObj' _ _ _) ?_
      cases hd : (Value.slice ak nk ck).ownBlock with
      | none => exact .inl rfl
      | some k =>
        refine .inr fun e => ?_
        obtain ⟨-, cur, h3⟩ := owns_block hdr' k hd
        cases e
        rw [h3] at hK'
        cases hK'
    refine marks_ret1 rfl hK' (results_tmp3 rfl _ _ _) ⟨.slice ak nk ck, .slice (some ⟨w.heap.size + 1, 0, none⟩) n n, by rw [HQ.out] <;> rfl, hdr2.le (by omega), ?_, below_put hB' (by omega) hK' _⟩
    exact (hga2.list (by omega) (by rw [hsz]; exact hH2)).wide (by omega) (Nat.le_refl _) (Nat.le_refl _)
  case stop =>
    rintro D c pre W _ _ h _
    exact h.elim
end Go.Proofs.YtpnifgpmleaohaaGreatDoor

end
