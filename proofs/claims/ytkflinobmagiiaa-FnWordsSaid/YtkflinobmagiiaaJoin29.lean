import Derived.Test.YtkflinobmagiiaaJoin28
import Derived.Test.YtkflinobmagiiaaJoin11
import Derived.Test.YtkflinobmagiiaaJoin26
import Derived.Deep.AppendLies
import Derived.Deep.RegionHeld3
import Derived.RangeFuncBox
import Derived.Test.YtkflinobmagiiaaJoin24
/-! YtkflinobmagiiaaDrawCut -/
section

namespace Go.Proofs.Ytkflinobmagiiaa
open Go.RowKit Go.Sort
set_option linter.unusedVariables false

set_option maxRecDepth 100000 in
theorem l8Cuts_e (B : Nat) (w : World) (C : Nat) (hc : Cu B w C) (a : Option Addr) (n c : Nat) (hn : n ≤ 1048576) :
    Calls Try.prog 85 #[.pointer (some ⟨C, 0, none⟩), .agg #[.slice a n c]] w (DrewV (fun xs => xs.length ≤ 3) B w C) := by
  obtain ⟨i0, hi, hz0, hz1, hz2⟩ := info_parts Try.infoI64
  have hlt := hc.lt
  have ht0 := (Turned.refl hc).alloc (.cells #[.slice a n c] 26 (0, 0))
  have hb0 := heap_alloc_new w (.cells #[.slice a n c] 26 (0, 0))
  have hs0 : w.heap.size < (w.alloc (.cells #[.slice a n c] 26 (0, 0))).heap.size := by simp
  have HT0 := Lib.hid ht0
  have HB0 := Lib.hid hb0
  clear ht0 hb0 hc
  go_enter Try.func85, Try.ntmps85
  go_upto_region 1 with fail
  generalize w.alloc (.cells #[.slice a n c] 26 (0, 0)) = wa at HT0 HB0 hs0 ⊢
  have hlta : C < wa.heap.size := by omega
  go_wp2_with fail
  go_loopw [5, 6] (fun v i wr => ∃ (k : Nat) (xs : List Int), 1 ≤ k ∧ k ≤ n + 1 ∧ i = .int .i64 k ∧ xs.length ≤ 3 ∧ Row wa.heap.size wr v xs ∧ Turned B wa wr C) (fun _ i _ => n + 1 - (intOf i).toNat)
  case atStart => exact ⟨1, [], Nat.le_refl _, by omega, rfl, by simp, Row.empty wa _ rfl, (Turned.refl HT0.out.cu).alloc _⟩
  case round =>
    obtain ⟨k, xs, hk1, hk, rfl, hl, hrow, ht⟩ := hrel
    have hbx := box1 ((ht.block (k := w.heap.size) (by omega) (by omega)).trans HB0.out)
    have HR := Lib.hid hrow
    have HT := Lib.hid ht
    clear hrow ht
    by_cases hlk : k < n
    · go_wp2_with fail
      refine (l1Once_e B _ C 2 HT.out.cu).mono ?_
      rintro e w2 ⟨x, rfl, ht2⟩
      have hr2 := HR.out.turned hlta ht2
      have ht2' := HT.out.trans ht2
      have hsz := ht2'.size
      have HR2 := Lib.hid hr2
      have HT2 := Lib.hid ht2'
      have hown : w2.ownsRow wa.heap.size 3 1 _ xs.length (icells xs) := hr2
      obtain ⟨av, cv, rfl, -⟩ := hr2.form
      clear ht2 ht2' hr2 hbx
      cases x
      · go_wp2_with fail
        go_roundw
        case rel => exact ⟨k + 1, xs, by omega, by omega, by go_num, hl, HR2.out, HT2.out⟩
        case measure => simp [intOf]; omega
      · by_cases h3 : xs.length < 3
        · have h3d : decide ((xs.length : Int) < 3) = true := decide_eq_true (by omega)
          go_wp2_with (at_builtin; refine wpList_append_own _ rfl _ _ 27 rfl wa.heap.size 3 i0 (.int .i64 0) 1 8 Try.underlying27 hi hz0 hz1 hz2 rfl (by decide) _ _ _ rfl (hown.alloc _) ⟨w2.heap.size, 0, none⟩ 1 1 (icells [(k : Int)]) rfl rfl (cell_num_put _ _ _) (icells_one _) (by unfold maxLen; omega) (by omega) (by simp; omega) ?_; intro v' w3 hown' hgrow _)
          have hput := Row.put HR2.out hsz _ hown' hgrow
          have htt := HT2.out.put hlta HR2.out _ hgrow
          clear hown' hgrow hown
          go_wp2_with fail
          go_roundw
          case rel => exact ⟨k + 1, xs ++ [(k : Int)], by omega, by omega, by go_num, by rw [List.length_append]; simp; omega, hput.1, htt⟩
          case measure => simp [intOf]; omega
        · have h3d : decide ((xs.length : Int) < 3) = false := decide_eq_false (by omega)
          have h3' : ¬ xs.length < 3 := h3
          go_wp2_with fail
          go_roundw
          case rel => exact ⟨k + 1, xs, by omega, by omega, by go_num, hl, HR2.out, HT2.out⟩
          case measure => simp [intOf]; omega
    · have hge : decide ((k : Int) < (n : Int)) = false := decide_eq_false (by omega)
      go_wp2_with fail
      go_ret
      exact ⟨_, xs, rfl, hl, HR.out.le (by omega), HT0.out.trans HT.out⟩
theorem ListQ.listFrom8 {α : Type} {S : Shape α} {T : TypeId} {lo hi : Nat} {w : World} {v : Value} {xs : List α} (h : ListQ S T lo hi w v xs) : ∃ a cap, v = .slice a xs.length cap ∧ xs.length ≤ cap ∧ cap ≤ 9223372036854775807 ∧ ListAt S (fun b => lo ≤ b ∧ b < hi) w a xs.length xs := by
  obtain ⟨us, h1, h2, h3⟩ := h.all
  have h1' := h1
  rcases h1.2 with ⟨rfl, hn⟩ | ⟨g, cap, cur, rfl, e1, e2, e3, e4, -⟩
  · refine ⟨none, 0, by rw [hn], by omega, by omega, rfl, fun j x hx => ?_⟩
    have := (List.getElem?_eq_some_iff.1 hx).1
    omega
  · unfold maxLen at e4
    refine ⟨_, cap, rfl, e3, by omega, rfl, fun j x hx => ?_⟩
    obtain ⟨es, q1, q2, q3⟩ := h3 j x hx
    have hj : j < xs.length := (List.getElem?_eq_some_iff.1 hx).1
    have hp := place_le (s := S.size) hj
    refine ⟨g, 0, es, rfl, ⟨e1, h2 g rfl⟩, fun i u hu => ?_, S.sub q3 fun b hb => ⟨hb.1, hb.2.1⟩⟩
    have hi := (List.getElem?_eq_some_iff.1 hu).1
    rw [Nat.zero_add, World.ownsRow.cellAt h1' _ (by omega)]
    exact q1 i u hu
/-- One element of a list of one's own. -/
theorem smallM_bulk8 {m : List dOp} (h : SmallM m) (hl : m.length ≤ 9) : shModel.bulk m ≤ 1048576 := by
  have h1 := h.sum
  show (Shape.list shOp).bulk m ≤ 1048576
  have : (Shape.list shOp).bulk m = m.length + Shape.sum shOp.bulk m := rfl
  rw [this]
  have : m.length * 37 ≤ 9 * 37 := Nat.mul_le_mul_right _ hl
  omega
theorem size_set1'' (w : World) (a : Addr) (u : Value) : (w.setCell a u).heap.size = w.heap.size := by simp
theorem Row.stored' {base : Nat} {w : World} {v : Value} {xs : List Int} (h : Row base w v xs) (g : Nat) (hg : g < base) (u : Value) : Row base (w.setCell ⟨g, 0, none⟩ u) v xs :=
  h.kept (grownBy_setCell' w g u) (by
    cases hv : v.ownBlock with
    | none => exact .inl rfl
    | some k => exact .inr fun e => by cases e; have := (h.lt _ hv).1; omega)
/-- A model and cuts were drawn. -/
def DrewModC (w : World) (e : Ending) (w' : World) : Prop := ∃ a n c m ab cb xs, e = .returned (.tuple #[.agg #[.slice a n c], .slice ab xs.length cb]) ∧ (shModel.bulk m ≤ 1048576 ∧ (xs : List Int).length ≤ 4) ∧ shModel.reads (Under w'.heap.size) w' [.slice a n c] m ∧ IntsIn w'.heap.size w' ab xs.length xs ∧ Below w.heap.size w w'
end Go.Proofs.Ytkflinobmagiiaa

end

/-! YtkflinobmagiiaaSeqLawM -/
section

namespace Go.Proofs.Ytkflinobmagiiaa
open Go.RowKit
set_option linter.unusedVariables false

theorem okAt_has {m : List dOp} {j : Nat} (h : okAt m j = true) : dOpOk (opAt m j) = true ∧ (0 < j → (opAt m j).2.1 = (opAt m (j - 1)).2.2.1) := by
  unfold okAt at h
  simp only [Bool.and_eq_true, Bool.or_eq_true, decide_eq_true_eq] at h
  exact ⟨h.1, fun hj => h.2.resolve_left (by omega)⟩
theorem dOpOk_dims {x : dOp} (h : dOpOk x = true) : (1 ≤ x.2.1 ∧ x.2.1 ≤ 6) ∧ (1 ≤ x.2.2.1 ∧ x.2.2.1 ≤ 6) ∧ (x.2.2.2.length : Int) = opSz x.1 x.2.1 x.2.2.1 := by
  unfold dOpOk opOkB at h
  simp only [Bool.and_eq_true, decide_eq_true_eq] at h
  obtain ⟨⟨⟨⟨⟨-, hi⟩, ho⟩, -⟩, hl⟩, -⟩ := h
  exact ⟨inB_has hi, inB_has ho, hl⟩
/-- InOf and OutOf are above 0 just of a right model. -/
theorem inOf_pos (m : List dOp) : decide (0 < inOfN m) = modelOkB m := by
  unfold inOfN
  cases h : modelOkB m with
  | false => simp
  | true =>
    obtain ⟨h1, h2, -⟩ := modelOk_has h
    have := (dOpOk_dims (okAt_has (h1 0 (by omega))).1).1
    simp only [if_true]
    exact decide_eq_true (by omega)
theorem outOf_pos (m : List dOp) : decide (0 < outOfN m) = modelOkB m := by
  unfold outOfN
  cases h : modelOkB m with
  | false => simp
  | true =>
    obtain ⟨h1, h2, -⟩ := modelOk_has h
    have := (dOpOk_dims (okAt_has (h1 (m.length - 1) (by omega))).1).2.1
    simp only [if_true]
    exact decide_eq_true (by omega)
/-- What goes into each operation is right for it. -/
theorem inK_ok {m : List dOp} {x : List Int} (hm : modelOkB m = true) (hx : vecOkB x = true) (hl : (x.length : Int) = inOfN m) :
    ∀ k, k ≤ m.length → vecOkB (inK m x k) = true ∧ (k < m.length → ((inK m x k).length : Int) = (opAt m k).2.1) ∧ (0 < k → ((inK m x k).length : Int) = (opAt m (k - 1)).2.2.1) := by
  obtain ⟨h1, h2, -⟩ := modelOk_has hm
  intro k
  induction k with
  | zero =>
    intro _
    refine ⟨hx, fun _ => ?_, fun h => absurd h (by omega)⟩
    show (x.length : Int) = _
    rw [hl]
    unfold inOfN
    rw [if_pos hm]
  | succ k ih =>
    intro hk
    obtain ⟨i1, i2, -⟩ := ih (by omega)
    have hok := (okAt_has (h1 k (by omega))).1
    have hfw : fwOk (opAt m k).1 (opAt m k).2.1 (opAt m k).2.2.1 (opAt m k).2.2.2 (inK m x k) = true := by
      unfold fwOk
      unfold dOpOk at hok
      rw [hok, i1, decide_eq_true (i2 (by omega))]
      rfl
    have hs := fw_size hfw
    refine ⟨hs.2, fun hk' => ?_, fun _ => ?_⟩
    · have hc := (okAt_has (h1 (k + 1) hk')).2 (by omega)
      rw [Nat.add_sub_cancel] at hc
      rw [hc]
      exact hs.1
    · rw [Nat.add_sub_cancel]
      exact hs.1
/-- What comes back behind each operation is right for the one ahead. -/
theorem backK_ok {m : List dOp} {x d : List Int} (hm : modelOkB m = true) (hx : vecOkB x = true) (hl : (x.length : Int) = inOfN m) (hd : vecOkB d = true) (hdl : (d.length : Int) = outOfN m) :
    ∀ t, t ≤ m.length → vecOkB (backK m x d t) = true ∧ (t < m.length → ((backK m x d t).length : Int) = (opAt m (m.length - 1 - t)).2.2.1) := by
  obtain ⟨h1, h2, -⟩ := modelOk_has hm
  intro t
  induction t with
  | zero =>
    intro _
    refine ⟨hd, fun _ => ?_⟩
    show (d.length : Int) = _
    rw [hdl]
    unfold outOfN
    rw [if_pos hm, Nat.sub_zero]
  | succ t ih =>
    intro ht
    obtain ⟨b1, b2⟩ := ih (by omega)
    obtain ⟨i1, i2, -⟩ := inK_ok hm hx hl (m.length - 1 - t) (by omega)
    have hok := (okAt_has (h1 (m.length - 1 - t) (by omega))).1
    have hbw : bwOk (opAt m (m.length - 1 - t)).1 (opAt m (m.length - 1 - t)).2.1 (opAt m (m.length - 1 - t)).2.2.1 (opAt m (m.length - 1 - t)).2.2.2 (inK m x (m.length - 1 - t)) (backK m x d t) = true := by
      unfold bwOk fwOk
      unfold dOpOk at hok
      rw [hok, i1, b1, decide_eq_true (i2 (by omega)), decide_eq_true (b2 (by omega))]
      rfl
    have hs := bw_size hbw
    refine ⟨hs.2.1, fun ht' => ?_⟩
    have hc := (okAt_has (h1 (m.length - 1 - t) (by omega))).2 (by omega)
    rw [show m.length - 1 - t - 1 = m.length - 1 - (t + 1) by omega] at hc
    rw [← hc]
    exact hs.1
theorem grad_length {m : List dOp} {x d : List Int} (hm : modelOkB m = true) (hx : vecOkB x = true) (hl : (x.length : Int) = inOfN m) (hd : vecOkB d = true) (hdl : (d.length : Int) = outOfN m) (j : Nat) (hj : j < m.length) :
    (gradAt m x d j).length = (opAt m j).2.2.2.length := by
  obtain ⟨h1, h2, -⟩ := modelOk_has hm
  obtain ⟨b1, b2⟩ := backK_ok hm hx hl hd hdl (m.length - 1 - j) (by omega)
  have e : m.length - 1 - (m.length - 1 - j) = j := by omega
  rw [e] at b2
  obtain ⟨i1, i2, -⟩ := inK_ok hm hx hl j (by omega)
  have hok := (okAt_has (h1 j hj)).1
  have hp := (dOpOk_dims hok).2.2
  have hbw : bwOk (opAt m j).1 (opAt m j).2.1 (opAt m j).2.2.1 (opAt m j).2.2.2 (inK m x j) (backK m x d (m.length - 1 - j)) = true := by
    unfold bwOk fwOk
    unfold dOpOk at hok
    rw [hok, i1, b1, decide_eq_true (i2 hj), decide_eq_true (b2 (by omega))]
    rfl
  have hs := (bw_size hbw).2.2
  have : ((gradAt m x d j).length : Int) = opSz (opAt m j).1 (opAt m j).2.1 (opAt m j).2.2.1 := hs
  omega
theorem pair_has {m : List dOp} {p : dPair} (h : pairOkB (inOfN m) (outOfN m) p = true) : vecOkB p.1 = true ∧ vecOkB p.2 = true ∧ (p.1.length : Int) = inOfN m ∧ (p.2.length : Int) = outOfN m := by
  unfold pairOkB at h
  simp only [Bool.and_eq_true, decide_eq_true_eq] at h
  exact ⟨h.1.1.1, h.1.1.2, h.1.2, h.2⟩
theorem batch_has {m : List dOp} {b : List dPair} (h : batchOkB m b = true) : modelOkB m = true ∧ 1 ≤ b.length ∧ b.length ≤ 5 ∧ ∀ j, j < b.length → pairOkB (inOfN m) (outOfN m) (pairAt b j) = true := by
  unfold batchOkB at h
  simp only [Bool.and_eq_true] at h
  have := inB_has h.1.2
  refine ⟨h.1.1, by omega, by omega, fun j hj => ?_⟩
  rw [pairAt_get (List.getElem?_eq_getElem hj)]
  exact List.all_eq_true.1 h.2 _ (List.getElem_mem hj)
theorem batch_pair {m : List dOp} {p : dPair} (hm : modelOkB m = true) (h : pairOkB (inOfN m) (outOfN m) p = true) : batchOkB m [p] = true := by
  unfold batchOkB
  rw [hm, List.all_cons, h]
  rfl
/-- The gradients of a right pair have the sizes of the parameters; the loss is not below nought. -/
theorem micro_forms {m : List dOp} {p : dPair} (hm : modelOkB m = true) (h : pairOkB (inOfN m) (outOfN m) p = true) :
    (microG m p).1.length = m.length ∧ 0 ≤ (microG m p).2.1 ∧ ∀ j, j < m.length → (rowAt (microG m p).1 j).length = (opAt m j).2.2.2.length := by
  obtain ⟨x1, t1, x2, t2⟩ := pair_has h
  obtain ⟨h1, h2, -⟩ := modelOk_has hm
  obtain ⟨y1, -, y2⟩ := inK_ok hm x1 x2 m.length (Nat.le_refl _)
  have y3 : ((inK m p.1 m.length).length : Int) = outOfN m := by
    rw [y2 (by omega)]
    unfold outOfN
    rw [if_pos hm]
  have hp : pairB (inK m p.1 m.length) p.2 = true := by
    unfold pairB
    rw [y1, t1, decide_eq_true (show (inK m p.1 m.length).length = p.2.length by omega)]
    rfl
  have hd := rowP_ok (f := subN) hp fun j _ => okB_sat _
  have e : microG m p = (gradsN m p.1 (rowP subN (inK m p.1 m.length) p.2), lossN (inK m p.1 m.length) p.2, inKB m p.1 m.length || lossB (inK m p.1 m.length) p.2 || flagP subB (inK m p.1 m.length) p.2 || backKB m p.1 (rowP subN (inK m p.1 m.length) p.2) m.length) := by
    unfold microG
    rw [if_pos (batch_pair hm h)]
  rw [e]
  refine ⟨listK_length _ _, loss_nonneg _ _, fun j hj => ?_⟩
  show (rowAt (gradsN m p.1 (rowP subN (inK m p.1 m.length) p.2)) j).length = _
  unfold gradsN
  rw [rowAt_get (listK_get _ _ _ hj)]
  exact grad_length hm x1 x2 hd.2 (by rw [hd.1]; exact y3) j hj
/-- Nought gradients have a place for each parameter. -/
def rowsSum (l : List dRow) : Nat → Nat
  | 0 => 0
  | k + 1 => rowsSum l k + (rowAt l k).length
theorem sum_snoc {α : Type} (f : α → Nat) (l : List α) (x : α) : Shape.sum f (l ++ [x]) = Shape.sum f l + f x := by
  rw [Shape.sum_append]
  simp [Shape.sum]
theorem rowsSum_take (l : List dRow) : ∀ k, k ≤ l.length → rowsSum l k = Shape.sum (fun (x : dRow) => x.length) (l.take k)
  | 0, _ => by simp [rowsSum, Shape.sum]
  | k + 1, hk => by
    have hx : l[k]? = some l[k] := List.getElem?_eq_getElem (by omega)
    rw [List.take_add_one, hx]
    show rowsSum l k + (rowAt l k).length = Shape.sum _ (l.take k ++ [l[k]])
    rw [sum_snoc, rowsSum_take l k (by omega), rowAt_get hx]
theorem rowsSum_all (l : List dRow) : rowsSum l l.length = Shape.sum (fun (x : dRow) => x.length) l := by
  rw [rowsSum_take l _ (Nat.le_refl _), List.take_length]
theorem opsSum (m : List dOp) : ∀ k, k ≤ m.length → Shape.sum (fun (x : dRow) => x.length) (listK (fun j => noughts (opAt m j).2.2.2.length) k) = Shape.sum (fun (x : dOp) => x.2.2.2.length) (m.take k)
  | 0, _ => by simp [listK, Shape.sum]
  | k + 1, hk => by
    have hx : m[k]? = some m[k] := List.getElem?_eq_getElem (by omega)
    rw [List.take_add_one, hx]
    show Shape.sum _ (listK _ k ++ [_]) = Shape.sum _ (m.take k ++ [m[k]])
    rw [sum_snoc, sum_snoc, opsSum m k (by omega)]
    show _ + (noughts (opAt m k).2.2.2.length).length = _
    rw [opAt_get hx, noughts_length]
theorem zero_words (m : List dOp) : (rowsSum (zeroRows m) (zeroRows m).length : Int) = wordsN m := by
  rw [rowsSum_all]
  unfold zeroRows wordsN
  cases modelOkB m with
  | false => simp [Shape.sum]
  | true =>
    simp only [if_true]
    rw [opsSum m _ (Nat.le_refl _), List.take_length]
theorem rowsSum_le (l : List dRow) (k : Nat) (hk : k ≤ l.length) : rowsSum l k ≤ Shape.sum (fun (x : dRow) => x.length) l := by
  rw [rowsSum_take l k hk]
  exact sum_take_le _ _ _
/-! ### It does not matter which is which -/
theorem addN_comm' (a b : Int) : addN b a = addN a b ∧ addB b a = addB a b := by
  unfold addN addB
  rw [Int.add_comm (sat b) (sat a)]
  exact ⟨rfl, rfl⟩
theorem addV_comm (xs ys : List Int) : addV ys xs = addV xs ys ∧ addVB ys xs = addVB xs ys := by
  unfold addV addVB
  rw [Nat.min_comm]
  generalize min xs.length ys.length = k
  induction k with
  | zero => exact ⟨rfl, rfl⟩
  | succ k ih =>
    have h := addN_comm' (xs.getD k 0) (ys.getD k 0)
    unfold rowK flagK
    rw [ih.1, ih.2, h.1, h.2]
    exact ⟨rfl, rfl⟩
theorem addG_comm (a b : List dRow × Int × Bool) : addG b a = addG a b := by
  unfold addG addRows addRowsB
  rw [Nat.min_comm]
  have e1 : (fun j => addV (rowAt b.1 j) (rowAt a.1 j)) = fun j => addV (rowAt a.1 j) (rowAt b.1 j) := funext fun j => (addV_comm _ _).1
  have e2 : (fun j => addVB (rowAt b.1 j) (rowAt a.1 j)) = fun j => addVB (rowAt a.1 j) (rowAt b.1 j) := funext fun j => (addV_comm _ _).2
  have e3 := addN_comm' a.2.1 b.2.1
  rw [e1, e2, e3.1, e3.2, Bool.or_comm b.2.2 a.2.2]
theorem sameGrads_self (a : dGrads) : sameGradsB a a = true := by
  unfold sameGradsB sameRowsB
  simp
theorem addG_sat (a b : List dRow × Int × Bool) : (!a.2.2 || (addG a b).2.2) = true := by
  unfold addG
  cases a.2.2 <;> simp
end Go.Proofs.Ytkflinobmagiiaa

end
