import Derived.Test.YtpnifgpmleaohaaGreatDoorJoin13
import Derived.Test.YtpnifgpmleaohaaGreatDoorJoin11
import Derived.Test.YtpnifgpmleaohaaGreatDoorJoin8
import Derived.RangeFuncNested
import Derived.RangeFuncBound
import Derived.RangeFuncCalls
import Derived.RangeFuncLeaves
import Derived.RangeFuncBox
import Derived.RangeFuncWrites
import Derived.Shelf.Abstract
import Derived.Sort.QuietIn
import Derived.WalkKit
import Derived.OwnWalkIn
import Derived.TacticsInMore
import Derived.LoopNIn
import Derived.LoopIn
import Derived.Test.YtpnifgpmleaohaaGreatDoorJoin6
import Derived.Test.YtpnifgpmleaohaaGreatDoorJoin3
import Derived.Stop.Asserts
import Derived.Stop.IfaceNil
/-! YtpnifgpmleaohaaGreatDoorSeqLawM -/
section

namespace Go.Proofs.YtpnifgpmleaohaaGreatDoor
open Go.RowKit
set_option linter.unusedVariables false

theorem okAt_has {m : List dOp} {j : Nat} (h : okAt m j = true) : dOpOk (opAt m j) = true ∧ (0 < j → (opAt m j).2.1 = (opAt m (j - 1)).2.2.1) := by
  unfold okAt at h
  simp only [Bool.and_eq_true, Bool.or_eq_true, decide_eq_true_eq] at h
  exact ⟨h.1, fun hj => h.2.resolve_left (by omega)⟩
theorem dOpOk_dims {x : dOp} (h : dOpOk x = true) : (1 ≤ x.2.1 ∧ x.2.1 ≤ 6) ∧ (1 ≤ x.2.2.1 ∧ x.2.2.1 ≤ 6) ∧ (x.2.2.2.length : Int) = opSz x.1 x.2.1 x.2.2.1 := by
  unfold dOpOk opOkB at h
  simp only [Bool.and_eq_true, decide_eq_true_eq] at h
  obtain ⟨⟨⟨⟨⟨-, hi⟩, ho⟩, -⟩, hl⟩, -⟩ := h
  exact ⟨inB_has hi, inB_has ho, hl⟩
/-- InOf and OutOf are above 0 just of a right model. -/
theorem inOf_pos (m : List dOp) : decide (0 < inOfN m) = modelOkB m := by
  unfold inOfN
  cases h : modelOkB m with
  | false => simp
  | true =>
    obtain ⟨h1, h2, -⟩ := modelOk_has h
    have := (dOpOk_dims (okAt_has (h1 0 (by omega))).1).1
    simp only [if_true]
    exact decide_eq_true (by omega)
theorem outOf_pos (m : List dOp) : decide (0 < outOfN m) = modelOkB m := by
  unfold outOfN
  cases h : modelOkB m with
  | false => simp
  | true =>
    obtain ⟨h1, h2, -⟩ := modelOk_has h
    have := (dOpOk_dims (okAt_has (h1 (m.length - 1) (by omega))).1).2.1
    simp only [if_true]
    exact decide_eq_true (by omega)
/-- What goes into each operation is right for it. -/
theorem inK_ok {m : List dOp} {x : List Int} (hm : modelOkB m = true) (hx : vecOkB x = true) (hl : (x.length : Int) = inOfN m) :
    ∀ k, k ≤ m.length → vecOkB (inK m x k) = true ∧ (k < m.length → ((inK m x k).length : Int) = (opAt m k).2.1) ∧ (0 < k → ((inK m x k).length : Int) = (opAt m (k - 1)).2.2.1) := by
  obtain ⟨h1, h2, -⟩ := modelOk_has hm
  intro k
  induction k with
  | zero =>
    intro _
    refine ⟨hx, fun _ => ?_, fun h => absurd h (by omega)⟩
    show (x.length : Int) = _
    rw [hl]
    unfold inOfN
    rw [if_pos hm]
  | succ k ih =>
    intro hk
    obtain ⟨i1, i2, -⟩ := ih (by omega)
    have hok := (okAt_has (h1 k (by omega))).1
    have hfw : fwOk (opAt m k).1 (opAt m k).2.1 (opAt m k).2.2.1 (opAt m k).2.2.2 (inK m x k) = true := by
      unfold fwOk
      unfold dOpOk at hok
      rw [hok, i1, decide_eq_true (i2 (by omega))]
      rfl
    have hs := fw_size hfw
    refine ⟨hs.2, fun hk' => ?_, fun _ => ?_⟩
    · have hc := (okAt_has (h1 (k + 1) hk')).2 (by omega)
      rw [Nat.add_sub_cancel] at hc
      rw [hc]
      exact hs.1
    · rw [Nat.add_sub_cancel]
      exact hs.1
/-- What comes back behind each operation is right for the one ahead. -/
theorem backK_ok {m : List dOp} {x d : List Int} (hm : modelOkB m = true) (hx : vecOkB x = true) (hl : (x.length : Int) = inOfN m) (hd : vecOkB d = true) (hdl : (d.length : Int) = outOfN m) :
    ∀ t, t ≤ m.length → vecOkB (backK m x d t) = true ∧ (t < m.length → ((backK m x d t).length : Int) = (opAt m (m.length - 1 - t)).2.2.1) := by
  obtain ⟨h1, h2, -⟩ := modelOk_has hm
  intro t
  induction t with
  | zero =>
    intro _
    refine ⟨hd, fun _ => ?_⟩
    show (d.length : Int) = _
    rw [hdl]
    unfold outOfN
    rw [if_pos hm, Nat.sub_zero]
  | succ t ih =>
    intro ht
    obtain ⟨b1, b2⟩ := ih (by omega)
    obtain ⟨i1, i2, -⟩ := inK_ok hm hx hl (m.length - 1 - t) (by omega)
    have hok := (okAt_has (h1 (m.length - 1 - t) (by omega))).1
    have hbw : bwOk (opAt m (m.length - 1 - t)).1 (opAt m (m.length - 1 - t)).2.1 (opAt m (m.length - 1 - t)).2.2.1 (opAt m (m.length - 1 - t)).2.2.2 (inK m x (m.length - 1 - t)) (backK m x d t) = true := by
      unfold bwOk fwOk
      unfold dOpOk at hok
      rw [hok, i1, b1, decide_eq_true (i2 (by omega)), decide_eq_true (b2 (by omega))]
      rfl
    have hs := bw_size hbw
    refine ⟨hs.2.1, fun ht' => ?_⟩
    have hc := (okAt_has (h1 (m.length - 1 - t) (by omega))).2 (by omega)
    rw [show m.length - 1 - t - 1 = m.length - 1 - (t + 1) by omega] at hc
    rw [← hc]
    exact hs.1
theorem grad_length {m : List dOp} {x d : List Int} (hm : modelOkB m = true) (hx : vecOkB x = true) (hl : (x.length : Int) = inOfN m) (hd : vecOkB d = true) (hdl : (d.length : Int) = outOfN m) (j : Nat) (hj : j < m.length) :
    (gradAt m x d j).length = (opAt m j).2.2.2.length := by
  obtain ⟨h1, h2, -⟩ := modelOk_has hm
  obtain ⟨b1, b2⟩ := backK_ok hm hx hl hd hdl (m.length - 1 - j) (by omega)
  have e : m.length - 1 - (m.length - 1 - j) = j := by omega
  rw [e] at b2
  obtain ⟨i1, i2, -⟩ := inK_ok hm hx hl j (by omega)
  have hok := (okAt_has (h1 j hj)).1
  have hp := (dOpOk_dims hok).2.2
  have hbw : bwOk (opAt m j).1 (opAt m j).2.1 (opAt m j).2.2.1 (opAt m j).2.2.2 (inK m x j) (backK m x d (m.length - 1 - j)) = true := by
    unfold bwOk fwOk
    unfold dOpOk at hok
    rw [hok, i1, b1, decide_eq_true (i2 hj), decide_eq_true (b2 (by omega))]
    rfl
  have hs := (bw_size hbw).2.2
  have : ((gradAt m x d j).length : Int) = opSz (opAt m j).1 (opAt m j).2.1 (opAt m j).2.2.1 := hs
  omega
theorem pair_has {m : List dOp} {p : dPair} (h : pairOkB (inOfN m) (outOfN m) p = true) : vecOkB p.1 = true ∧ vecOkB p.2 = true ∧ (p.1.length : Int) = inOfN m ∧ (p.2.length : Int) = outOfN m := by
  unfold pairOkB at h
  simp only [Bool.and_eq_true, decide_eq_true_eq] at h
  exact ⟨h.1.1.1, h.1.1.2, h.1.2, h.2⟩
theorem batch_has {m : List dOp} {b : List dPair} (h : batchOkB m b = true) : modelOkB m = true ∧ 1 ≤ b.length ∧ b.length ≤ 5 ∧ ∀ j, j < b.length → pairOkB (inOfN m) (outOfN m) (pairAt b j) = true := by
  unfold batchOkB at h
  simp only [Bool.and_eq_true] at h
  have := inB_has h.1.2
  refine ⟨h.1.1, by omega, by omega, fun j hj => ?_⟩
  rw [pairAt_get (List.getElem?_eq_getElem hj)]
  exact List.all_eq_true.1 h.2 _ (List.getElem_mem hj)
theorem batch_pair {m : List dOp} {p : dPair} (hm : modelOkB m = true) (h : pairOkB (inOfN m) (outOfN m) p = true) : batchOkB m [p] = true := by
  unfold batchOkB
  rw [hm, List.all_cons, h]
  rfl
/-- The gradients of a right pair have the sizes of the parameters; the loss is not below nought. -/
theorem micro_forms {m : List dOp} {p : dPair} (hm : modelOkB m = true) (h : pairOkB (inOfN m) (outOfN m) p = true) :
    (microG m p).1.length = m.length ∧ 0 ≤ (microG m p).2.1 ∧ ∀ j, j < m.length → (rowAt (microG m p).1 j).length = (opAt m j).2.2.2.length := by
  obtain ⟨x1, t1, x2, t2⟩ := pair_has h
  obtain ⟨h1, h2, -⟩ := modelOk_has hm
  obtain ⟨y1, -, y2⟩ := inK_ok hm x1 x2 m.length (Nat.le_refl _)
  have y3 : ((inK m p.1 m.length).length : Int) = outOfN m := by
    rw [y2 (by omega)]
    unfold outOfN
    rw [if_pos hm]
  have hp : pairB (inK m p.1 m.length) p.2 = true := by
    unfold pairB
    rw [y1, t1, decide_eq_true (show (inK m p.1 m.length).length = p.2.length by omega)]
    rfl
  have hd := rowP_ok (f := subN) hp fun j _ => okB_sat _
  have e : microG m p = (gradsN m p.1 (rowP subN (inK m p.1 m.length) p.2), lossN (inK m p.1 m.length) p.2, inKB m p.1 m.length || lossB (inK m p.1 m.length) p.2 || flagP subB (inK m p.1 m.length) p.2 || backKB m p.1 (rowP subN (inK m p.1 m.length) p.2) m.length) := by
    unfold microG
    rw [if_pos (batch_pair hm h)]
  rw [e]
  refine ⟨listK_length _ _, loss_nonneg _ _, fun j hj => ?_⟩
  show (rowAt (gradsN m p.1 (rowP subN (inK m p.1 m.length) p.2)) j).length = _
  unfold gradsN
  rw [rowAt_get (listK_get _ _ _ hj)]
  exact grad_length hm x1 x2 hd.2 (by rw [hd.1]; exact y3) j hj
/-- Nought gradients have a place for each parameter. -/
def rowsSum (l : List dRow) : Nat → Nat
  | 0 => 0
  | k + 1 => rowsSum l k + (rowAt l k).length
theorem sum_snoc {α : Type} (f : α → Nat) (l : List α) (x : α) : Shape.sum f (l ++ [x]) = Shape.sum f l + f x := by
  rw [Shape.sum_append]
  simp [Shape.sum]
theorem rowsSum_take (l : List dRow) : ∀ k, k ≤ l.length → rowsSum l k = Shape.sum (fun (x : dRow) => x.length) (l.take k)
  | 0, _ => by simp [rowsSum, Shape.sum]
  | k + 1, hk => by
    have hx : l[k]? = some l[k] := List.getElem?_eq_getElem (by omega)
    rw [List.take_add_one, hx]
    show rowsSum l k + (rowAt l k).length = Shape.sum _ (l.take k ++ [l[k]])
    rw [sum_snoc, rowsSum_take l k (by omega), rowAt_get hx]
theorem rowsSum_all (l : List dRow) : rowsSum l l.length = Shape.sum (fun (x : dRow) => x.length) l := by
  rw [rowsSum_take l _ (Nat.le_refl _), List.take_length]
theorem opsSum (m : List dOp) : ∀ k, k ≤ m.length → Shape.sum (fun (x : dRow) => x.length) (listK (fun j => noughts (opAt m j).2.2.2.length) k) = Shape.sum (fun (x : dOp) => x.2.2.2.length) (m.take k)
  | 0, _ => by simp [listK, Shape.sum]
  | k + 1, hk => by
    have hx : m[k]? = some m[k] := List.getElem?_eq_getElem (by omega)
    rw [List.take_add_one, hx]
    show Shape.sum _ (listK _ k ++ [_]) = Shape.sum _ (m.take k ++ [m[k]])
    rw [sum_snoc, sum_snoc, opsSum m k (by omega)]
    show _ + (noughts (opAt m k).2.2.2.length).length = _
    rw [opAt_get hx, noughts_length]
theorem zero_words (m : List dOp) : (rowsSum (zeroRows m) (zeroRows m).length : Int) = wordsN m := by
  rw [rowsSum_all]
  unfold zeroRows wordsN
  cases modelOkB m with
  | false => simp [Shape.sum]
  | true =>
    simp only [if_true]
    rw [opsSum m _ (Nat.le_refl _), List.take_length]
theorem rowsSum_le (l : List dRow) (k : Nat) (hk : k ≤ l.length) : rowsSum l k ≤ Shape.sum (fun (x : dRow) => x.length) l := by
  rw [rowsSum_take l k hk]
  exact sum_take_le _ _ _
/-! ### It does not matter which is which -/
theorem addN_comm' (a b : Int) : addN b a = addN a b ∧ addB b a = addB a b := by
  unfold addN addB
  rw [Int.add_comm (sat b) (sat a)]
  exact ⟨rfl, rfl⟩
theorem addV_comm (xs ys : List Int) : addV ys xs = addV xs ys ∧ addVB ys xs = addVB xs ys := by
  unfold addV addVB
  rw [Nat.min_comm]
  generalize min xs.length ys.length = k
  induction k with
  | zero => exact ⟨rfl, rfl⟩
  | succ k ih =>
    have h := addN_comm' (xs.getD k 0) (ys.getD k 0)
    unfold rowK flagK
    rw [ih.1, ih.2, h.1, h.2]
    exact ⟨rfl, rfl⟩
theorem addG_comm (a b : List dRow × Int × Bool) : addG b a = addG a b := by
  unfold addG addRows addRowsB
  rw [Nat.min_comm]
  have e1 : (fun j => addV (rowAt b.1 j) (rowAt a.1 j)) = fun j => addV (rowAt a.1 j) (rowAt b.1 j) := funext fun j => (addV_comm _ _).1
  have e2 : (fun j => addVB (rowAt b.1 j) (rowAt a.1 j)) = fun j => addVB (rowAt a.1 j) (rowAt b.1 j) := funext fun j => (addV_comm _ _).2
  have e3 := addN_comm' a.2.1 b.2.1
  rw [e1, e2, e3.1, e3.2, Bool.or_comm b.2.2 a.2.2]
theorem sameGrads_self (a : dGrads) : sameGradsB a a = true := by
  unfold sameGradsB sameRowsB
  simp
theorem addG_sat (a b : List dRow × Int × Bool) : (!a.2.2 || (addG a b).2.2) = true := by
  unfold addG
  cases a.2.2 <;> simp
end Go.Proofs.YtpnifgpmleaohaaGreatDoor

end

/-! YtpnifgpmleaohaaGreatDoorMatP -/
section

namespace Go.Proofs.YtpnifgpmleaohaaGreatDoor
set_option linter.unusedVariables false

theorem sizes_yes {r c mn mx : Int} (e1 : (if c < r then c else r) = mn) (e2 : (if r < c then c else r) = mx) (h1 : ¬ mn < 1) (h2 : ¬ 6 < mx) : inB 1 6 r = true ∧ inB 1 6 c = true := by
  subst e1
  subst e2
  constructor <;> refine inB_yes ?_ ?_ <;> split at h1 <;> split at h2 <;> omega
theorem sizes_no {r c mn mx : Int} (xs : List Int) (e1 : (if c < r then c else r) = mn) (e2 : (if r < c then c else r) = mx) (h : mn < 1 ∨ 6 < mx) : matOkB r c xs = false := by
  subst e1
  subst e2
  cases hr : inB 1 6 r with
  | false => exact matOkB_r hr
  | true =>
    cases hc : inB 1 6 c with
    | false => exact matOkB_c hc
    | true =>
      have a := inB_has hr
      have b := inB_has hc
      rcases h with h | h <;> split at h <;> omega
theorem all_of_rows {m q : Nat} {xs : List Int} (hq : 1 ≤ q) (hl : xs.length = m * q) (h : ∀ i, i < m → vecOkB (rowOf q xs i) = true) : xs.all okB = true := by
  refine all_of_get fun p hp => ?_
  rw [hl] at hp
  have g1 : p / q < m := Nat.div_lt_of_lt_mul (by rw [Nat.mul_comm]; exact hp)
  have g2 : p % q < q := Nat.mod_lt _ (by omega)
  have g3 : p / q * q + p % q = p := by rw [Nat.mul_comm]; exact Nat.div_add_mod p q
  obtain ⟨_, _, hk⟩ := vecOkB_has (h _ g1)
  have := hk (p % q) (by rw [rowOf_length hl g1]; exact g2)
  rw [rowOf_get _ _ _ _ g2, g3] at this
  exact this
theorem row_bad {m q : Nat} {xs : List Int} (h2 : 1 ≤ q ∧ q ≤ 6) (hl : xs.length = m * q) {i : Nat} (hi : i < m) (h : vecOkB (rowOf q xs i) = false) : xs.all okB = false := by
  cases ha : xs.all okB with
  | false => rfl
  | true =>
    rw [rowOf_ok h2 hl ha hi] at h
    cases h
theorem rowK_mapK (f : Int → Int → Int) (xs ys : List Int) (k : Nat) : rowK f xs ys k = mapK (fun j => f (xs.getD j 0) (ys.getD j 0)) k := by
  induction k with
  | zero => rfl
  | succ k ih => rw [rowK, mapK, ih]
theorem flagK_anyK (g : Int → Int → Bool) (xs ys : List Int) (k : Nat) : flagK g xs ys k = anyK (fun j => g (xs.getD j 0) (ys.getD j 0)) k := by
  induction k with
  | zero => rfl
  | succ k ih => rw [flagK, anyK, ih]
theorem scale_row {d : Int} {xs : List Int} (hd : okB d = true) (hx : vecOkB xs = true) : scaleN d xs = mapK (fun k => mulN d (xs.getD k 0)) xs.length ∧ scaleB d xs = anyK (fun k => mulB d (xs.getD k 0)) xs.length := by
  have hp : pairB xs xs = true := by rw [pairB_self]; exact hx
  unfold scaleN scaleB
  rw [hd, rowP_yes _ hp, flagP_yes _ hp, rowK_mapK, flagK_anyK]
  exact ⟨rfl, rfl⟩
/-- The rows that have come are the first k. -/
def CameK {m : Nat} (ys : List (Fin m)) (k : Nat) : Prop := ys.map (fun x => x.1) = List.range k
theorem CameK.snoc {m : Nat} {ys : List (Fin m)} {k : Nat} (h : CameK ys k) (hk : k < m) : CameK (ys ++ [⟨k, hk⟩]) (k + 1) := by
  unfold CameK at h ⊢
  rw [List.map_append, h, List.range_succ]
  rfl
theorem CameK.length {m : Nat} {ys : List (Fin m)} {k : Nat} (h : CameK ys k) : ys.length = k := by
  have := congrArg List.length h
  simpa using this
theorem CameK.mem {m : Nat} {ys : List (Fin m)} (h : CameK ys m) (x : Fin m) : x ∈ ys := by
  have hx : x.1 ∈ ys.map (fun x => x.1) := by
    rw [show ys.map (fun x => x.1) = List.range m from h]
    exact List.mem_range.2 x.2
  obtain ⟨y, hy, e⟩ := List.mem_map.1 hx
  rw [← Fin.ext e]
  exact hy
theorem mapK_range (f : Nat → Int) (k : Nat) : (List.range k).map f = mapK f k := by
  induction k with
  | zero => rfl
  | succ k ih => rw [List.range_succ, List.map_append, ih]; rfl
theorem anyK_range (g : Nat → Bool) (k : Nat) : (List.range k).any g = anyK g k := by
  induction k with
  | zero => rfl
  | succ k ih => rw [List.range_succ, List.any_append, ih]; simp [anyK]
theorem CameK.map {m : Nat} {ys : List (Fin m)} {k : Nat} (h : CameK ys k) (f : Nat → Int) : ys.map (fun x => f x.1) = mapK f k := by
  rw [← mapK_range, ← (show ys.map (fun x => x.1) = List.range k from h), List.map_map]
  rfl
theorem CameK.any {m : Nat} {ys : List (Fin m)} {k : Nat} (h : CameK ys k) (g : Nat → Bool) : ys.any (fun x => g x.1) = anyK g k := by
  rw [← anyK_range, ← (show ys.map (fun x => x.1) = List.range k from h), List.any_map]
  rfl
open Go.RowKit in
/-- Row i, where it lies. -/
theorem row_in {B : Nat} {w : World} {b o n : Nat} {xs : List Int} {m q : Nat} (h : IntsIn B w (some ⟨b, o, none⟩) n xs) (hn : n = m * q) {i : Nat} (hi : i < m) : IntsIn B w (some ⟨b, o + i * q, none⟩) q (rowOf q xs i) := by
  have hle : (i + 1) * q ≤ m * q := Nat.mul_le_mul_right q (by omega)
  have hr := h.room
  rw [Nat.succ_mul] at hle
  refine ⟨rowOf_length (r := m) (by rw [h.len, hn]) hi, by omega, fun k hk => ?_⟩
  obtain ⟨b', o', e, hb', hcell⟩ := h.cells (i * q + k) (by omega)
  cases e
  refine ⟨b, o + i * q, rfl, hb', ?_⟩
  rw [rowOf_get q xs i k hk, Nat.add_assoc]
  exact hcell
end Go.Proofs.YtpnifgpmleaohaaGreatDoor

end

/-! YtpnifgpmleaohaaGreatDoorChunk -/
section

namespace Go.Proofs.YtpnifgpmleaohaaGreatDoor
open Go.RowKit Go.Shelf
set_option linter.unusedVariables false
attribute [local go_sem] Oper.semAt_some

/-- What a round of a loop over a table's rows keeps: what lay below n₀, and the two cells that the iterator reads. -/
def KeepB (n₀ B1 B2 : Nat) (W W' : World) : Prop := Below n₀ W W' ∧ W'.heap[B1]? = W.heap[B1]? ∧ W'.heap[B2]? = W.heap[B2]?
theorem keepB_t {n₀ B1 B2 : Nat} {A B C : World} (h : KeepB n₀ B1 B2 A B) (k : KeepB n₀ B1 B2 B C) : KeepB n₀ B1 B2 A C := ⟨h.1.trans k.1, k.2.1.trans h.2.1, k.2.2.trans h.2.2⟩
theorem keepB_b {n₀ B1 B2 : Nat} {w : World} (hn : n₀ ≤ w.heap.size) (h1 : B1 < w.heap.size) (h2 : B2 < w.heap.size) (W : World) (l : Nat) (o o' : Obj) (hl : w.heap.size ≤ l) (h : W.heap[l]? = some o) (hc : o.isCells = false) (hw : o.isWalk = false) : KeepB n₀ B1 B2 W (W.putObj l o') :=
  ⟨belowK_b hn W l o o' hl h hc hw, World.putObj_heap_other (by omega), World.putObj_heap_other (by omega)⟩

/-- The rows, as the iterator hands them over. -/
def rowEnc (b o q : Nat) (m : Nat) (x : Fin m) : Array Value := #[.slice (some ⟨b, o + x.1 * q, none⟩) q q]
set_option maxRecDepth 100000 in
set_option maxHeartbeats 2000000 in
/-- The iterator: one row a round. -/
theorem chunk1_in (n : Nat) (hn : 1 ≤ n) (l B1 B2 b o m q N cap : Nat) (hN : N = m * q)
    (hm : m ≤ 6) (hq0 : 1 ≤ q) (hq : q ≤ 6) (hcp : N ≤ cap) (hcap : cap ≤ 9223372036854775807) (Kp : World → World → Prop) (hKp : ∀ X Y, Kp X Y → Y.heap[B1]? = X.heap[B1]? ∧ Y.heap[B2]? = X.heap[B2]?) (J Jx : List (Fin m) → World → Prop)
    (hY : ∀ pre x W, J pre W → pre.length < m → YieldAt Fence.wide (n - 1) Tryz.prog l (rowEnc b o q m x) W fun e W' =>
      (e = .returned (.bool true) ∧ J (pre ++ [x]) W' ∧ Kp W W') ∨ (e = .returned (.bool false) ∧ Jx (pre ++ [x]) W'))
    (W : World) (hJ : AbidesFrom W.heap.size J) (t1 t2 : TypeId) (h1 : Boxed W B1 t1 (.slice (some ⟨b, o, none⟩) N cap)) (h2 : Boxed W B2 t2 (.int .i64 q)) (h0 : J [] W) :
    CallsIn Fence.wide n Tryz.prog 288 #[.func (.yield l) #[] #[], .pointer (some ⟨B1, 0, none⟩), .pointer (some ⟨B2, 0, none⟩)] W fun e W' => (∃ v, e = .returned v) ∧
      ((∃ ys, CameK ys m ∧ J ys W') ∨ (∃ pre, True ∧ Jx pre W')) := by
  have hN36 : N ≤ 36 := by rw [hN]; exact le36 hm hq
  refine callsIn_of_wp Tryz.func288 rfl trivial ?_ rfl
  simp only [Tryz.ntmps288, List.size_toArray, List.length_cons, List.length_nil, Nat.reduceAdd, Nat.reduceSub, Array.replicate_succ, Array.replicate_zero, List.push_toArray, List.append_toArray, List.nil_append, List.cons_append]
  have HY := Lib.hid hY
  have HJ := Lib.hid hJ
  have H1 := Lib.hid h1
  have H2 := Lib.hid h2
  have HN := Lib.hid hN
  clear hY hJ h1 h2 hN
  gi_wp2
  gi_loopw [4] (fun i wr => ∃ (k P : Nat) (pre : List (Fin m)), k ≤ m ∧ P = k * q ∧ i = .int .i64 P ∧ CameK pre k ∧ J pre wr ∧ Boxed wr B1 t1 (.slice (some ⟨b, o, none⟩) N cap) ∧ Boxed wr B2 t2 (.int .i64 q))
    (fun i _ => N - (intOf i).toNat)
  case atStart => exact ⟨0, 0, [], Nat.zero_le _, by simp, rfl, rfl, h0, H1.out, H2.out⟩
  case round =>
    obtain ⟨k, P, pre, hk, hP, rfl, hcame, hJs, b1, b2⟩ := hrel
    have c1 := b1.cell
    have c2 := b2.cell
    by_cases hlt : k < m
    · have hPN : P + q ≤ N := by
        have : (k + 1) * q ≤ m * q := Nat.mul_le_mul_right q (by omega)
        rw [Nat.succ_mul] at this
        rw [HN.out, hP]; exact this
      have e0 : (if (N : Int) - (P : Int) < (q : Int) then (N : Int) - (P : Int) else (q : Int)) = (q : Int) := if_neg (by omega)
      have HP := Lib.hid hP
      clear hP
      gi_wp2
      gi_quiet (fail)
      have hJ1 : J pre (wr.drewN nq) := HJ.out pre wr _ none hJs ⟨rfl, rfl, rfl, Nat.le_refl _, fun _ _ _ => rfl⟩ (fun r e => by cases e)
      have b1' : Boxed (wr.drewN nq) B1 t1 (.slice (some ⟨b, o, none⟩) N cap) := b1
      have b2' : Boxed (wr.drewN nq) B2 t2 (.int .i64 q) := b2
      generalize wr.drewN nq = wd at hJ1 b1' b2' ⊢
      clear c1 c2 b1 b2 hJs
      have c1 := b1'.cell
      have c2 := b2'.cell
      obtain ⟨fn, tmps, assign, body, hy, hR⟩ := HY.out pre ⟨k, hlt⟩ wd hJ1 (by rw [hcame.length]; exact hlt)
      simp only [rowEnc] at hy
      rw [← HP.out] at hy
      have HR := Lib.hid hR
      have HC := Lib.hid (hcame.snoc hlt)
      clear hR
      gi_wp2
      refine HR.out.mono ?_
      rintro e W3 (⟨rfl, hJ3, hk3⟩ | ⟨rfl, hJx3⟩)
      · obtain ⟨k1, k2⟩ := hKp _ _ hk3
        have b1 : Boxed W3 B1 t1 (.slice (some ⟨b, o, none⟩) N cap) := k1.trans b1'
        have b2 : Boxed W3 B2 t2 (.int .i64 q) := k2.trans b2'
        have c1 := b1.cell
        have c2 := b2.cell
        gi_wp2
        go_roundw
        case rel => exact ⟨k + 1, P + q, pre ++ [⟨k, hlt⟩], by omega, by rw [HP.out, Nat.succ_mul], by go_num, HC.out, hJ3, b1, b2⟩
        case measure => simp [intOf]; omega
      · gi_wp2
        refine bodyPost_ret (results_none rfl _ _ _) rfl ?_
        exact ⟨⟨_, rfl⟩, .inr ⟨_, trivial, hJx3⟩⟩
    · have hPN : P = N := by rw [HN.out, hP, show k = m by omega]
      subst hPN
      gi_wp2
      go_end0
      exact ⟨⟨_, rfl⟩, .inl ⟨pre, by rw [show k = m by omega] at hcame; exact hcame, hJs⟩⟩

set_option maxHeartbeats 1000000 in
/-- slices.Chunk: the row and the number lie in cells of their own, which the iterator captures. -/
theorem chunk_in (n : Nat) (a : Option Addr) (len cap : Nat) (q : Int) (hq : 1 ≤ q) (w : World) :
    CallsIn Fence.wide n Tryz.prog 285 #[.slice a len cap, .int .i64 q] w fun e w' =>
      e = .returned (.func (.func 288) #[] #[.pointer (some ⟨w.heap.size, 0, none⟩), .pointer (some ⟨w.heap.size + 1, 0, none⟩)]) ∧
      w' = (w.alloc (.cells #[.slice a len cap] 28 (0, 0))).alloc (.cells #[.int .i64 q] 3 (0, 0)) := by
  have hd : decide (q < 1) = false := decide_eq_false (by omega)
  refine callsIn_of_wp Tryz.func285 rfl trivial ?_ rfl
  simp only [Tryz.ntmps285, List.size_toArray, List.length_cons, List.length_nil, Nat.reduceAdd, Nat.reduceSub, Array.replicate_succ, Array.replicate_zero, List.push_toArray, List.append_toArray, List.nil_append, List.cons_append]
  gi_wp2
  go_ret
  exact ⟨by simp, rfl⟩

/-- What slices.Chunk hands back stops: all rows have come, in order; or the loop was left. -/
theorem chunk_stops (n : Nat) (hn : 1 ≤ n) (B1 B2 b o m q N cap : Nat) (hN : N = m * q) (hm : m ≤ 6) (hq0 : 1 ≤ q) (hq : q ≤ 6) (hcp : N ≤ cap) (hcap : cap ≤ 9223372036854775807)
    (Kp : World → World → Prop) (hKp : ∀ X Y, Kp X Y → Y.heap[B1]? = X.heap[B1]? ∧ Y.heap[B2]? = X.heap[B2]?) (w : World) (t1 t2 : TypeId) (h1 : Boxed w B1 t1 (.slice (some ⟨b, o, none⟩) N cap)) (h2 : Boxed w B2 t2 (.int .i64 q)) :
    SeqStopsK Fence.wide n Tryz.prog 288 #[.pointer (some ⟨B1, 0, none⟩), .pointer (some ⟨B2, 0, none⟩)] (rowEnc b o q m) Kp (fun ys => CameK ys m) (fun _ => True) m w := fun l J Jx W hW hJ _ hY h0 =>
  chunk1_in n hn l B1 B2 b o m q N cap hN hm hq0 hq hcp hcap Kp hKp J Jx hY W hJ t1 t2 ((hW.block B1 h1.lt).trans h1) ((hW.block B2 h2.lt).trans h2) h0

/-! ### Ways out of a function that holds such a loop -/
theorem marks_ret {F : Fence} {n : Nat} {P : Program} {fn : Func} {R : Ending → World → Prop} {a : Act} {w : World} {v : Value} (hd : a.defers = []) (hr : (results fn a.tmps).run P w = .ok v w) (hR : R (.returned v) w) : bodyPostM F n P fn R .ret a w := by
  show LeavesInM F n P fn a.tmps R a.defers .returning w
  rw [hd]
  exact ⟨v, hr, hR⟩
theorem marks_ret1 {F : Fence} {n : Nat} {P : Program} {fn : Func} {R : Ending → World → Prop} {a : Act} {w : World} {v : Value} {D : Nat} (hd : a.defers = [{ target := .collected D, args := #[] }]) (hK : w.heap[D]? = some (.deferred (some [])))
    (hr : (results fn a.tmps).run P (w.putObj D (.deferred none)) = .ok v (w.putObj D (.deferred none))) (hR : R (.returned v) (w.putObj D (.deferred none))) : bodyPostM F n P fn R .ret a w := by
  show LeavesInM F n P fn a.tmps R a.defers .returning w
  rw [hd]
  exact ⟨by simp, .inl ⟨D, _, rfl, run_takeDeferred hK, v, hr, hR⟩⟩
theorem boxed_put {W : World} {B D : Nat} {t : TypeId} {v : Value} (h : Boxed W B t v) (hne : B ≠ D) (o : Obj) : Boxed (W.putObj D o) B t v := (World.putObj_heap_other hne).trans h
theorem below_put {n₀ D : Nat} {W0 W : World} {o : Obj} (h : Below n₀ W0 W) (hD : n₀ ≤ D) (hK : W.heap[D]? = some o) (o' : Obj) : Below n₀ W0 (W.putObj D o') :=
  h.grown (grownBy_putObj' W D o') (by have := (Array.getElem?_eq_some_iff.1 hK).1; omega) (fun k e => by cases e; exact hD)
theorem results_bool {P : Program} {fn : Func} {p : Tmp} {ty : TypeId} (h : fn.results = #[.cell p ty]) (tmps : Array Value) (w : World) (g : Nat) (t : TypeId) (x : Bool) (hp : tmps.getD p undef = .pointer (some ⟨g, 0, none⟩)) (hb : Boxed w g t (.bool x)) (hu : P.underlying ty = some .bool) :
    (results fn tmps).run P w = .ok (.bool x) w := by
  have hp' : tmps[p]?.getD undef = .pointer (some ⟨g, 0, none⟩) := by simpa using hp
  have hc := hb.cell
  simp [results, h, hp', asAddr, loadVar, isAgg, run_underlying hu, hc, go_sem]
end Go.Proofs.YtpnifgpmleaohaaGreatDoor

end

/-! YtpnifgpmleaohaaGreatDoorMatI -/
section

namespace Go.Proofs.YtpnifgpmleaohaaGreatDoor
open Go.RowKit Go.Shelf
set_option linter.unusedVariables false

set_option maxRecDepth 100000 in
set_option maxHeartbeats 1000000 in
theorem implMatOk_any (w : World) (r c : Int) (a : Option Addr) (n cp : Nat) (xs : List Int) (h : IntsIn w.heap.size w a n xs) (hcp : n ≤ cp) (hcap : cp ≤ 9223372036854775807) :
    Calls Tryz.prog 284 #[.agg #[.int .i64 r, .int .i64 c, .slice a n cp]] w fun e w' => e = .returned (.bool (matOkB r c xs)) ∧ Below w.heap.size w w' := by
  have hal : Below w.heap.size w (w.alloc (.cells #[.int .i64 r, .int .i64 c, .slice a n cp] 245 (0, 0))) := (Below.refl _ _).alloc (Nat.le_refl _) _
  have hroom := h.room
  have HX := Lib.hid ((h.below hal (Nat.le_refl _)).le hal.size)
  have HAL := Lib.hid hal
  have HR := Lib.hid (fun w => implDimOk_any r w)
  have HC := Lib.hid (fun w => implDimOk_any c w)
  have HA := Lib.hid (implAllOk_any _ a n cp xs HX.out)
  have hd : matOkB r c xs = (inB 1 6 r && inB 1 6 c && decide ((n : Int) = r * c) && xs.all okB) := by unfold matOkB; rw [h.len]
  rw [hd]
  obtain ⟨q, hq⟩ : ∃ q, xs.all okB = q := ⟨_, rfl⟩
  rw [hq] at HA ⊢
  clear hd hq h hal
  cases hi : inB 1 6 r with
  | false =>
    rw [hi] at HR
    clear hi
    go_enter Tryz.func284, Tryz.ntmps284
    go_wp2_with fail
    refine (HR.out _).mono ?_
    rintro e w' ⟨rfl, rfl⟩
    go_wp2_with fail
    go_ret
    exact ⟨rfl, HAL.out⟩
  | true =>
    cases ho : inB 1 6 c with
    | false =>
      rw [hi] at HR
      rw [ho] at HC
      clear hi ho
      go_enter Tryz.func284, Tryz.ntmps284
      go_wp2_with fail
      refine (HR.out _).mono ?_
      rintro e w' ⟨rfl, rfl⟩
      go_wp2_with fail
      refine (HC.out _).mono ?_
      rintro e w' ⟨rfl, rfl⟩
      go_wp2_with fail
      go_ret
      exact ⟨rfl, HAL.out⟩
    | true =>
      have hp := prod36 hi ho
      obtain ⟨P, hP⟩ : ∃ P, r * c = P := ⟨_, rfl⟩
      have hw : wrap64 (r * c) = P := by rw [IntWalk.wrap64_in (r * c) (by omega)]; exact hP
      rw [hi] at HR
      rw [ho] at HC
      rw [hP] at hp ⊢
      clear hi ho hP
      by_cases hn : (n : Int) = P
      · subst hn
        rw [decide_eq_true rfl]
        clear hp
        go_enter Tryz.func284, Tryz.ntmps284
        go_wp2_with fail
        refine (HR.out _).mono ?_
        rintro e w' ⟨rfl, rfl⟩
        go_wp2_with fail
        refine (HC.out _).mono ?_
        rintro e w' ⟨rfl, rfl⟩
        go_wp2_with fail
        refine HA.out.mono ?_
        rintro e w' ⟨rfl, rfl⟩
        go_wp2_with fail
        go_ret
        exact ⟨by simp, HAL.out⟩
      · have hne : ((n : Int) == P) = false := by simpa using hn
        rw [decide_eq_false hn]
        clear hn hp
        go_enter Tryz.func284, Tryz.ntmps284
        go_wp2_with fail
        refine (HR.out _).mono ?_
        rintro e w' ⟨rfl, rfl⟩
        go_wp2_with fail
        refine (HC.out _).mono ?_
        rintro e w' ⟨rfl, rfl⟩
        go_wp2_with fail
        go_ret
        exact ⟨by simp, HAL.out⟩
end Go.Proofs.YtpnifgpmleaohaaGreatDoor

end

/-! YtpnifgpmleaohaaGreatDoorOpA -/
section

namespace Go.Proofs.YtpnifgpmleaohaaGreatDoor
open Go.RowKit
set_option linter.unusedVariables false

section
variable {P : Program} {t t' xT : TypeId} {v z : Value}
theorem assert_same {fs} (hu : P.underlying t = some (.struct fs)) (w : World) : (Instr.typeAssert (.iface t v) xT t true).run P w = .ok (.tuple #[v, .bool true]) w := by
  simp [Instr.typeAssert, run_underlying hu, go_sem, Result.andThen]
theorem assert_other {fs} (hu : P.underlying t = some (.struct fs)) (hz : (P.info? t).map (·.zero) = some (some z)) (hne : t' ≠ t) (w : World) : (Instr.typeAssert (.iface t' v) xT t true).run P w = .ok (.tuple #[z, .bool false]) w := by
  obtain ⟨j, hj, hz'⟩ := Option.map_eq_some_iff.1 hz
  simp [Instr.typeAssert, run_underlying hu, go_sem, Result.andThen, zeroValue, typeInfo, hj, hz', hne]
theorem assert_nil {fs} (hu : P.underlying t = some (.struct fs)) (hz : (P.info? t).map (·.zero) = some (some z)) (w : World) : (Instr.typeAssert .nilIface xT t true).run P w = .ok (.tuple #[z, .bool false]) w := by
  obtain ⟨j, hj, hz'⟩ := Option.map_eq_some_iff.1 hz
  simp [Instr.typeAssert, run_underlying hu, go_sem, Result.andThen, zeroValue, typeInfo, hj, hz']
end
theorem zeroDense : (Tryz.prog.info? 255).map (·.zero) = some (some (.agg #[.int .i64 0, .int .i64 0, .slice none 0 0])) := by kernel_rfl
theorem zeroRes : (Tryz.prog.info? 262).map (·.zero) = some (some (.agg #[.int .i64 0, .int .i64 0, .slice none 0 0])) := by kernel_rfl
theorem zeroBias : (Tryz.prog.info? 257).map (·.zero) = some (some (.agg #[.slice none 0 0])) := by kernel_rfl
theorem zeroScale : (Tryz.prog.info? 260).map (·.zero) = some (some (.agg #[.slice none 0 0])) := by kernel_rfl
section
variable (v : Value) (w : World)
theorem asDense_Dense : (Instr.typeAssert (.iface 255 v) 221 255 true).run Tryz.prog w = .ok (.tuple #[v, .bool true]) w := assert_same Tryz.underlying255 w
theorem asDense_Bias : (Instr.typeAssert (.iface 257 v) 221 255 true).run Tryz.prog w = .ok (.tuple #[.agg #[.int .i64 0, .int .i64 0, .slice none 0 0], .bool false]) w := assert_other Tryz.underlying255 zeroDense (by decide) w
theorem asDense_Relu : (Instr.typeAssert (.iface 259 v) 221 255 true).run Tryz.prog w = .ok (.tuple #[.agg #[.int .i64 0, .int .i64 0, .slice none 0 0], .bool false]) w := assert_other Tryz.underlying255 zeroDense (by decide) w
theorem asDense_Scale : (Instr.typeAssert (.iface 260 v) 221 255 true).run Tryz.prog w = .ok (.tuple #[.agg #[.int .i64 0, .int .i64 0, .slice none 0 0], .bool false]) w := assert_other Tryz.underlying255 zeroDense (by decide) w
theorem asDense_Res : (Instr.typeAssert (.iface 262 v) 221 255 true).run Tryz.prog w = .ok (.tuple #[.agg #[.int .i64 0, .int .i64 0, .slice none 0 0], .bool false]) w := assert_other Tryz.underlying255 zeroDense (by decide) w
theorem asDense_nil : (Instr.typeAssert .nilIface 221 255 true).run Tryz.prog w = .ok (.tuple #[.agg #[.int .i64 0, .int .i64 0, .slice none 0 0], .bool false]) w := assert_nil Tryz.underlying255 zeroDense w
theorem asRes_Dense : (Instr.typeAssert (.iface 255 v) 221 262 true).run Tryz.prog w = .ok (.tuple #[.agg #[.int .i64 0, .int .i64 0, .slice none 0 0], .bool false]) w := assert_other Tryz.underlying262 zeroRes (by decide) w
theorem asRes_Bias : (Instr.typeAssert (.iface 257 v) 221 262 true).run Tryz.prog w = .ok (.tuple #[.agg #[.int .i64 0, .int .i64 0, .slice none 0 0], .bool false]) w := assert_other Tryz.underlying262 zeroRes (by decide) w
theorem asRes_Relu : (Instr.typeAssert (.iface 259 v) 221 262 true).run Tryz.prog w = .ok (.tuple #[.agg #[.int .i64 0, .int .i64 0, .slice none 0 0], .bool false]) w := assert_other Tryz.underlying262 zeroRes (by decide) w
theorem asRes_Scale : (Instr.typeAssert (.iface 260 v) 221 262 true).run Tryz.prog w = .ok (.tuple #[.agg #[.int .i64 0, .int .i64 0, .slice none 0 0], .bool false]) w := assert_other Tryz.underlying262 zeroRes (by decide) w
theorem asRes_Res : (Instr.typeAssert (.iface 262 v) 221 262 true).run Tryz.prog w = .ok (.tuple #[v, .bool true]) w := assert_same Tryz.underlying262 w
theorem asRes_nil : (Instr.typeAssert .nilIface 221 262 true).run Tryz.prog w = .ok (.tuple #[.agg #[.int .i64 0, .int .i64 0, .slice none 0 0], .bool false]) w := assert_nil Tryz.underlying262 zeroRes w
theorem asBias_Dense : (Instr.typeAssert (.iface 255 v) 221 257 true).run Tryz.prog w = .ok (.tuple #[.agg #[.slice none 0 0], .bool false]) w := assert_other Tryz.underlying257 zeroBias (by decide) w
theorem asBias_Bias : (Instr.typeAssert (.iface 257 v) 221 257 true).run Tryz.prog w = .ok (.tuple #[v, .bool true]) w := assert_same Tryz.underlying257 w
theorem asBias_Relu : (Instr.typeAssert (.iface 259 v) 221 257 true).run Tryz.prog w = .ok (.tuple #[.agg #[.slice none 0 0], .bool false]) w := assert_other Tryz.underlying257 zeroBias (by decide) w
theorem asBias_Scale : (Instr.typeAssert (.iface 260 v) 221 257 true).run Tryz.prog w = .ok (.tuple #[.agg #[.slice none 0 0], .bool false]) w := assert_other Tryz.underlying257 zeroBias (by decide) w
theorem asBias_Res : (Instr.typeAssert (.iface 262 v) 221 257 true).run Tryz.prog w = .ok (.tuple #[.agg #[.slice none 0 0], .bool false]) w := assert_other Tryz.underlying257 zeroBias (by decide) w
theorem asBias_nil : (Instr.typeAssert .nilIface 221 257 true).run Tryz.prog w = .ok (.tuple #[.agg #[.slice none 0 0], .bool false]) w := assert_nil Tryz.underlying257 zeroBias w
theorem asScale_Dense : (Instr.typeAssert (.iface 255 v) 221 260 true).run Tryz.prog w = .ok (.tuple #[.agg #[.slice none 0 0], .bool false]) w := assert_other Tryz.underlying260 zeroScale (by decide) w
theorem asScale_Bias : (Instr.typeAssert (.iface 257 v) 221 260 true).run Tryz.prog w = .ok (.tuple #[.agg #[.slice none 0 0], .bool false]) w := assert_other Tryz.underlying260 zeroScale (by decide) w
theorem asScale_Relu : (Instr.typeAssert (.iface 259 v) 221 260 true).run Tryz.prog w = .ok (.tuple #[.agg #[.slice none 0 0], .bool false]) w := assert_other Tryz.underlying260 zeroScale (by decide) w
theorem asScale_Scale : (Instr.typeAssert (.iface 260 v) 221 260 true).run Tryz.prog w = .ok (.tuple #[v, .bool true]) w := assert_same Tryz.underlying260 w
theorem asScale_Res : (Instr.typeAssert (.iface 262 v) 221 260 true).run Tryz.prog w = .ok (.tuple #[.agg #[.slice none 0 0], .bool false]) w := assert_other Tryz.underlying260 zeroScale (by decide) w
theorem asScale_nil : (Instr.typeAssert .nilIface 221 260 true).run Tryz.prog w = .ok (.tuple #[.agg #[.slice none 0 0], .bool false]) w := assert_nil Tryz.underlying260 zeroScale w
theorem opIface : Tryz.prog.isIface 221 = true := by kernel_rfl
theorem eqNil_nil : (binOp .eql 221 .nilIface .nilIface).run Tryz.prog w = .ok (.bool true) w := run_eql_nil_nil_at w _ opIface
theorem eqNil_some (t : TypeId) : (binOp .eql 221 (.iface t v) .nilIface).run Tryz.prog w = .ok (.bool false) w := run_eql_iface_nil w _ opIface t v
end
end Go.Proofs.YtpnifgpmleaohaaGreatDoor

end
