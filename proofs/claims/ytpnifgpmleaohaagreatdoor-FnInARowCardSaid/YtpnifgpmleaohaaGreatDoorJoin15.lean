import Derived.Test.YtpnifgpmleaohaaGreatDoorJoin11
import Derived.Test.YtpnifgpmleaohaaGreatDoorJoin9
import Derived.Test.YtpnifgpmleaohaaGreatDoorJoin6
/-! YtpnifgpmleaohaaGreatDoorZSeqLawM -/
section

namespace Go.Proofs.YtpnifgpmleaohaaGreatDoor
open Go.RowKit
set_option linter.unusedVariables false

theorem okAt_has {m : List dOp} {j : Nat} (h : okAt m j = true) : dOpOk (opAt m j) = true ∧ (0 < j → (opAt m j).2.1 = (opAt m (j - 1)).2.2.1) := by
  unfold okAt at h
  simp only [Bool.and_eq_true, Bool.or_eq_true, decide_eq_true_eq] at h
  exact ⟨h.1, fun hj => h.2.resolve_left (by omega)⟩
theorem dOpOk_dims {x : dOp} (h : dOpOk x = true) : (1 ≤ x.2.1 ∧ x.2.1 ≤ 6) ∧ (1 ≤ x.2.2.1 ∧ x.2.2.1 ≤ 6) ∧ (x.2.2.2.length : Int) = opSz x.1 x.2.1 x.2.2.1 := by
  unfold dOpOk opOkB at h
  simp only [Bool.and_eq_true, decide_eq_true_eq] at h
  obtain ⟨⟨⟨⟨⟨-, hi⟩, ho⟩, -⟩, hl⟩, -⟩ := h
  exact ⟨inB_has hi, inB_has ho, hl⟩
/-- What goes into each operation is right for it. -/
theorem inK_ok {m : List dOp} {x : List Int} (hm : modelOkB m = true) (hx : vecOkB x = true) (hl : (x.length : Int) = inOfN m) :
    ∀ k, k ≤ m.length → vecOkB (inK m x k) = true ∧ (k < m.length → ((inK m x k).length : Int) = (opAt m k).2.1) ∧ (0 < k → ((inK m x k).length : Int) = (opAt m (k - 1)).2.2.1) := by
  obtain ⟨h1, h2, -⟩ := modelOk_has hm
  intro k
  induction k with
  | zero =>
    intro _
    refine ⟨hx, fun _ => ?_, fun h => absurd h (by omega)⟩
    show (x.length : Int) = _
    rw [hl]
    unfold inOfN
    rw [if_pos hm]
  | succ k ih =>
    intro hk
    obtain ⟨i1, i2, -⟩ := ih (by omega)
    have hok := (okAt_has (h1 k (by omega))).1
    have hfw : fwOk (opAt m k).1 (opAt m k).2.1 (opAt m k).2.2.1 (opAt m k).2.2.2 (inK m x k) = true := by
      unfold fwOk
      unfold dOpOk at hok
      rw [hok, i1, decide_eq_true (i2 (by omega))]
      rfl
    have hs := fw_size hfw
    refine ⟨hs.2, fun hk' => ?_, fun _ => ?_⟩
    · have hc := (okAt_has (h1 (k + 1) hk')).2 (by omega)
      rw [Nat.add_sub_cancel] at hc
      rw [hc]
      exact hs.1
    · rw [Nat.add_sub_cancel]
      exact hs.1
/-- What comes back behind each operation is right for the one ahead. -/
theorem backK_ok {m : List dOp} {x d : List Int} (hm : modelOkB m = true) (hx : vecOkB x = true) (hl : (x.length : Int) = inOfN m) (hd : vecOkB d = true) (hdl : (d.length : Int) = outOfN m) :
    ∀ t, t ≤ m.length → vecOkB (backK m x d t) = true ∧ (t < m.length → ((backK m x d t).length : Int) = (opAt m (m.length - 1 - t)).2.2.1) := by
  obtain ⟨h1, h2, -⟩ := modelOk_has hm
  intro t
  induction t with
  | zero =>
    intro _
    refine ⟨hd, fun _ => ?_⟩
    show (d.length : Int) = _
    rw [hdl]
    unfold outOfN
    rw [if_pos hm, Nat.sub_zero]
  | succ t ih =>
    intro ht
    obtain ⟨b1, b2⟩ := ih (by omega)
    obtain ⟨i1, i2, -⟩ := inK_ok hm hx hl (m.length - 1 - t) (by omega)
    have hok := (okAt_has (h1 (m.length - 1 - t) (by omega))).1
    have hbw : bwOk (opAt m (m.length - 1 - t)).1 (opAt m (m.length - 1 - t)).2.1 (opAt m (m.length - 1 - t)).2.2.1 (opAt m (m.length - 1 - t)).2.2.2 (inK m x (m.length - 1 - t)) (backK m x d t) = true := by
      unfold bwOk fwOk
      unfold dOpOk at hok
      rw [hok, i1, b1, decide_eq_true (i2 (by omega)), decide_eq_true (b2 (by omega))]
      rfl
    have hs := bw_size hbw
    refine ⟨hs.2.1, fun ht' => ?_⟩
    have hc := (okAt_has (h1 (m.length - 1 - t) (by omega))).2 (by omega)
    rw [show m.length - 1 - t - 1 = m.length - 1 - (t + 1) by omega] at hc
    rw [← hc]
    exact hs.1
theorem grad_length {m : List dOp} {x d : List Int} (hm : modelOkB m = true) (hx : vecOkB x = true) (hl : (x.length : Int) = inOfN m) (hd : vecOkB d = true) (hdl : (d.length : Int) = outOfN m) (j : Nat) (hj : j < m.length) :
    (gradAt m x d j).length = (opAt m j).2.2.2.length := by
  obtain ⟨h1, h2, -⟩ := modelOk_has hm
  obtain ⟨b1, b2⟩ := backK_ok hm hx hl hd hdl (m.length - 1 - j) (by omega)
  have e : m.length - 1 - (m.length - 1 - j) = j := by omega
  rw [e] at b2
  obtain ⟨i1, i2, -⟩ := inK_ok hm hx hl j (by omega)
  have hok := (okAt_has (h1 j hj)).1
  have hp := (dOpOk_dims hok).2.2
  have hbw : bwOk (opAt m j).1 (opAt m j).2.1 (opAt m j).2.2.1 (opAt m j).2.2.2 (inK m x j) (backK m x d (m.length - 1 - j)) = true := by
    unfold bwOk fwOk
    unfold dOpOk at hok
    rw [hok, i1, b1, decide_eq_true (i2 hj), decide_eq_true (b2 (by omega))]
    rfl
  have hs := (bw_size hbw).2.2
  have : ((gradAt m x d j).length : Int) = opSz (opAt m j).1 (opAt m j).2.1 (opAt m j).2.2.1 := hs
  omega
theorem pair_has {m : List dOp} {p : dPair} (h : pairOkB (inOfN m) (outOfN m) p = true) : vecOkB p.1 = true ∧ vecOkB p.2 = true ∧ (p.1.length : Int) = inOfN m ∧ (p.2.length : Int) = outOfN m := by
  unfold pairOkB at h
  simp only [Bool.and_eq_true, decide_eq_true_eq] at h
  exact ⟨h.1.1.1, h.1.1.2, h.1.2, h.2⟩
theorem batch_has {m : List dOp} {b : List dPair} (h : batchOkB m b = true) : modelOkB m = true ∧ 1 ≤ b.length ∧ b.length ≤ 5 ∧ ∀ j, j < b.length → pairOkB (inOfN m) (outOfN m) (pairAt b j) = true := by
  unfold batchOkB at h
  simp only [Bool.and_eq_true] at h
  have := inB_has h.1.2
  refine ⟨h.1.1, by omega, by omega, fun j hj => ?_⟩
  rw [pairAt_get (List.getElem?_eq_getElem hj)]
  exact List.all_eq_true.1 h.2 _ (List.getElem_mem hj)
theorem batch_pair {m : List dOp} {p : dPair} (hm : modelOkB m = true) (h : pairOkB (inOfN m) (outOfN m) p = true) : batchOkB m [p] = true := by
  unfold batchOkB
  rw [hm, List.all_cons, h]
  rfl
/-- The gradients of a right pair have the sizes of the parameters; the loss is not below nought. -/
theorem micro_forms {m : List dOp} {p : dPair} (hm : modelOkB m = true) (h : pairOkB (inOfN m) (outOfN m) p = true) :
    (microG m p).1.length = m.length ∧ 0 ≤ (microG m p).2.1 ∧ ∀ j, j < m.length → (rowAt (microG m p).1 j).length = (opAt m j).2.2.2.length := by
  obtain ⟨x1, t1, x2, t2⟩ := pair_has h
  obtain ⟨h1, h2, -⟩ := modelOk_has hm
  obtain ⟨y1, -, y2⟩ := inK_ok hm x1 x2 m.length (Nat.le_refl _)
  have y3 : ((inK m p.1 m.length).length : Int) = outOfN m := by
    rw [y2 (by omega)]
    unfold outOfN
    rw [if_pos hm]
  have hp : pairB (inK m p.1 m.length) p.2 = true := by
    unfold pairB
    rw [y1, t1, decide_eq_true (show (inK m p.1 m.length).length = p.2.length by omega)]
    rfl
  have hd := rowP_ok (f := subN) hp fun j _ => okB_sat _
  have e : microG m p = (gradsN m p.1 (rowP subN (inK m p.1 m.length) p.2), lossN (inK m p.1 m.length) p.2, inKB m p.1 m.length || lossB (inK m p.1 m.length) p.2 || flagP subB (inK m p.1 m.length) p.2 || backKB m p.1 (rowP subN (inK m p.1 m.length) p.2) m.length) := by
    unfold microG
    rw [if_pos (batch_pair hm h)]
  rw [e]
  refine ⟨listK_length _ _, loss_nonneg _ _, fun j hj => ?_⟩
  show (rowAt (gradsN m p.1 (rowP subN (inK m p.1 m.length) p.2)) j).length = _
  unfold gradsN
  rw [rowAt_get (listK_get _ _ _ hj)]
  exact grad_length hm x1 x2 hd.2 (by rw [hd.1]; exact y3) j hj
/-- Nought gradients have a place for each parameter. -/
def rowsSum (l : List dRow) : Nat → Nat
  | 0 => 0
  | k + 1 => rowsSum l k + (rowAt l k).length
theorem sameGrads_self (a : dGrads) : sameGradsB a a = true := by
  unfold sameGradsB sameRowsB
  simp
end Go.Proofs.YtpnifgpmleaohaaGreatDoor

end

/-! YtpnifgpmleaohaaGreatDoorZMatP -/
section

namespace Go.Proofs.YtpnifgpmleaohaaGreatDoor
set_option linter.unusedVariables false

theorem rowK_mapK (f : Int → Int → Int) (xs ys : List Int) (k : Nat) : rowK f xs ys k = mapK (fun j => f (xs.getD j 0) (ys.getD j 0)) k := by
  induction k with
  | zero => rfl
  | succ k ih => rw [rowK, mapK, ih]
theorem flagK_anyK (g : Int → Int → Bool) (xs ys : List Int) (k : Nat) : flagK g xs ys k = anyK (fun j => g (xs.getD j 0) (ys.getD j 0)) k := by
  induction k with
  | zero => rfl
  | succ k ih => rw [flagK, anyK, ih]
theorem scale_row {d : Int} {xs : List Int} (hd : okB d = true) (hx : vecOkB xs = true) : scaleN d xs = mapK (fun k => mulN d (xs.getD k 0)) xs.length ∧ scaleB d xs = anyK (fun k => mulB d (xs.getD k 0)) xs.length := by
  have hp : pairB xs xs = true := by rw [pairB_self]; exact hx
  unfold scaleN scaleB
  rw [hd, rowP_yes _ hp, flagP_yes _ hp, rowK_mapK, flagK_anyK]
  exact ⟨rfl, rfl⟩
/-- The rows that have come are the first k. -/
def CameK {m : Nat} (ys : List (Fin m)) (k : Nat) : Prop := ys.map (fun x => x.1) = List.range k
theorem CameK.snoc {m : Nat} {ys : List (Fin m)} {k : Nat} (h : CameK ys k) (hk : k < m) : CameK (ys ++ [⟨k, hk⟩]) (k + 1) := by
  unfold CameK at h ⊢
  rw [List.map_append, h, List.range_succ]
  rfl
theorem CameK.length {m : Nat} {ys : List (Fin m)} {k : Nat} (h : CameK ys k) : ys.length = k := by
  have := congrArg List.length h
  simpa using this
theorem mapK_range (f : Nat → Int) (k : Nat) : (List.range k).map f = mapK f k := by
  induction k with
  | zero => rfl
  | succ k ih => rw [List.range_succ, List.map_append, ih]; rfl
theorem anyK_range (g : Nat → Bool) (k : Nat) : (List.range k).any g = anyK g k := by
  induction k with
  | zero => rfl
  | succ k ih => rw [List.range_succ, List.any_append, ih]; simp [anyK]
theorem CameK.map {m : Nat} {ys : List (Fin m)} {k : Nat} (h : CameK ys k) (f : Nat → Int) : ys.map (fun x => f x.1) = mapK f k := by
  rw [← mapK_range, ← (show ys.map (fun x => x.1) = List.range k from h), List.map_map]
  rfl
theorem CameK.any {m : Nat} {ys : List (Fin m)} {k : Nat} (h : CameK ys k) (g : Nat → Bool) : ys.any (fun x => g x.1) = anyK g k := by
  rw [← anyK_range, ← (show ys.map (fun x => x.1) = List.range k from h), List.any_map]
  rfl
open Go.RowKit in
/-- Row i, where it lies. -/
theorem row_in {B : Nat} {w : World} {b o n : Nat} {xs : List Int} {m q : Nat} (h : IntsIn B w (some ⟨b, o, none⟩) n xs) (hn : n = m * q) {i : Nat} (hi : i < m) : IntsIn B w (some ⟨b, o + i * q, none⟩) q (rowOf q xs i) := by
  have hle : (i + 1) * q ≤ m * q := Nat.mul_le_mul_right q (by omega)
  have hr := h.room
  rw [Nat.succ_mul] at hle
  refine ⟨rowOf_length (r := m) (by rw [h.len, hn]) hi, by omega, fun k hk => ?_⟩
  obtain ⟨b', o', e, hb', hcell⟩ := h.cells (i * q + k) (by omega)
  cases e
  refine ⟨b, o + i * q, rfl, hb', ?_⟩
  rw [rowOf_get q xs i k hk, Nat.add_assoc]
  exact hcell
end Go.Proofs.YtpnifgpmleaohaaGreatDoor

end
