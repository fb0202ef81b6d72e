import Derived.Test.YtpnifgpmleaohaaGreatDoorJoin23
import Derived.Test.YtpnifgpmleaohaaGreatDoorJoin16
import Derived.Test.YtpnifgpmleaohaaGreatDoorJoin14
/-! YtpnifgpmleaohaaGreatDoorZSeqW -/
section

namespace Go.Proofs.YtpnifgpmleaohaaGreatDoor
open Go.RowKit Go.Shelf
set_option linter.unusedVariables false
attribute [local go_sem] Oper.semAt_some

/-- The places and the closures, as the iterator hands them over: the last one first. -/
def stepEnc (us : List Value) (N : Nat) (x : Fin N) : Array Value := #[.int .i64 ((N - 1 - x.1 : Nat) : Int), us.getD (N - 1 - x.1) .nilFunc]
set_option maxRecDepth 100000 in
set_option maxHeartbeats 2000000 in
theorem back1_in (n : Nat) (hn : 1 ≤ n) (l B1 b N cap : Nat) (us : List Value) (hN1 : 1 ≤ N) (hN8 : N ≤ 8) (Kp : World → World → Prop) (hKp : ∀ X Y, Kp X Y → Y.heap[B1]? = X.heap[B1]? ∧ Y.heap[b]? = X.heap[b]?) (J Jx : List (Fin N) → World → Prop)
    (hY : ∀ pre x W, J pre W → pre.length < N → YieldAt Fence.wide (n - 1) Tryz.prog l (stepEnc us N x) W fun e W' =>
      (e = .returned (.bool true) ∧ J (pre ++ [x]) W' ∧ Kp W W') ∨ (e = .returned (.bool false) ∧ Jx (pre ++ [x]) W'))
    (W : World) (hJ : AbidesFrom W.heap.size J) (t1 : TypeId) (h1 : Boxed W B1 t1 (.slice (some ⟨b, 0, none⟩) N cap)) (h2 : ∀ i, i < N → W.cell? ⟨b, i, none⟩ = some (us.getD i .nilFunc)) (h0 : J [] W) :
    CallsIn Fence.wide n Tryz.prog 203 #[.func (.yield l) #[] #[], .pointer (some ⟨B1, 0, none⟩)] W fun e W' => (∃ v, e = .returned v) ∧
      ((∃ ys, CameK ys N ∧ J ys W') ∨ (∃ pre, True ∧ Jx pre W')) := by
  refine callsIn_of_wp Tryz.func203 rfl trivial ?_ rfl
  simp only [Tryz.ntmps203, List.size_toArray, List.length_cons, List.length_nil, Nat.reduceAdd, Nat.reduceSub, Array.replicate_succ, Array.replicate_zero, List.push_toArray, List.append_toArray, List.nil_append, List.cons_append]
  have HY := Lib.hid hY
  have HJ := Lib.hid hJ
  have H1 := Lib.hid h1
  have H2 := Lib.hid h2
  have c1 := h1.cell
  have hw0 : wrap64 ((N : Int) - 1) = (N : Int) - 1 := by rw [IntWalk.wrap64_in _ (by omega)]
  clear hY hJ h1 h2
  gi_wp2
  gi_loopw [3] (fun i wr => ∃ (k : Nat) (pre : List (Fin N)), k ≤ N ∧ i = .int .i64 ((N : Int) - 1 - (k : Nat)) ∧ CameK pre k ∧ J pre wr ∧ Boxed wr B1 t1 (.slice (some ⟨b, 0, none⟩) N cap) ∧ (∀ i, i < N → wr.cell? ⟨b, i, none⟩ = some (us.getD i .nilFunc)))
    (fun i _ => (intOf i + 1).toNat)
  case atStart => exact ⟨0, [], Nat.zero_le _, by simp, rfl, h0, H1.out, H2.out⟩
  case round =>
    obtain ⟨k, pre, hk, rfl, hcame, hJs, b1, b2⟩ := hrel
    have c1 := b1.cell
    by_cases hlt : k < N
    · obtain ⟨j, hj⟩ : ∃ j, N - 1 - k = j := ⟨_, rfl⟩
      have hjn : j < N := by omega
      have hz : (N : Int) - 1 - (k : Nat) = (j : Nat) := by omega
      have hw1 : wrap64 ((j : Int) - 1) = (j : Int) - 1 := by rw [IntWalk.wrap64_in _ (by omega)]
      have HT1 : Hid ((j : Int) - 1 = (N : Int) - 1 - ((k + 1 : Nat) : Int)) := Lib.hid (by omega)
      have c2 := b2 j hjn
      obtain ⟨U, hU⟩ : ∃ U, us.getD j .nilFunc = U := ⟨_, rfl⟩
      rw [hU] at c2
      have B1H := Lib.hid b1
      have B2H := Lib.hid b2
      obtain ⟨fn, tmps, assign, body, hy, hR⟩ := HY.out pre ⟨k, hlt⟩ wr hJs (by rw [hcame.length]; exact hlt)
      simp only [stepEnc] at hy
      rw [hj, hU] at hy
      have HR := Lib.hid hR
      have HC := Lib.hid (hcame.snoc hlt)
      have HZ := Lib.hid hz
      rw [hz]
      clear hR hz hU hj hJs b1 b2
      gi_wp2
      refine HR.out.mono ?_
      rintro e W3 (⟨rfl, hJ3, hk3⟩ | ⟨rfl, hJx3⟩)
      · obtain ⟨k1, k2⟩ := hKp _ _ hk3
        have b1 : Boxed W3 B1 t1 (.slice (some ⟨b, 0, none⟩) N cap) := k1.trans B1H.out
        have b2 : ∀ i, i < N → W3.cell? ⟨b, i, none⟩ = some (us.getD i .nilFunc) := fun i hi => (World.cell?_of_block (a := ⟨b, i, none⟩) k2).trans (B2H.out i hi)
        have B1K := Lib.hid b1
        have B2K := Lib.hid b2
        clear b1 b2 c1 c2
        gi_wp2
        go_roundw
        case rel => exact ⟨k + 1, pre ++ [⟨k, hlt⟩], by omega, congrArg (Value.int .i64) HT1.out, HC.out, hJ3, B1K.out, B2K.out⟩
        case measure =>
          have h1 := HZ.out
          simp [intOf]
          try omega
      · gi_wp2
        refine bodyPost_ret (results_none rfl _ _ _) rfl ?_
        exact ⟨⟨_, rfl⟩, .inr ⟨_, trivial, hJx3⟩⟩
    · obtain rfl : k = N := by omega
      have hz : (k : Int) - 1 - (k : Nat) = -1 := by omega
      rw [hz]
      clear hz b2
      gi_wp2
      go_end0
      exact ⟨⟨_, rfl⟩, .inl ⟨pre, hcame, hJs⟩⟩
/-- slices.Backward: the list lies in a cell of its own, which the iterator captures. -/
theorem backward_in (n : Nat) (a : Option Addr) (len cap : Nat) (w : World) :
    CallsIn Fence.wide n Tryz.prog 157 #[.slice a len cap] w fun e w' =>
      e = .returned (.func (.func 203) #[] #[.pointer (some ⟨w.heap.size, 0, none⟩)]) ∧
      w' = w.alloc (.cells #[.slice a len cap] 125 (0, 0)) := by
  refine callsIn_of_wp Tryz.func157 rfl trivial ?_ rfl
  simp only [Tryz.ntmps157, List.size_toArray, List.length_cons, List.length_nil, Nat.reduceAdd, Nat.reduceSub, Array.replicate_succ, Array.replicate_zero, List.push_toArray, List.append_toArray, List.nil_append, List.cons_append]
  gi_wp2
  go_ret
  exact ⟨by simp, rfl⟩
theorem back_stops (n : Nat) (hn : 1 ≤ n) (B1 b N cap : Nat) (us : List Value) (hN1 : 1 ≤ N) (hN8 : N ≤ 8) (Kp : World → World → Prop) (hKp : ∀ X Y, Kp X Y → Y.heap[B1]? = X.heap[B1]? ∧ Y.heap[b]? = X.heap[b]?) (w : World) (t1 : TypeId) (h1 : Boxed w B1 t1 (.slice (some ⟨b, 0, none⟩) N cap))
    (hb : b < w.heap.size) (h2 : ∀ i, i < N → w.cell? ⟨b, i, none⟩ = some (us.getD i .nilFunc)) :
    SeqStopsK Fence.wide n Tryz.prog 203 #[.pointer (some ⟨B1, 0, none⟩)] (stepEnc us N) Kp (fun ys => CameK ys N) (fun _ => True) N w := fun l J Jx W hW hJ _ hY h0 =>
  back1_in n hn l B1 b N cap us hN1 hN8 Kp hKp J Jx hY W hJ t1 ((hW.block B1 h1.lt).trans h1) (fun i hi => (World.cell?_of_block (a := ⟨b, i, none⟩) (hW.block b hb)).trans (h2 i hi)) h0
end Go.Proofs.YtpnifgpmleaohaaGreatDoor

end

/-! YtpnifgpmleaohaaGreatDoorZSeqB -/
section

namespace Go.Proofs.YtpnifgpmleaohaaGreatDoor
open Go.RowKit Go.Sort
set_option linter.unusedVariables false

theorem listK_set {α : Type} (f : Nat → α) (n j : Nat) (y : α) (hj : j < n) : (listK f n).set j y = listK (fun i => if i = j then y else f i) n := by
  apply List.ext_getElem?
  intro i
  by_cases hi : i < n
  · rw [listK_get _ _ _ hi]
    by_cases e : i = j
    · subst e
      rw [List.getElem?_set_self (by rw [listK_length]; exact hj), if_pos rfl]
    · rw [List.getElem?_set_ne (fun e' => e e'.symm), listK_get _ _ _ hi, if_neg e]
  · rw [List.getElem?_eq_none (by rw [List.length_set, listK_length]; omega), List.getElem?_eq_none (by rw [listK_length]; omega)]
/-- A list of rows that is made whole: each is nothing. -/
theorem ListL.made (w : World) (n : Nat) (h : n ≤ 9223372036854775807) : ListL ownRow 56 w.heap.size (w.alloc (.cells (madeCells #[.slice none 0 0] n) 56 (0, 0))).heap.size (w.alloc (.cells (madeCells #[.slice none 0 0] n) 56 (0, 0))) (.slice (some ⟨w.heap.size, 0, none⟩) n n) (listK (fun _ => ([] : List Int)) n) := by
  have h3 := World.ownsRow_lit (base := w.heap.size) (e := 56) (size := 1) w (madeCells #[.slice none 0 0] n) n (Nat.le_refl _) (by unfold maxLen; omega) (by rw [size_madeCells, Nat.mul_one])
  rw [toList_madeCells_one] at h3
  refine ⟨Nat.le_refl _, List.replicate n (.slice none 0 0), fun _ _ _ => False, by rw [listK_length]; exact h3, fun g hg => ?_, fun j y hy => ?_, fun j b o f => f.elim, fun j j' _ b o f => f.elim⟩
  · have e : w.heap.size = g := by simpa [Value.ownBlock] using hg
    rw [size_one']
    omega
  · have hj : j < n := by
      have := (List.getElem?_eq_some_iff.1 hy).1
      rwa [listK_length] at this
    rw [listK_get _ _ _ hj] at hy
    cases hy
    refine ⟨[.slice none 0 0], fun i v hv => ?_, none, 0, 0, rfl, Nat.le_refl _, by omega, rfl, .inl rfl⟩
    cases i with
    | zero =>
      simp at hv
      subst hv
      rw [ownRow_size, Nat.mul_one, Nat.add_zero, List.getElem?_replicate, if_pos hj]
    | succ i => simp at hv
/-- Where a list that is not empty lies: a place may be written. -/
theorem ListL.place {T : TypeId} {lo hi : Nat} {w : World} {a : Option Addr} {n c : Nat} {xs : List dRow} (h : ListL ownRow T lo hi w (.slice a n c) xs) (j : Nat) (hj : j < n) :
    ∃ g u, a = some ⟨g, 0, none⟩ ∧ lo ≤ g ∧ g < hi ∧ w.cell? ⟨g, j, none⟩ = some u ∧ w.frozen? ⟨g, j, none⟩ = false ∧ n = xs.length := by
  obtain ⟨us, G, h1, h2, -⟩ := h.all
  have h1' := h1
  have hus := h1.1
  rcases h1.2 with ⟨e, hn⟩ | ⟨g, cap, cur, e, e1, e2, e3, e4, -⟩
  · simp only [Value.slice.injEq] at e
    omega
  · cases e
    rw [ownRow_size, Nat.mul_one] at hus
    refine ⟨g, _, rfl, e1, h2 g rfl, (World.ownsRow.cellAt h1' j (by show j < xs.length * 1; omega)).trans (List.getElem?_eq_getElem (by omega)), World.ownsRow.frozenAt h1' j, rfl⟩
end Go.Proofs.YtpnifgpmleaohaaGreatDoor

end
