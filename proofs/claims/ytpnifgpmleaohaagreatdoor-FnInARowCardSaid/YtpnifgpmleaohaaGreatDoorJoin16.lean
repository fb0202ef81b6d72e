import Derived.RangeFuncNested
import Derived.RangeFuncBound
import Derived.RangeFuncCalls
import Derived.RangeFuncLeaves
import Derived.RangeFuncBox
import Derived.RangeFuncWrites
import Derived.Shelf.Abstract
import Derived.Sort.QuietIn
import Derived.WalkKit
import Derived.OwnWalkIn
import Derived.TacticsInMore
import Derived.LoopNIn
import Derived.LoopIn
import Derived.Test.YtpnifgpmleaohaaGreatDoorJoin15
import Derived.Test.YtpnifgpmleaohaaGreatDoorJoin6
import Derived.Test.YtpnifgpmleaohaaGreatDoorJoin7
/-! YtpnifgpmleaohaaGreatDoorZChunk -/
section

namespace Go.Proofs.YtpnifgpmleaohaaGreatDoor
open Go.RowKit Go.Shelf
set_option linter.unusedVariables false
attribute [local go_sem] Oper.semAt_some

/-- What a round of a loop over a table's rows keeps: what lay below n₀, and the two cells that the iterator reads. -/
def KeepB (n₀ B1 B2 : Nat) (W W' : World) : Prop := Below n₀ W W' ∧ W'.heap[B1]? = W.heap[B1]? ∧ W'.heap[B2]? = W.heap[B2]?
theorem keepB_t {n₀ B1 B2 : Nat} {A B C : World} (h : KeepB n₀ B1 B2 A B) (k : KeepB n₀ B1 B2 B C) : KeepB n₀ B1 B2 A C := ⟨h.1.trans k.1, k.2.1.trans h.2.1, k.2.2.trans h.2.2⟩
theorem keepB_b {n₀ B1 B2 : Nat} {w : World} (hn : n₀ ≤ w.heap.size) (h1 : B1 < w.heap.size) (h2 : B2 < w.heap.size) (W : World) (l : Nat) (o o' : Obj) (hl : w.heap.size ≤ l) (h : W.heap[l]? = some o) (hc : o.isCells = false) (hw : o.isWalk = false) : KeepB n₀ B1 B2 W (W.putObj l o') :=
  ⟨belowK_b hn W l o o' hl h hc hw, World.putObj_heap_other (by omega), World.putObj_heap_other (by omega)⟩

/-- The rows, as the iterator hands them over. -/
def rowEnc (b o q : Nat) (m : Nat) (x : Fin m) : Array Value := #[.slice (some ⟨b, o + x.1 * q, none⟩) q q]
set_option maxRecDepth 100000 in
set_option maxHeartbeats 2000000 in
/-- The iterator: one row a round. -/
theorem chunk1_in (n : Nat) (hn : 1 ≤ n) (l B1 B2 b o m q N cap : Nat) (hN : N = m * q)
    (hm : m ≤ 6) (hq0 : 1 ≤ q) (hq : q ≤ 6) (hcp : N ≤ cap) (hcap : cap ≤ 9223372036854775807) (Kp : World → World → Prop) (hKp : ∀ X Y, Kp X Y → Y.heap[B1]? = X.heap[B1]? ∧ Y.heap[B2]? = X.heap[B2]?) (J Jx : List (Fin m) → World → Prop)
    (hY : ∀ pre x W, J pre W → pre.length < m → YieldAt Fence.wide (n - 1) Tryz.prog l (rowEnc b o q m x) W fun e W' =>
      (e = .returned (.bool true) ∧ J (pre ++ [x]) W' ∧ Kp W W') ∨ (e = .returned (.bool false) ∧ Jx (pre ++ [x]) W'))
    (W : World) (hJ : AbidesFrom W.heap.size J) (t1 t2 : TypeId) (h1 : Boxed W B1 t1 (.slice (some ⟨b, o, none⟩) N cap)) (h2 : Boxed W B2 t2 (.int .i64 q)) (h0 : J [] W) :
    CallsIn Fence.wide n Tryz.prog 288 #[.func (.yield l) #[] #[], .pointer (some ⟨B1, 0, none⟩), .pointer (some ⟨B2, 0, none⟩)] W fun e W' => (∃ v, e = .returned v) ∧
      ((∃ ys, CameK ys m ∧ J ys W') ∨ (∃ pre, True ∧ Jx pre W')) := by
  have hN36 : N ≤ 36 := by rw [hN]; exact le36 hm hq
  refine callsIn_of_wp Tryz.func288 rfl trivial ?_ rfl
  simp only [Tryz.ntmps288, List.size_toArray, List.length_cons, List.length_nil, Nat.reduceAdd, Nat.reduceSub, Array.replicate_succ, Array.replicate_zero, List.push_toArray, List.append_toArray, List.nil_append, List.cons_append]
  have HY := Lib.hid hY
  have HJ := Lib.hid hJ
  have H1 := Lib.hid h1
  have H2 := Lib.hid h2
  have HN := Lib.hid hN
  clear hY hJ h1 h2 hN
  gi_wp2
  gi_loopw [4] (fun i wr => ∃ (k P : Nat) (pre : List (Fin m)), k ≤ m ∧ P = k * q ∧ i = .int .i64 P ∧ CameK pre k ∧ J pre wr ∧ Boxed wr B1 t1 (.slice (some ⟨b, o, none⟩) N cap) ∧ Boxed wr B2 t2 (.int .i64 q))
    (fun i _ => N - (intOf i).toNat)
  case atStart => exact ⟨0, 0, [], Nat.zero_le _, by simp, rfl, rfl, h0, H1.out, H2.out⟩
  case round =>
    obtain ⟨k, P, pre, hk, hP, rfl, hcame, hJs, b1, b2⟩ := hrel
    have c1 := b1.cell
    have c2 := b2.cell
    by_cases hlt : k < m
    · have hPN : P + q ≤ N := by
        have : (k + 1) * q ≤ m * q := Nat.mul_le_mul_right q (by omega)
        rw [Nat.succ_mul] at this
        rw [HN.out, hP]; exact this
      have e0 : (if (N : Int) - (P : Int) < (q : Int) then (N : Int) - (P : Int) else (q : Int)) = (q : Int) := if_neg (by omega)
      have HP := Lib.hid hP
      clear hP
      gi_wp2
      gi_quiet (fail)
      have hJ1 : J pre (wr.drewN nq) := HJ.out pre wr _ none hJs ⟨rfl, rfl, rfl, Nat.le_refl _, fun _ _ _ => rfl⟩ (fun r e => by cases e)
      have b1' : Boxed (wr.drewN nq) B1 t1 (.slice (some ⟨b, o, none⟩) N cap) := b1
      have b2' : Boxed (wr.drewN nq) B2 t2 (.int .i64 q) := b2
      generalize wr.drewN nq = wd at hJ1 b1' b2' ⊢
      clear c1 c2 b1 b2 hJs
      have c1 := b1'.cell
      have c2 := b2'.cell
      obtain ⟨fn, tmps, assign, body, hy, hR⟩ := HY.out pre ⟨k, hlt⟩ wd hJ1 (by rw [hcame.length]; exact hlt)
      simp only [rowEnc] at hy
      rw [← HP.out] at hy
      have HR := Lib.hid hR
      have HC := Lib.hid (hcame.snoc hlt)
      clear hR
      gi_wp2
      refine HR.out.mono ?_
      rintro e W3 (⟨rfl, hJ3, hk3⟩ | ⟨rfl, hJx3⟩)
      · obtain ⟨k1, k2⟩ := hKp _ _ hk3
        have b1 : Boxed W3 B1 t1 (.slice (some ⟨b, o, none⟩) N cap) := k1.trans b1'
        have b2 : Boxed W3 B2 t2 (.int .i64 q) := k2.trans b2'
        have c1 := b1.cell
        have c2 := b2.cell
        gi_wp2
        go_roundw
        case rel => exact ⟨k + 1, P + q, pre ++ [⟨k, hlt⟩], by omega, by rw [HP.out, Nat.succ_mul], by go_num, HC.out, hJ3, b1, b2⟩
        case measure => simp [intOf]; omega
      · gi_wp2
        refine bodyPost_ret (results_none rfl _ _ _) rfl ?_
        exact ⟨⟨_, rfl⟩, .inr ⟨_, trivial, hJx3⟩⟩
    · have hPN : P = N := by rw [HN.out, hP, show k = m by omega]
      subst hPN
      gi_wp2
      go_end0
      exact ⟨⟨_, rfl⟩, .inl ⟨pre, by rw [show k = m by omega] at hcame; exact hcame, hJs⟩⟩

set_option maxHeartbeats 1000000 in
/-- slices.Chunk: the row and the number lie in cells of their own, which the iterator captures. -/
theorem chunk_in (n : Nat) (a : Option Addr) (len cap : Nat) (q : Int) (hq : 1 ≤ q) (w : World) :
    CallsIn Fence.wide n Tryz.prog 285 #[.slice a len cap, .int .i64 q] w fun e w' =>
      e = .returned (.func (.func 288) #[] #[.pointer (some ⟨w.heap.size, 0, none⟩), .pointer (some ⟨w.heap.size + 1, 0, none⟩)]) ∧
      w' = (w.alloc (.cells #[.slice a len cap] 28 (0, 0))).alloc (.cells #[.int .i64 q] 3 (0, 0)) := by
  have hd : decide (q < 1) = false := decide_eq_false (by omega)
  refine callsIn_of_wp Tryz.func285 rfl trivial ?_ rfl
  simp only [Tryz.ntmps285, List.size_toArray, List.length_cons, List.length_nil, Nat.reduceAdd, Nat.reduceSub, Array.replicate_succ, Array.replicate_zero, List.push_toArray, List.append_toArray, List.nil_append, List.cons_append]
  gi_wp2
  go_ret
  exact ⟨by simp, rfl⟩

/-- What slices.Chunk hands back stops: all rows have come, in order; or the loop was left. -/
theorem chunk_stops (n : Nat) (hn : 1 ≤ n) (B1 B2 b o m q N cap : Nat) (hN : N = m * q) (hm : m ≤ 6) (hq0 : 1 ≤ q) (hq : q ≤ 6) (hcp : N ≤ cap) (hcap : cap ≤ 9223372036854775807)
    (Kp : World → World → Prop) (hKp : ∀ X Y, Kp X Y → Y.heap[B1]? = X.heap[B1]? ∧ Y.heap[B2]? = X.heap[B2]?) (w : World) (t1 t2 : TypeId) (h1 : Boxed w B1 t1 (.slice (some ⟨b, o, none⟩) N cap)) (h2 : Boxed w B2 t2 (.int .i64 q)) :
    SeqStopsK Fence.wide n Tryz.prog 288 #[.pointer (some ⟨B1, 0, none⟩), .pointer (some ⟨B2, 0, none⟩)] (rowEnc b o q m) Kp (fun ys => CameK ys m) (fun _ => True) m w := fun l J Jx W hW hJ _ hY h0 =>
  chunk1_in n hn l B1 B2 b o m q N cap hN hm hq0 hq hcp hcap Kp hKp J Jx hY W hJ t1 t2 ((hW.block B1 h1.lt).trans h1) ((hW.block B2 h2.lt).trans h2) h0

/-! ### Ways out of a function that holds such a loop -/
theorem marks_ret {F : Fence} {n : Nat} {P : Program} {fn : Func} {R : Ending → World → Prop} {a : Act} {w : World} {v : Value} (hd : a.defers = []) (hr : (results fn a.tmps).run P w = .ok v w) (hR : R (.returned v) w) : bodyPostM F n P fn R .ret a w := by
  show LeavesInM F n P fn a.tmps R a.defers .returning w
  rw [hd]
  exact ⟨v, hr, hR⟩
theorem marks_ret1 {F : Fence} {n : Nat} {P : Program} {fn : Func} {R : Ending → World → Prop} {a : Act} {w : World} {v : Value} {D : Nat} (hd : a.defers = [{ target := .collected D, args := #[] }]) (hK : w.heap[D]? = some (.deferred (some [])))
    (hr : (results fn a.tmps).run P (w.putObj D (.deferred none)) = .ok v (w.putObj D (.deferred none))) (hR : R (.returned v) (w.putObj D (.deferred none))) : bodyPostM F n P fn R .ret a w := by
  show LeavesInM F n P fn a.tmps R a.defers .returning w
  rw [hd]
  exact ⟨by simp, .inl ⟨D, _, rfl, run_takeDeferred hK, v, hr, hR⟩⟩
theorem below_put {n₀ D : Nat} {W0 W : World} {o : Obj} (h : Below n₀ W0 W) (hD : n₀ ≤ D) (hK : W.heap[D]? = some o) (o' : Obj) : Below n₀ W0 (W.putObj D o') :=
  h.grown (grownBy_putObj' W D o') (by have := (Array.getElem?_eq_some_iff.1 hK).1; omega) (fun k e => by cases e; exact hD)
end Go.Proofs.YtpnifgpmleaohaaGreatDoor

end

/-! YtpnifgpmleaohaaGreatDoorZMatI -/
section

namespace Go.Proofs.YtpnifgpmleaohaaGreatDoor
open Go.RowKit Go.Shelf
set_option linter.unusedVariables false

set_option maxRecDepth 100000 in
set_option maxHeartbeats 1000000 in
theorem implMatOk_any (w : World) (r c : Int) (a : Option Addr) (n cp : Nat) (xs : List Int) (h : IntsIn w.heap.size w a n xs) (hcp : n ≤ cp) (hcap : cp ≤ 9223372036854775807) :
    Calls Tryz.prog 284 #[.agg #[.int .i64 r, .int .i64 c, .slice a n cp]] w fun e w' => e = .returned (.bool (matOkB r c xs)) ∧ Below w.heap.size w w' := by
  have hal : Below w.heap.size w (w.alloc (.cells #[.int .i64 r, .int .i64 c, .slice a n cp] 245 (0, 0))) := (Below.refl _ _).alloc (Nat.le_refl _) _
  have hroom := h.room
  have HX := Lib.hid ((h.below hal (Nat.le_refl _)).le hal.size)
  have HAL := Lib.hid hal
  have HR := Lib.hid (fun w => implDimOk_any r w)
  have HC := Lib.hid (fun w => implDimOk_any c w)
  have HA := Lib.hid (implAllOk_any _ a n cp xs HX.out)
  have hd : matOkB r c xs = (inB 1 6 r && inB 1 6 c && decide ((n : Int) = r * c) && xs.all okB) := by unfold matOkB; rw [h.len]
  rw [hd]
  obtain ⟨q, hq⟩ : ∃ q, xs.all okB = q := ⟨_, rfl⟩
  rw [hq] at HA ⊢
  clear hd hq h hal
  cases hi : inB 1 6 r with
  | false =>
    rw [hi] at HR
    clear hi
    go_enter Tryz.func284, Tryz.ntmps284
    go_wp2_with fail
    refine (HR.out _).mono ?_
    rintro e w' ⟨rfl, rfl⟩
    go_wp2_with fail
    go_ret
    exact ⟨rfl, HAL.out⟩
  | true =>
    cases ho : inB 1 6 c with
    | false =>
      rw [hi] at HR
      rw [ho] at HC
      clear hi ho
      go_enter Tryz.func284, Tryz.ntmps284
      go_wp2_with fail
      refine (HR.out _).mono ?_
      rintro e w' ⟨rfl, rfl⟩
      go_wp2_with fail
      refine (HC.out _).mono ?_
      rintro e w' ⟨rfl, rfl⟩
      go_wp2_with fail
      go_ret
      exact ⟨rfl, HAL.out⟩
    | true =>
      have hp := prod36 hi ho
      obtain ⟨P, hP⟩ : ∃ P, r * c = P := ⟨_, rfl⟩
      have hw : wrap64 (r * c) = P := by rw [IntWalk.wrap64_in (r * c) (by omega)]; exact hP
      rw [hi] at HR
      rw [ho] at HC
      rw [hP] at hp ⊢
      clear hi ho hP
      by_cases hn : (n : Int) = P
      · subst hn
        rw [decide_eq_true rfl]
        clear hp
        go_enter Tryz.func284, Tryz.ntmps284
        go_wp2_with fail
        refine (HR.out _).mono ?_
        rintro e w' ⟨rfl, rfl⟩
        go_wp2_with fail
        refine (HC.out _).mono ?_
        rintro e w' ⟨rfl, rfl⟩
        go_wp2_with fail
        refine HA.out.mono ?_
        rintro e w' ⟨rfl, rfl⟩
        go_wp2_with fail
        go_ret
        exact ⟨by simp, HAL.out⟩
      · have hne : ((n : Int) == P) = false := by simpa using hn
        rw [decide_eq_false hn]
        clear hn hp
        go_enter Tryz.func284, Tryz.ntmps284
        go_wp2_with fail
        refine (HR.out _).mono ?_
        rintro e w' ⟨rfl, rfl⟩
        go_wp2_with fail
        refine (HC.out _).mono ?_
        rintro e w' ⟨rfl, rfl⟩
        go_wp2_with fail
        go_ret
        exact ⟨by simp, HAL.out⟩
end Go.Proofs.YtpnifgpmleaohaaGreatDoor

end
