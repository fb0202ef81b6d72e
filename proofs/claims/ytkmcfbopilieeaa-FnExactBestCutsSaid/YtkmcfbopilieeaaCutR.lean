/-
  The program's next way: riseFrom, slices.Backward over numbers, toNextWay.
-/
import Derived.Test.YtkmcfbopilieeaaCutM
import Derived.Test.YtkmcfbopilieeaaChunk
import Derived.Test.YtkmcfbopilieeaaRowsIter
import Derived.Sort.CutIn
namespace Go.Proofs.Ytkmcfbopilieeaa
open Go.RowKit Go.Shelf
set_option linter.unusedVariables false
attribute [local go_sem] Oper.semAt_some

/-- From a place on, each is one more than the one ahead. -/
def riseK (l : List Int) (i : Nat) (f : Int) : Nat → List Int
  | 0 => l
  | k + 1 => (riseK l i f k).set (i + k) (f + (k : Int))
theorem riseK_length (l : List Int) (i : Nat) (f : Int) (k : Nat) : (riseK l i f k).length = l.length := by
  induction k with
  | zero => rfl
  | succ k ih => rw [riseK, List.length_set, ih]
theorem riseK_get (l : List Int) (i : Nat) (f : Int) : ∀ (k j : Nat), i + k ≤ l.length → (riseK l i f k).getD j 0 = if i ≤ j ∧ j < i + k then f + ((j - i : Nat) : Int) else l.getD j 0
  | 0, j, _ => by rw [if_neg (by omega)]; rfl
  | k + 1, j, h => by
    have ih := riseK_get l i f k j (by omega)
    have hl := riseK_length l i f k
    unfold riseK
    rw [List.getD_eq_getElem?_getD, List.getElem?_set]
    by_cases e : i + k = j
    · subst e
      rw [if_pos rfl, if_pos (by omega), if_pos (by omega)]
      rw [show i + k - i = k by omega]
      rfl
    · rw [if_neg e, ← List.getD_eq_getElem?_getD, ih]
      by_cases h1 : i ≤ j ∧ j < i + k
      · rw [if_pos h1, if_pos (by omega)]
      · rw [if_neg h1, if_neg (by omega)]
theorem rise_next {l : List Int} {i n : Nat} (hl : l.length = n) (hi : i < n) : riseK l i (l.getD i 0 + 1) (n - i) = nextAt l i := by
  refine List.ext_getElem (by rw [riseK_length]; unfold nextAt; rw [mapK_length]) fun j h1 h2 => ?_
  rw [riseK_length, hl] at h1
  have e1 := riseK_get l i (l.getD i 0 + 1) (n - i) j (by omega)
  have e2 := mapK_get (fun j => if j < i then l.getD j 0 else l.getD i 0 + 1 + ((j - i : Nat) : Int)) l.length j (by omega)
  rw [List.getD_eq_getElem?_getD, List.getElem?_eq_getElem (by rw [riseK_length]; omega)] at e1
  rw [List.getD_eq_getElem?_getD, List.getElem?_eq_getElem (by rw [mapK_length]; omega)] at e2
  simp only [Option.getD_some] at e1 e2
  rw [e1]
  refine Eq.trans ?_ e2.symm
  by_cases hj : j < i
  · rw [if_neg (by omega), if_pos hj]
  · rw [if_pos (by omega), if_neg hj]
theorem rise_first (c : Nat) : riseK (List.replicate c 0) 0 1 c = firstW c := by
  have hl : (List.replicate c (0 : Int)).length = c := by simp
  refine List.ext_getElem (by rw [riseK_length, hl]; unfold firstW; rw [mapK_length]) fun j h1 h2 => ?_
  rw [riseK_length, hl] at h1
  have e1 := riseK_get (List.replicate c 0) 0 1 c j (by rw [hl]; omega)
  have e2 := mapK_get (fun j => 1 + (j : Int)) c j h1
  rw [List.getD_eq_getElem?_getD, List.getElem?_eq_getElem (by rw [riseK_length, hl]; omega)] at e1
  rw [List.getD_eq_getElem?_getD, List.getElem?_eq_getElem (by rw [mapK_length]; omega)] at e2
  simp only [Option.getD_some] at e1 e2
  rw [e1, if_pos (by omega)]
  refine Eq.trans ?_ e2.symm
  rw [Nat.sub_zero]

/-- What a call leaves: the row at g has turned into another one; nothing else that lay. -/
def RowTurned (base g n cap : Nat) (l' : List Int) (w w' : World) : Prop := Row base w' (.slice (some ⟨g, 0, none⟩) n cap) l' ∧ w.grownBy w' (some g)
set_option maxRecDepth 100000 in
set_option maxHeartbeats 1600000 in
theorem implRiseFrom_any (w : World) (base g n cap : Nat) (l : List Int) (hrow : Row base w (.slice (some ⟨g, 0, none⟩) n cap) l) (hl : l.length = n) (hn : n ≤ 7) (i : Nat) (hi : i ≤ n) (c' : Nat) (f : Int) (hf : 0 ≤ f ∧ f ≤ 100) :
    Calls Try.prog 64 #[.slice (some ⟨g, i, none⟩) (n - i) c', .int .i64 f] w fun e w' => (∃ v, e = .returned v) ∧ RowTurned base g n cap (riseK l i f (n - i)) w w' := by
  have HR := Lib.hid hrow
  have HL := Lib.hid hl
  obtain ⟨D, hD⟩ : ∃ D, n - i = D := ⟨_, rfl⟩
  rw [hD]
  have hiD : i + D = n := by omega
  clear hrow hl hD
  go_enter Try.func64, Try.ntmps64
  go_wp2_with fail
  go_loopw [7] (fun q wr => ∃ k : Nat, k ≤ D ∧ q = .int .i64 k ∧ Hid (RowTurned base g n cap (riseK l i f k) w wr)) (fun q _ => D - (intOf q).toNat)
  case atStart => exact ⟨0, Nat.zero_le _, rfl, Lib.hid ⟨HR.out, ⟨rfl, rfl, rfl, Nat.le_refl _, fun _ _ _ => rfl⟩⟩⟩
  case round =>
    obtain ⟨k, hk, rfl, hrt⟩ := hrel
    by_cases hlt : k < D
    · have hrl : (riseK l i f k).length = n := by rw [riseK_length]; exact HL.out
      have hown : wr.ownsRow base 3 1 (.slice (some ⟨g, 0, none⟩) n cap) n (icells (riseK l i f k)) := by
        have h1 := hrt.out.1
        unfold Row at h1
        rw [hrl] at h1
        exact h1
      have hst := World.ownsRow.stored hown (i + k) (.int .i64 (f + (k : Int)))
      rw [icells_set] at hst
      have hfr := World.ownsRow.frozenAt hown (i + k)
      obtain ⟨u, hu⟩ : ∃ u, wr.cell? ⟨g, i + k, none⟩ = some u := by
        rw [World.ownsRow.cellAt hown (i + k) (by omega)]
        exact ⟨_, List.getElem?_eq_getElem (by rw [icells_length, hrl]; omega)⟩
      have HNX : Hid (RowTurned base g n cap (riseK l i f (k + 1)) w (wr.setCell ⟨g, i + k, none⟩ (.int .i64 (f + (k : Int))))) := Lib.hid ⟨by
        unfold Row
        rw [riseK_length, HL.out]
        exact hst.1, grownBy_trans' hrt.out.2 hst.2⟩
      have hw0 : wrap64 (f + (k : Int)) = f + (k : Int) := IntWalk.wrap64_in _ (by omega)
      clear hown hst hrl
      go_wp2_with fail
      go_roundw
      case rel => exact ⟨k + 1, by omega, by go_num, HNX⟩
      case measure => simp [intOf]; omega
    · obtain rfl : k = D := by omega
      go_wp2_with fail
      go_end0
      exact ⟨⟨_, rfl⟩, hrt.out⟩
/-! ### slices.Backward over numbers -/
def intEnc (xs : List Int) (N : Nat) (x : Fin N) : Array Value := #[.int .i64 ((N - 1 - x.1 : Nat) : Int), .int .i64 (xs.getD (N - 1 - x.1) 0)]
set_option maxRecDepth 100000 in
set_option maxHeartbeats 2000000 in
theorem backI1_in (n : Nat) (hn : 1 ≤ n) (l B1 b N cap : Nat) (xs : List Int) (hN8 : N ≤ 8) (Kp : World → World → Prop) (hKp : ∀ X Y, Kp X Y → Y.heap[B1]? = X.heap[B1]? ∧ Y.heap[b]? = X.heap[b]?) (J Jx : List (Fin N) → World → Prop)
    (hY : ∀ pre x W, J pre W → pre.length < N → YieldAt Fence.wide (n - 1) Try.prog l (intEnc xs N x) W fun e W' =>
      (e = .returned (.bool true) ∧ J (pre ++ [x]) W' ∧ Kp W W') ∨ (e = .returned (.bool false) ∧ Jx (pre ++ [x]) W'))
    (W : World) (hJ : AbidesFrom W.heap.size J) (t1 : TypeId) (h1 : Boxed W B1 t1 (.slice (some ⟨b, 0, none⟩) N cap)) (h2 : ∀ i, i < N → W.cell? ⟨b, i, none⟩ = some (.int .i64 (xs.getD i 0))) (h0 : J [] W) :
    CallsIn Fence.wide n Try.prog 86 #[.func (.yield l) #[] #[], .pointer (some ⟨B1, 0, none⟩)] W fun e W' => (∃ v, e = .returned v) ∧
      ((∃ ys, CameK ys N ∧ J ys W') ∨ (∃ pre, (∃ k, CameK pre k) ∧ Jx pre W')) := by
  refine callsIn_of_wp Try.func86 rfl trivial ?_ rfl
  simp only [Try.ntmps86, List.size_toArray, List.length_cons, List.length_nil, Nat.reduceAdd, Nat.reduceSub, Array.replicate_succ, Array.replicate_zero, List.push_toArray, List.append_toArray, List.nil_append, List.cons_append]
  have HY := Lib.hid hY
  have HJ := Lib.hid hJ
  have H1 := Lib.hid h1
  have H2 := Lib.hid h2
  have c1 := h1.cell
  have hw0 : wrap64 ((N : Int) - 1) = (N : Int) - 1 := by rw [IntWalk.wrap64_in _ (by omega)]
  clear hY hJ h1 h2
  gi_wp2
  gi_loopw [3] (fun i wr => ∃ (k : Nat) (pre : List (Fin N)), k ≤ N ∧ i = .int .i64 ((N : Int) - 1 - (k : Nat)) ∧ CameK pre k ∧ J pre wr ∧ Boxed wr B1 t1 (.slice (some ⟨b, 0, none⟩) N cap) ∧ (∀ i, i < N → wr.cell? ⟨b, i, none⟩ = some (.int .i64 (xs.getD i 0))))
    (fun i _ => (intOf i + 1).toNat)
  case atStart => exact ⟨0, [], Nat.zero_le _, by simp, rfl, h0, H1.out, H2.out⟩
  case round =>
    obtain ⟨k, pre, hk, rfl, hcame, hJs, b1, b2⟩ := hrel
    have c1 := b1.cell
    by_cases hlt : k < N
    · obtain ⟨j, hj⟩ : ∃ j, N - 1 - k = j := ⟨_, rfl⟩
      have hjn : j < N := by omega
      have hz : (N : Int) - 1 - (k : Nat) = (j : Nat) := by omega
      have hw1 : wrap64 ((j : Int) - 1) = (j : Int) - 1 := by rw [IntWalk.wrap64_in _ (by omega)]
      have HT1 : Hid ((j : Int) - 1 = (N : Int) - 1 - ((k + 1 : Nat) : Int)) := Lib.hid (by omega)
      have c2 := b2 j hjn
      obtain ⟨U, hU⟩ : ∃ U, xs.getD j 0 = U := ⟨_, rfl⟩
      rw [hU] at c2
      have B1H := Lib.hid b1
      have B2H := Lib.hid b2
      obtain ⟨fn, tmps, assign, body, hy, hR⟩ := HY.out pre ⟨k, hlt⟩ wr hJs (by rw [hcame.length]; exact hlt)
      simp only [intEnc] at hy
      rw [hj, hU] at hy
      have HR := Lib.hid hR
      have HC := Lib.hid (hcame.snoc hlt)
      have HZ := Lib.hid hz
      rw [hz]
      clear hR hz hU hj hJs b1 b2
      gi_wp2
      refine HR.out.mono ?_
      rintro e W3 (⟨rfl, hJ3, hk3⟩ | ⟨rfl, hJx3⟩)
      · obtain ⟨k1, k2⟩ := hKp _ _ hk3
        have b1 : Boxed W3 B1 t1 (.slice (some ⟨b, 0, none⟩) N cap) := k1.trans B1H.out
        have b2 : ∀ i, i < N → W3.cell? ⟨b, i, none⟩ = some (.int .i64 (xs.getD i 0)) := fun i hi => (World.cell?_of_block (a := ⟨b, i, none⟩) k2).trans (B2H.out i hi)
        have B1K := Lib.hid b1
        have B2K := Lib.hid b2
        clear b1 b2 c1 c2
        gi_wp2
        go_roundw
        case rel => exact ⟨k + 1, pre ++ [⟨k, hlt⟩], by omega, congrArg (Value.int .i64) HT1.out, HC.out, hJ3, B1K.out, B2K.out⟩
        case measure =>
          have h1 := HZ.out
          simp [intOf]
          try omega
      · gi_wp2
        refine bodyPost_ret (results_none rfl _ _ _) rfl ?_
        exact ⟨⟨_, rfl⟩, .inr ⟨_, ⟨_, HC.out⟩, hJx3⟩⟩
    · obtain rfl : k = N := by omega
      have hz : (k : Int) - 1 - (k : Nat) = -1 := by omega
      rw [hz]
      clear hz b2
      gi_wp2
      go_end0
      exact ⟨⟨_, rfl⟩, .inl ⟨pre, hcame, hJs⟩⟩
theorem backwardI_in (n : Nat) (a : Option Addr) (len cap : Nat) (w : World) :
    CallsIn Fence.wide n Try.prog 81 #[.slice a len cap] w fun e w' =>
      e = .returned (.func (.func 86) #[] #[.pointer (some ⟨w.heap.size, 0, none⟩)]) ∧
      w' = w.alloc (.cells #[.slice a len cap] 29 (0, 0)) := by
  refine callsIn_of_wp Try.func81 rfl trivial ?_ rfl
  simp only [Try.ntmps81, List.size_toArray, List.length_cons, List.length_nil, Nat.reduceAdd, Nat.reduceSub, Array.replicate_succ, Array.replicate_zero, List.push_toArray, List.append_toArray, List.nil_append, List.cons_append]
  gi_wp2
  go_ret
  exact ⟨by simp, rfl⟩
theorem backI_stops (n : Nat) (hn : 1 ≤ n) (B1 b N cap : Nat) (xs : List Int) (hN8 : N ≤ 8) (Kp : World → World → Prop) (hKp : ∀ X Y, Kp X Y → Y.heap[B1]? = X.heap[B1]? ∧ Y.heap[b]? = X.heap[b]?) (w : World) (t1 : TypeId) (h1 : Boxed w B1 t1 (.slice (some ⟨b, 0, none⟩) N cap))
    (hb : b < w.heap.size) (h2 : ∀ i, i < N → w.cell? ⟨b, i, none⟩ = some (.int .i64 (xs.getD i 0))) :
    SeqStopsK Fence.wide n Try.prog 86 #[.pointer (some ⟨B1, 0, none⟩)] (intEnc xs N) Kp (fun ys => CameK ys N) (fun pre => ∃ k, CameK pre k) N w := fun l J Jx W hW hJ _ hY h0 =>
  backI1_in n hn l B1 b N cap xs hN8 Kp hKp J Jx hY W hJ t1 ((hW.block B1 h1.lt).trans h1) (fun i hi => (World.cell?_of_block (a := ⟨b, i, none⟩) (hW.block b hb)).trans (h2 i hi)) h0
/-! ### toNextWay -/
def NextAt (N n : Nat) (l : List Int) : Option Nat → Prop
  | none => ∀ j, j < n → stuckB N l j = true
  | some i => i < n ∧ stuckB N l i = false ∧ ∀ j, i < j → j < n → stuckB N l j = true
def nextL (l : List Int) : Option Nat → List Int
  | none => l
  | some i => nextAt l i
theorem stuck_yes {N n : Nat} {l : List Int} {j : Nat} {V : Int} (hl : l.length = n) (hV : l.getD j 0 = V) (h : ¬ V + ((n - j : Nat) : Int) < (N : Int)) : stuckB N l j = true := by
  unfold stuckB
  rw [hV, hl, decide_eq_false h]
  rfl
theorem stuck_no {N n : Nat} {l : List Int} {j : Nat} {V : Int} (hl : l.length = n) (hV : l.getD j 0 = V) (h : V + ((n - j : Nat) : Int) < (N : Int)) : stuckB N l j = false := by
  unfold stuckB
  rw [hV, hl, decide_eq_true h]
  rfl
/-- What lies between two rounds of toNextWay. -/
def NextInv (w : World) (g n cap N : Nat) (l : List Int) (pre : List (Fin n)) (W : World) : Prop :=
  (Boxed W w.heap.size 29 (.slice (some ⟨g, 0, none⟩) n cap) ∧ Boxed W (w.heap.size + 1) 3 (.int .i64 N) ∧ Boxed W (w.heap.size + 1 + 1) 4 (.bool false) ∧ ∀ x ∈ pre, stuckB N l (n - 1 - x.1) = true) ∧ Below w.heap.size w W
/-- What a round leaves that has found the next way. -/
def NextEnd (w : World) (base g n cap N : Nat) (l : List Int) (c : Code) (pre : List (Fin n)) (W : World) : Prop :=
  c = .ret ∧ ∃ (ys : List (Fin n)) (x : Fin n), pre = ys ++ [x] ∧ (∀ y ∈ ys, stuckB N l (n - 1 - y.1) = true) ∧ stuckB N l (n - 1 - x.1) = false ∧ Row base W (.slice (some ⟨g, 0, none⟩) n cap) (nextAt l (n - 1 - x.1)) ∧ w.grownBy W (some g) ∧ Boxed W (w.heap.size + 1 + 1) 4 (.bool true)
theorem nextInv_own (w : World) (g n cap N : Nat) (l : List Int) (S : Nat) (hS : w.heap.size ≤ S) : OwnFrom S (NextInv w g n cap N l) := by
  refine OwnFrom.and (Own.from (fun s A B row hs hg hr => ?_) S) (ownFrom_below (Nat.le_refl _) hS)
  have kb : ∀ (b : Nat) (t : TypeId) (v : Value), Boxed A b t v → Boxed B b t v := fun b t v hb => boxed_own b t (fun _ : Unit => v) () A B row hb hg hr
  exact ⟨kb _ _ _ hs.1, kb _ _ _ hs.2.1, kb _ _ _ hs.2.2.1, hs.2.2.2⟩
theorem nextEnd_own (w : World) (base g n cap N : Nat) (l : List Int) (S : Nat) (hS : w.heap.size ≤ S) (hg0 : g < w.heap.size) (c : Code) : OwnFrom S (NextEnd w base g n cap N l c) := by
  rintro s A B row ⟨hc, ys, x, h1, h2, h3, h4, h5, h6⟩ hg hr
  refine ⟨hc, ys, x, h1, h2, h3, h4.kept hg (.inr fun e => ?_), ?_, boxed_own (w.heap.size + 1 + 1) 4 (fun _ : Unit => Value.bool true) () A B row h6 hg fun r e => (hr r e).2⟩
  · have := (hr g e.symm).1
    omega
  · exact ⟨hg.os.trans h5.os, hg.tape.trans h5.tape, hg.output.trans h5.output, Nat.le_trans h5.size hg.size, fun b hb hne => (hg.block b (Nat.lt_of_lt_of_le hb h5.size) (fun e => by have := (hr b e.symm).1; omega)).trans (h5.block b hb hne)⟩
theorem grown_below8 {B : Nat} {w W W' : World} {g : Nat} (h : Below w.heap.size w W) (hg : W.grownBy W' (some g)) : w.grownBy W' (some g) :=
  ⟨hg.os.trans h.os, hg.tape.trans h.tape, hg.output.trans h.output, Nat.le_trans h.size hg.size, fun b hb hne => (hg.block b (Nat.lt_of_lt_of_le hb h.size) hne).trans (h.block b hb)⟩
theorem grown_set8 {w W : World} {g B : Nat} (h : w.grownBy W (some g)) (hB : w.heap.size ≤ B) (u : Value) : w.grownBy (W.setCell ⟨B, 0, none⟩ u) (some g) :=
  ⟨h.os, h.tape, h.output, by simpa using h.size, fun b hb hne => (Below.heap_setCell _ _ _ _ (by show b ≠ B; omega)).trans (h.block b hb hne)⟩
theorem grown_put8 {w W : World} {g D : Nat} {o : Obj} (h : w.grownBy W (some g)) (hD : w.heap.size ≤ D) : w.grownBy (W.putObj D o) (some g) :=
  ⟨h.os, h.tape, h.output, by simpa using h.size, fun b hb hne => (World.putObj_heap_other (by omega)).trans (h.block b hb hne)⟩
theorem came_last8 {n k : Nat} {ys : List (Fin n)} {x : Fin n} (h : CameK (ys ++ [x]) k) : CameK ys x.1 := by
  have hl := h.length
  rw [List.length_append] at hl
  unfold CameK at h ⊢
  have hk : k = ys.length + 1 := by simpa using hl.symm
  rw [hk, List.map_append, List.range_succ] at h
  have h2 := List.append_inj h (by simp)
  have h3 : x.1 = ys.length := by simpa using h2.2
  rw [h3]
  exact h2.1
theorem came_has8 {n k t : Nat} {ys : List (Fin n)} (h : CameK ys k) (ht : t < k) : ∃ y ∈ ys, y.1 = t := by
  have h1 : t ∈ ys.map (fun x => x.1) := by
    rw [show ys.map (fun x => x.1) = List.range k from h]
    exact List.mem_range.2 ht
  obtain ⟨y, hy, e⟩ := List.mem_map.1 h1
  exact ⟨y, hy, e⟩
theorem next_none {N n : Nat} {l : List Int} {q : Option Nat} (hq : NextAt N n l q) (h : ∀ j, j < n → stuckB N l j = true) : q = none := by
  cases q with
  | none => rfl
  | some i =>
    have h1 := h i hq.1
    rw [hq.2.1] at h1
    cases h1
theorem next_some {N n : Nat} {l : List Int} {q : Option Nat} {j : Nat} (hq : NextAt N n l q) (hj : j < n) (h1 : stuckB N l j = false) (h2 : ∀ i, j < i → i < n → stuckB N l i = true) : q = some j := by
  cases q with
  | none =>
    have := hq j hj
    rw [h1] at this
    cases this
  | some i =>
    obtain ⟨q1, q2, q3⟩ := hq
    by_cases e : i = j
    · rw [e]
    · exfalso
      by_cases hlt : i < j
      · have := q3 j hlt hj
        rw [h1] at this
        cases this
      · have := h2 i (by omega) q1
        rw [q2] at this
        cases this
set_option maxRecDepth 100000 in
set_option maxHeartbeats 3000000 in
theorem implToNextWay_any (w : World) (base g n cap : Nat) (l : List Int) (N : Nat) (hrow : Row base w (.slice (some ⟨g, 0, none⟩) n cap) l) (hl : l.length = n) (hn : n ≤ 7) (hN : N ≤ 8) (hcap : n ≤ cap) (hcap2 : cap ≤ 9223372036854775807)
    (hv : ∀ j, j < n → 0 ≤ l.getD j 0 ∧ l.getD j 0 ≤ 8) (q : Option Nat) (hq : NextAt N n l q) :
    Calls Try.prog 65 #[.slice (some ⟨g, 0, none⟩) n cap, .int .i64 N] w fun e w' => e = .returned (.bool q.isSome) ∧ RowTurned base g n cap (nextL l q) w w' := by
  refine (callsIn_wide (n := 6)).1 ?_
  refine callsIn_of_wp_marks Try.func65 rfl trivial ?_ rfl
  simp only [Try.ntmps65, List.size_toArray, List.length_cons, List.length_nil, Nat.reduceAdd, Nat.reduceSub, Array.replicate_succ, Array.replicate_zero, List.push_toArray, List.append_toArray, List.nil_append, List.cons_append]
  have hgl : g < w.heap.size := (World.ownsRow.lt hrow g rfl).2
  have hbg : base ≤ g := (World.ownsRow.lt hrow g rfl).1
  have hA1 := (Below.refl w.heap.size w).alloc (Nat.le_refl _) (.cells #[.slice (some ⟨g, 0, none⟩) n cap] 29 (0, 0))
  have hA3 := (hA1.alloc (by simp) (.cells #[.int .i64 N] 3 (0, 0))).alloc (by simp; omega) (.cells #[.bool false] 4 (0, 0))
  have hb1 : Boxed (((w.alloc (.cells #[.slice (some ⟨g, 0, none⟩) n cap] 29 (0, 0))).alloc (.cells #[.int .i64 N] 3 (0, 0))).alloc (.cells #[.bool false] 4 (0, 0))) w.heap.size 29 (.slice (some ⟨g, 0, none⟩) n cap) := ((Boxed.new w 29 _).alloc _).alloc _
  have hb2 : Boxed (((w.alloc (.cells #[.slice (some ⟨g, 0, none⟩) n cap] 29 (0, 0))).alloc (.cells #[.int .i64 N] 3 (0, 0))).alloc (.cells #[.bool false] 4 (0, 0))) (w.heap.size + 1) 3 (.int .i64 N) := by
    have := Boxed.new (w.alloc (.cells #[.slice (some ⟨g, 0, none⟩) n cap] 29 (0, 0))) 3 (.int .i64 N)
    rw [World.size_alloc] at this
    exact this.alloc _
  have hb3 : Boxed (((w.alloc (.cells #[.slice (some ⟨g, 0, none⟩) n cap] 29 (0, 0))).alloc (.cells #[.int .i64 N] 3 (0, 0))).alloc (.cells #[.bool false] 4 (0, 0))) (w.heap.size + 1 + 1) 4 (.bool false) := by
    have := Boxed.new ((w.alloc (.cells #[.slice (some ⟨g, 0, none⟩) n cap] 29 (0, 0))).alloc (.cells #[.int .i64 N] 3 (0, 0))) 4 (.bool false)
    rw [World.size_alloc, World.size_alloc] at this
    exact this
  have hs3 : (((w.alloc (.cells #[.slice (some ⟨g, 0, none⟩) n cap] 29 (0, 0))).alloc (.cells #[.int .i64 N] 3 (0, 0))).alloc (.cells #[.bool false] 4 (0, 0))).heap.size = w.heap.size + 3 := by simp
  have HR := Lib.hid hrow
  have HL := Lib.hid hl
  have HV := Lib.hid hv
  have HQ := Lib.hid hq
  have c1 := hb1.cell
  clear hrow hl hv hq hA1
  gi_wp2
  generalize ((w.alloc (.cells #[.slice (some ⟨g, 0, none⟩) n cap] 29 (0, 0))).alloc (.cells #[.int .i64 N] 3 (0, 0))).alloc (.cells #[.bool false] 4 (0, 0)) = wa at hA3 hb1 hb2 hb3 hs3 c1 ⊢
  refine ⟨trivial, ?_⟩
  refine (backwardI_in _ _ _ _ _).mono ?_
  rintro e w' ⟨rfl, rfl⟩
  have hbn := (Below.refl wa.heap.size wa).alloc (Nat.le_refl _) (.cells #[.slice (some ⟨g, 0, none⟩) n cap] 29 (0, 0))
  have hbs := Boxed.new wa 29 (.slice (some ⟨g, 0, none⟩) n cap)
  have hs4 : (wa.alloc (.cells #[.slice (some ⟨g, 0, none⟩) n cap] 29 (0, 0))).heap.size = w.heap.size + 4 := by simp; omega
  rw [hs3] at hbs
  have HA := Lib.hid (hA3.trans (hbn.mono (by omega)))
  have HB1 := Lib.hid (hb1.alloc (.cells #[.slice (some ⟨g, 0, none⟩) n cap] 29 (0, 0)))
  have HB2 := Lib.hid (hb2.alloc (.cells #[.slice (some ⟨g, 0, none⟩) n cap] 29 (0, 0)))
  have HB3 := Lib.hid (hb3.alloc (.cells #[.slice (some ⟨g, 0, none⟩) n cap] 29 (0, 0)))
  have HBS := Lib.hid hbs
  clear hA3 hb1 hb2 hb3 hbn hbs c1
  gi_wp2
  generalize wa.alloc (.cells #[.slice (some ⟨g, 0, none⟩) n cap] 29 (0, 0)) = W0 at hs4 HA HB1 HB2 HB3 HBS ⊢
  have hrw : ∀ (W : World), Below w.heap.size w W → Row base W (.slice (some ⟨g, 0, none⟩) n cap) l := fun W h => HR.out.below h
  have HRW := Lib.hid hrw
  have hcell : ∀ (W : World), Below w.heap.size w W → ∀ i, i < n → W.cell? ⟨g, i, none⟩ = some (.int .i64 (l.getD i 0)) := fun W h i hi => by
    have h1 := hrw W h
    unfold Row at h1
    rw [HL.out] at h1
    rw [World.ownsRow.cellAt h1 i (by omega)]
    exact icells_get l i (by rw [HL.out]; exact hi)
  have HCL := Lib.hid hcell
  have hI0 : NextInv w g n cap N l [] W0 := ⟨⟨HB1.out, HB2.out, HB3.out, fun x hx => by cases hx⟩, HA.out⟩
  clear hrw hcell
  refine wpIn_rangeFunc_ownG rfl (by omega) (gf := 86) (lb := #[.pointer (some ⟨w.heap.size + 3, 0, none⟩)]) rfl trivial (enters_of Try.func86 (by kernel_rfl) rfl)
    (backI_stops _ (by omega) (w.heap.size + 3) g n cap l (by omega) (KeepB w.heap.size (w.heap.size + 3) g) (fun X Y h => h.2) W0 _ HBS.out (by omega) (HCL.out W0 HA.out))
    keepB_t (keepB_b (by omega) (by omega) (by omega)) (Below.refl _ _) (fun _ => rfl)
    (NextInv w g n cap N l)
    (NextEnd w base g n cap N l)
    (nextInv_own w g n cap N l W0.heap.size (by omega))
    (nextEnd_own w base g n cap N l W0.heap.size (by omega) hgl)
    hI0 ?a1 ?assign ?body ?done ?stop
  case assign =>
    intro l x W K hK
    simp only [intEnc]
    gi_wp2
    exact hK
  case body =>
    rintro lp pre x W ⟨⟨b1, b2, b3, hpre⟩, hB⟩ hlen'
    obtain ⟨j, hj⟩ : ∃ j, n - 1 - x.1 = j := ⟨_, rfl⟩
    have hjn : j < n := by omega
    obtain ⟨V, hV⟩ : ∃ V, l.getD j 0 = V := ⟨_, rfl⟩
    have hV2 : l[j]?.getD 0 = V := by rw [← List.getD_eq_getElem?_getD]; exact hV
    obtain ⟨E, hE⟩ : ∃ E, (n : Int) - (j : Int) = E := ⟨_, rfl⟩
    have hD : ((n - j : Nat) : Int) = E := by omega
    have hv8 := HV.out j hjn
    rw [hV] at hv8
    have hw2 : wrap64 (V + E) = V + E := IntWalk.wrap64_in _ (by omega)
    have c1 := b1.cell
    have c2 := b2.cell
    have HB := Lib.hid hB
    have HB3 := Lib.hid b3
    have HPR := Lib.hid hpre
    have HB1 := Lib.hid b1
    have HB2 := Lib.hid b2
    simp only [hj, hV2]
    by_cases ht : V + E < (N : Int)
    · have htd : decide (V + E < (N : Int)) = true := decide_eq_true ht
      have HS := Lib.hid (stuck_no (N := N) HL.out hV (by rw [hD]; exact ht))
      have hcj : ¬ cap = j := by omega
      have hw3 : wrap64 (V + 1) = V + 1 := IntWalk.wrap64_in _ (by omega)
      have HT := Lib.hid (implRiseFrom_any W base g n cap l (HRW.out W HB.out) HL.out hn j (by omega) (cap - j) (V + 1) ⟨by omega, by omega⟩)
      have HJ := Lib.hid hj
      have HVV := Lib.hid hV
      clear hB b1 b2 b3 hpre hj hV hV2 hD
      gi_wp2
      refine ⟨trivial, ?_⟩
      refine (callsIn_wide.2 HT.out).mono ?_
      rintro e W1 ⟨⟨v, rfl⟩, hr, hg⟩
      have hbo : Boxed W1 (w.heap.size + 1 + 1) 4 (.bool false) := HB3.out.kept hg (fun e => by have := Option.some.inj e; omega)
      have k1 := hbo.cell
      have k2 := hbo.frozen
      have HR1 := Lib.hid hr
      have HG1 := Lib.hid hg
      have HBO := Lib.hid hbo
      clear hr hg hbo c1 c2
      gi_wp2
      refine ⟨?_, rfl, pre, x, rfl, HPR.out, by rw [HJ.out]; exact HS.out, ?_, ?_, HBO.out.set _⟩
      · exact (KeepsFrom.of_grownBy HG1.out fun j e => by cases e; omega).trans ((KeepsOthers.setCell _ _ _).from _)
      · rw [HJ.out, ← rise_next HL.out hjn, HVV.out]
        exact HR1.out.kept (grownBy_setCell' _ _ _) (.inr fun e => by have e1 : g = _ := Option.some.inj e; omega)
      · exact grown_set8 (grown_below8 (B := 0) HB.out HG1.out) (by omega) _
    · have htd : decide (V + E < (N : Int)) = false := decide_eq_false ht
      have HS := Lib.hid (stuck_yes (N := N) HL.out hV (by rw [hD]; exact ht))
      have HJ := Lib.hid hj
      clear hB b1 b2 b3 hpre hj hV hV2 hD
      gi_wp2
      refine ⟨KeepsFrom.refl _ _, ⟨Below.refl _ _, rfl, rfl⟩, ⟨HB1.out, HB2.out, HB3.out, fun y hy => ?_⟩, HB.out⟩
      rcases List.mem_append.1 hy with h | h
      · exact HPR.out y h
      · simp only [List.mem_singleton] at h
        rw [h, HJ.out]
        exact HS.out
  case done =>
    rintro D zs W hD hS ⟨⟨b1, b2, b3, hpre⟩, hB⟩ hK
    have hqn := next_none HQ.out fun j hj => by
      have := hpre ⟨n - 1 - j, by omega⟩ (CameK.mem hS _)
      rw [show n - 1 - (n - 1 - j) = j by omega] at this
      exact this
    subst hqn
    have k1 := b3.cell
    have k2 := b3.frozen
    have HB3' := Lib.hid b3
    have HBB := Lib.hid hB
    clear b1 b2 b3 hpre hB
    gi_wp2
    have hK' : (W.setCell ⟨w.heap.size + 1 + 1, 0, none⟩ (.bool false)).heap[D]? = some (.deferred (some [])) := (Below.heap_setCell _ _ _ _ (by show D ≠ w.heap.size + 1 + 1; omega)).trans hK
    refine marks_ret1 rfl hK' (results_bool rfl _ _ (w.heap.size + 1 + 1) _ false rfl (boxed_put (HB3'.out.set _) (by omega) _) Try.underlying4) ⟨rfl, ?_, ?_⟩
    · exact ((HRW.out W HBB.out).kept (grownBy_setCell' _ _ _) (.inr fun e => by have e1 : g = _ := Option.some.inj e; omega)).kept (grownBy_putObj' _ _ _) (.inr fun e => by have e1 : g = _ := Option.some.inj e; omega)
    · exact grown_put8 (grown_set8 (grown_below8 (B := 0) (Below.refl _ _) ⟨HBB.out.os, HBB.out.tape, HBB.out.output, HBB.out.size, fun b hb _ => HBB.out.block b hb⟩) (by omega) _) (by omega)
  case stop =>
    rintro D c pre W hD ⟨k, hk⟩ ⟨rfl, ys, x, rfl, h2, h3, h4, h5, h6⟩ hK
    have hqs := next_some HQ.out (show n - 1 - x.1 < n by omega) h3 fun i hi1 hi2 => by
      obtain ⟨y, hy, e⟩ := came_has8 (came_last8 hk) (show n - 1 - i < x.1 by omega)
      have := h2 y hy
      rw [e, show n - 1 - (n - 1 - i) = i by omega] at this
      exact this
    subst hqs
    have HB3' := Lib.hid h6
    have H4 := Lib.hid h4
    have H5 := Lib.hid h5
    clear h2 h3 h4 h5 h6
    gi_wp2
    refine marks_ret1 rfl hK (results_bool rfl _ _ (w.heap.size + 1 + 1) _ true rfl (boxed_put HB3'.out (by omega) _) Try.underlying4) ⟨rfl, ?_, ?_⟩
    · exact H4.out.kept (grownBy_putObj' _ _ _) (.inr fun e => by have e1 : g = _ := Option.some.inj e; omega)
    · exact grown_put8 H5.out (by omega)
end Go.Proofs.Ytkmcfbopilieeaa
