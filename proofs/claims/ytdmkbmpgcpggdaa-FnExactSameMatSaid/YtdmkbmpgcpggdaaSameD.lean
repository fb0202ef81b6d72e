/-
  The program's sameData and SameMat: tables inside, thirty-six numbers each, held against each other.
-/
import Derived.Test.YtdmkbmpgcpggdaaMatT
import Derived.Laws.CopyOwn
import Derived.Stop.BytesEq
import Derived.Deep.DeepCutAuto
namespace Go.Proofs.Ytdmkbmpgcpggdaa
open Go.RowKit
set_option linter.unusedVariables false

theorem all_range_int : ∀ (xs ys : List Int), xs.length = ys.length → ((List.range xs.length).all fun i => xs.getD i 0 == ys.getD i 0) = (xs == ys)
  | [], [], _ => rfl
  | x :: xs, y :: ys, h => by
    have ih := all_range_int xs ys (by simpa using h)
    rw [List.length_cons, List.range_succ_eq_map, List.all_cons, List.all_map]
    simp only [List.getD_cons_zero, Function.comp_def, List.getD_cons_succ, ih]
    simp [List.cons_beq_cons]
  | [], _ :: _, h => by simp at h
  | _ :: _, [], h => by simp at h

/-- Two arrays of ints are compared place by place. -/
theorem run_equalIn_icells {P : Program} (w : World) (d : Nat) (t e : TypeId) (n : Nat) (ht : P.underlying t = some (.array n e)) (he : P.underlying e = some (.int .i64)) (hsz : ∀ w, (sizeOf e).run P w = .ok 1 w)
    (xs ys : List Int) (hx : xs.length = n) (hy : ys.length = n) :
    (Op.equalIn (d + 2) t (.agg (icells xs).toArray) (.agg (icells ys).toArray)).run P w = .ok (xs == ys) w := by
  unfold icells
  rw [← all_range_int xs ys (hx.trans hy.symm), hx, List.range_eq_range', Op.equalIn]
  simp only [Sem.run_bind, run_underlying ht, Result.andThen_ok, hsz, Std.Legacy.Range.forIn_eq_forIn_range', Std.Legacy.Range.size, Nat.sub_zero, Nat.add_sub_cancel, Nat.div_one]
  have hl : ∀ i ∈ List.range' 0 n 1, i < n := fun i hi => by simpa using (List.mem_range'_1.1 hi).2
  generalize List.range' 0 n 1 = l at hl ⊢
  induction l with
  | nil => simp
  | cons i l ih =>
    have hi : i < n := hl i (by simp)
    have px : (part e (xs.map (Value.int .i64)).toArray (i * 1)).run P w = .ok (.int .i64 (xs.getD i 0)) w := by
      simp [part, isAgg, run_underlying he, List.getD, List.getElem?_eq_getElem (show i < xs.length by omega)]
    have py : (part e (ys.map (Value.int .i64)).toArray (i * 1)).run P w = .ok (.int .i64 (ys.getD i 0)) w := by
      simp [part, isAgg, run_underlying he, List.getD, List.getElem?_eq_getElem (show i < ys.length by omega)]
    have pe : (Op.equalIn (d + 1) e (.int .i64 (xs.getD i 0)) (.int .i64 (ys.getD i 0))).run P w = .ok (xs.getD i 0 == ys.getD i 0) w := run_equalIn_int w d e .i64 .i64 _ _ he
    simp only [List.forIn_cons, Sem.run_bind, px, py, pe, Result.andThen_ok, List.all_cons]
    cases hb : (xs.getD i 0 == ys.getD i 0)
    · simp
    · simp only [Bool.not_true, Bool.false_eq_true, if_false, Sem.run_pure, Result.andThen_ok, Bool.true_and]
      exact ih fun j hj => hl j (by simp [hj])

/-- The numbers of one table inside. -/
def arrOf (us : List Int) : List Int := us.take 36 ++ List.replicate (36 - (us.take 36).length) 0
theorem arrOf_length (us : List Int) : (arrOf us).length = 36 := by
  unfold arrOf
  rw [List.length_append, List.length_replicate, List.length_take]
  omega
theorem arrOf_same {us vs : List Int} (hl : vs.length = us.length) : (arrOf us == arrOf vs) = decide (us.take 36 = vs.take 36) := by
  have e : (vs.take 36).length = (us.take 36).length := by rw [List.length_take, List.length_take, hl]
  unfold arrOf
  rw [e, Bool.eq_iff_iff, beq_iff_eq, decide_eq_true_iff]
  exact List.append_left_inj _
theorem same_cut (us vs : List Int) : decide (us = vs) = (decide (us.take 36 = vs.take 36) && decide (us.drop 36 = vs.drop 36)) := by
  rw [Bool.eq_iff_iff, Bool.and_eq_true, decide_eq_true_iff, decide_eq_true_iff, decide_eq_true_iff]
  refine ⟨fun h => by rw [h]; exact ⟨rfl, rfl⟩, fun ⟨h1, h2⟩ => ?_⟩
  rw [← List.take_append_drop 36 us, ← List.take_append_drop 36 vs, h1, h2]
theorem filled_arr {us : List Int} {X : List Value} {Z : Array Value} {k : Nat} (hX : icells (us.take 36) = X) (hZ : Z = (List.replicate 36 (Value.int .i64 0)).toArray) (hk : X.length = k) : (X ++ List.drop k Z.toList).toArray = (icells (arrOf us)).toArray := by
  have e : ∀ k : Nat, (List.replicate 36 (Value.int .i64 0)).drop k = icells (List.replicate (36 - k) 0) := fun k => by
    rw [List.drop_replicate]
    unfold icells
    rw [List.map_replicate]
  subst hX
  subst hZ
  subst hk
  unfold arrOf
  rw [icells_append, icells_length, List.toList_toArray, e]
theorem take_news {B : Nat} {w : World} {b o n : Nat} {us : List Int} (h : IntsIn B w (some ⟨b, o, none⟩) n us) : ∀ j u, (icells (us.take 36))[j]? = some u → w.cell? ((⟨b, o, none⟩ : Addr).add j) = some u := by
  intro j u hu
  refine ints_news h j u ?_
  unfold icells at hu ⊢
  rw [List.map_take, List.getElem?_take] at hu
  split at hu
  · exact hu
  · cases hu
/-- What is left of a row. -/
theorem IntsIn.cut {B : Nat} {w : World} {b o n : Nat} {xs : List Int} (h : IntsIn B w (some ⟨b, o, none⟩) n xs) (k : Nat) : IntsIn B w (some ⟨b, o + k, none⟩) (n - k) (xs.drop k) := by
  refine ⟨by rw [List.length_drop, h.len], by have := h.room; omega, fun j hj => ?_⟩
  obtain ⟨b', o', e, hb, hc⟩ := h.cells (k + j) (by omega)
  cases e
  refine ⟨b, o + k, rfl, hb, ?_⟩
  rw [Nat.add_assoc]
  simpa [List.getD] using hc
theorem IntsIn.cutIf {B : Nat} {w : World} {b o n d k : Nat} {xs : List Int} (h : IntsIn B w (some ⟨b, o, none⟩) n xs) (hd : n ≤ d) (hk : k ≤ n) : IntsIn B w (if d = k then some ⟨b, o, none⟩ else some ⟨b, o + k, none⟩) (n - k) (xs.drop k) := by
  by_cases e : d = k
  · have hn : n - k = 0 := by omega
    refine ⟨by rw [List.length_drop, h.len], by have := h.room; omega, fun j hj => by omega⟩
  · rw [if_neg e]
    exact h.cut k
theorem drop36 {us : List Int} {n k : Nat} (hl : us.length = n) (hk : k = Nat.min n 36) : us.drop 36 = us.drop k := by
  by_cases h : n ≤ 36
  · have : k = n := by rw [hk]; exact Nat.min_eq_left h
    rw [List.drop_eq_nil_of_le (by omega), List.drop_eq_nil_of_le (by omega)]
  · have : k = 36 := by rw [hk]; exact Nat.min_eq_right (by omega)
    rw [this]
def lenOf : Value → Nat
  | .slice _ n _ => n
  | _ => 0
/-- Between two tables inside. -/
def SameAt (w : World) (d : Bool) (s t : Value) (wr : World) : Prop :=
  ∃ (us vs : List Int) (a1 a2 : Option Addr) (n d1 d2 : Nat), s = .slice a1 n d1 ∧ t = .slice a2 n d2 ∧ us.length = n ∧ vs.length = n ∧ n ≤ d1 ∧ n ≤ d2 ∧ d1 ≤ 9223372036854775807 ∧ d2 ≤ 9223372036854775807 ∧
    IntsIn w.heap.size w a1 n us ∧ IntsIn w.heap.size w a2 n vs ∧ d = decide (us = vs) ∧ Below w.heap.size w wr

set_option maxRecDepth 100000 in
set_option maxHeartbeats 1600000 in
theorem sameData_any (w : World) (a1 : Option Addr) (n1 c1 : Nat) (xs : List Int) (a2 : Option Addr) (n2 c2 : Nat) (ys : List Int) (h1 : IntsIn w.heap.size w a1 n1 xs) (h2 : IntsIn w.heap.size w a2 n2 ys)
    (hc1 : n1 ≤ c1) (hc2 : n2 ≤ c2) (hx1 : c1 ≤ 9223372036854775807) (hx2 : c2 ≤ 9223372036854775807) :
    Calls Try.prog 71 #[.slice a1 n1 c1, .slice a2 n2 c2] w fun e w' => e = .returned (.bool (decide (xs = ys))) ∧ Below w.heap.size w w' := by
  by_cases hn : n1 = n2
  · subst hn
    obtain ⟨d, hd⟩ : ∃ d, d = decide (xs = ys) := ⟨_, rfl⟩
    rw [← hd]
    have H0 : SameAt w d (.slice a1 n1 c1) (.slice a2 n1 c2) w := ⟨xs, ys, a1, a2, n1, c1, c2, rfl, rfl, h1.len, h2.len, hc1, hc2, hx1, hx2, h1, h2, hd, Below.refl _ _⟩
    have HH := Lib.hid H0
    clear h1 h2 hc1 hc2 hx1 hx2 hd H0
    go_enter Try.func71, Try.ntmps71
    go_wp2_with fail
    go_loopw [0, 1] (fun s t wr => SameAt w d s t wr) (fun s _ _ => lenOf s)
    case atStart => exact HH.out
    case round =>
      clear HH
      obtain ⟨us, vs, b1, b2, n, d1, d2, rfl, rfl, lu, lv, hd1, hd2, hm1, hm2, i1, i2, hd, hb⟩ := hrel
      have hroom := i1.room
      by_cases hz : n = 0
      · subst hz
        have hdt : d = true := by
          rw [hd, List.eq_nil_of_length_eq_zero lu, List.eq_nil_of_length_eq_zero lv]
          rfl
        subst hdt
        have HB := Lib.hid hb
        clear hd i1 i2 lu lv hb
        go_wp2_with fail
        go_ret
        exact ⟨rfl, HB.out⟩
      · have hpos : 0 < n := by omega
        have HI1 := Lib.hid i1
        have HI2 := Lib.hid i2
        have HB := Lib.hid hb
        have HD := Lib.hid hd
        have HLU := Lib.hid lu
        have HLV := Lib.hid lv
        clear hd i1 i2 lu lv hb hz
        obtain ⟨i0, hi, hz0, hz1, hz2⟩ := info_parts Try.infoI64
        go_upto_region 5 with fail
        have hA : Below w.heap.size w ((wr.alloc (.cells #[.int .i64 0, .int .i64 0, .int .i64 0, .int .i64 0, .int .i64 0, .int .i64 0, .int .i64 0, .int .i64 0, .int .i64 0, .int .i64 0, .int .i64 0, .int .i64 0, .int .i64 0, .int .i64 0, .int .i64 0, .int .i64 0, .int .i64 0, .int .i64 0, .int .i64 0, .int .i64 0, .int .i64 0, .int .i64 0, .int .i64 0, .int .i64 0, .int .i64 0, .int .i64 0, .int .i64 0, .int .i64 0, .int .i64 0, .int .i64 0, .int .i64 0, .int .i64 0, .int .i64 0, .int .i64 0, .int .i64 0, .int .i64 0] 100 (0, 0))).alloc (.cells #[.int .i64 0, .int .i64 0, .int .i64 0, .int .i64 0, .int .i64 0, .int .i64 0, .int .i64 0, .int .i64 0, .int .i64 0, .int .i64 0, .int .i64 0, .int .i64 0, .int .i64 0, .int .i64 0, .int .i64 0, .int .i64 0, .int .i64 0, .int .i64 0, .int .i64 0, .int .i64 0, .int .i64 0, .int .i64 0, .int .i64 0, .int .i64 0, .int .i64 0, .int .i64 0, .int .i64 0, .int .i64 0, .int .i64 0, .int .i64 0, .int .i64 0, .int .i64 0, .int .i64 0, .int .i64 0, .int .i64 0, .int .i64 0] 100 (0, 0))) := (HB.out.alloc HB.out.size _).alloc (by have := HB.out.size; simp; omega) _
        have hG1 : ((wr.alloc (.cells #[.int .i64 0, .int .i64 0, .int .i64 0, .int .i64 0, .int .i64 0, .int .i64 0, .int .i64 0, .int .i64 0, .int .i64 0, .int .i64 0, .int .i64 0, .int .i64 0, .int .i64 0, .int .i64 0, .int .i64 0, .int .i64 0, .int .i64 0, .int .i64 0, .int .i64 0, .int .i64 0, .int .i64 0, .int .i64 0, .int .i64 0, .int .i64 0, .int .i64 0, .int .i64 0, .int .i64 0, .int .i64 0, .int .i64 0, .int .i64 0, .int .i64 0, .int .i64 0, .int .i64 0, .int .i64 0, .int .i64 0, .int .i64 0] 100 (0, 0))).alloc (.cells #[.int .i64 0, .int .i64 0, .int .i64 0, .int .i64 0, .int .i64 0, .int .i64 0, .int .i64 0, .int .i64 0, .int .i64 0, .int .i64 0, .int .i64 0, .int .i64 0, .int .i64 0, .int .i64 0, .int .i64 0, .int .i64 0, .int .i64 0, .int .i64 0, .int .i64 0, .int .i64 0, .int .i64 0, .int .i64 0, .int .i64 0, .int .i64 0, .int .i64 0, .int .i64 0, .int .i64 0, .int .i64 0, .int .i64 0, .int .i64 0, .int .i64 0, .int .i64 0, .int .i64 0, .int .i64 0, .int .i64 0, .int .i64 0] 100 (0, 0))).heap[wr.heap.size]? = some (.cells (List.replicate 36 (Value.int .i64 0)).toArray 100 (0, 0)) := by
          rw [Below.heap_alloc _ _ _ (by simp)]
          exact heap_alloc_new wr _
        have hG2 : ((wr.alloc (.cells #[.int .i64 0, .int .i64 0, .int .i64 0, .int .i64 0, .int .i64 0, .int .i64 0, .int .i64 0, .int .i64 0, .int .i64 0, .int .i64 0, .int .i64 0, .int .i64 0, .int .i64 0, .int .i64 0, .int .i64 0, .int .i64 0, .int .i64 0, .int .i64 0, .int .i64 0, .int .i64 0, .int .i64 0, .int .i64 0, .int .i64 0, .int .i64 0, .int .i64 0, .int .i64 0, .int .i64 0, .int .i64 0, .int .i64 0, .int .i64 0, .int .i64 0, .int .i64 0, .int .i64 0, .int .i64 0, .int .i64 0, .int .i64 0] 100 (0, 0))).alloc (.cells #[.int .i64 0, .int .i64 0, .int .i64 0, .int .i64 0, .int .i64 0, .int .i64 0, .int .i64 0, .int .i64 0, .int .i64 0, .int .i64 0, .int .i64 0, .int .i64 0, .int .i64 0, .int .i64 0, .int .i64 0, .int .i64 0, .int .i64 0, .int .i64 0, .int .i64 0, .int .i64 0, .int .i64 0, .int .i64 0, .int .i64 0, .int .i64 0, .int .i64 0, .int .i64 0, .int .i64 0, .int .i64 0, .int .i64 0, .int .i64 0, .int .i64 0, .int .i64 0, .int .i64 0, .int .i64 0, .int .i64 0, .int .i64 0] 100 (0, 0))).heap[wr.heap.size + 1]? = some (.cells (List.replicate 36 (Value.int .i64 0)).toArray 100 (0, 0)) := by
          have := heap_alloc_new (wr.alloc (.cells #[.int .i64 0, .int .i64 0, .int .i64 0, .int .i64 0, .int .i64 0, .int .i64 0, .int .i64 0, .int .i64 0, .int .i64 0, .int .i64 0, .int .i64 0, .int .i64 0, .int .i64 0, .int .i64 0, .int .i64 0, .int .i64 0, .int .i64 0, .int .i64 0, .int .i64 0, .int .i64 0, .int .i64 0, .int .i64 0, .int .i64 0, .int .i64 0, .int .i64 0, .int .i64 0, .int .i64 0, .int .i64 0, .int .i64 0, .int .i64 0, .int .i64 0, .int .i64 0, .int .i64 0, .int .i64 0, .int .i64 0, .int .i64 0] 100 (0, 0))) (.cells #[.int .i64 0, .int .i64 0, .int .i64 0, .int .i64 0, .int .i64 0, .int .i64 0, .int .i64 0, .int .i64 0, .int .i64 0, .int .i64 0, .int .i64 0, .int .i64 0, .int .i64 0, .int .i64 0, .int .i64 0, .int .i64 0, .int .i64 0, .int .i64 0, .int .i64 0, .int .i64 0, .int .i64 0, .int .i64 0, .int .i64 0, .int .i64 0, .int .i64 0, .int .i64 0, .int .i64 0, .int .i64 0, .int .i64 0, .int .i64 0, .int .i64 0, .int .i64 0, .int .i64 0, .int .i64 0, .int .i64 0, .int .i64 0] 100 (0, 0))
          rw [World.size_alloc] at this
          exact this
        have hwr := HB.out.size
        generalize (wr.alloc (.cells #[.int .i64 0, .int .i64 0, .int .i64 0, .int .i64 0, .int .i64 0, .int .i64 0, .int .i64 0, .int .i64 0, .int .i64 0, .int .i64 0, .int .i64 0, .int .i64 0, .int .i64 0, .int .i64 0, .int .i64 0, .int .i64 0, .int .i64 0, .int .i64 0, .int .i64 0, .int .i64 0, .int .i64 0, .int .i64 0, .int .i64 0, .int .i64 0, .int .i64 0, .int .i64 0, .int .i64 0, .int .i64 0, .int .i64 0, .int .i64 0, .int .i64 0, .int .i64 0, .int .i64 0, .int .i64 0, .int .i64 0, .int .i64 0] 100 (0, 0))).alloc (.cells #[.int .i64 0, .int .i64 0, .int .i64 0, .int .i64 0, .int .i64 0, .int .i64 0, .int .i64 0, .int .i64 0, .int .i64 0, .int .i64 0, .int .i64 0, .int .i64 0, .int .i64 0, .int .i64 0, .int .i64 0, .int .i64 0, .int .i64 0, .int .i64 0, .int .i64 0, .int .i64 0, .int .i64 0, .int .i64 0, .int .i64 0, .int .i64 0, .int .i64 0, .int .i64 0, .int .i64 0, .int .i64 0, .int .i64 0, .int .i64 0, .int .i64 0, .int .i64 0, .int .i64 0, .int .i64 0, .int .i64 0, .int .i64 0] 100 (0, 0)) = w2 at hA hG1 hG2 ⊢
        obtain ⟨p1, o1, e1, hp1, -⟩ := HI1.out.cells 0 hpos
        obtain ⟨p2, o2, e2, hp2, -⟩ := HI2.out.cells 0 hpos
        subst e1
        subst e2
        obtain ⟨k, hk⟩ : ∃ k, k = Nat.min n 36 := ⟨_, rfl⟩
        have hkn : k ≤ n ∧ k ≤ 36 ∧ 0 < k := by rw [hk]; exact ⟨Nat.min_le_left _ _, Nat.min_le_right _ _, by rw [Nat.lt_min]; omega⟩
        have l1 : (icells (us.take 36)).length = k := by rw [icells_length, List.length_take, HLU.out, hk, Nat.min_comm]
        have l2 : (icells (vs.take 36)).length = k := by rw [icells_length, List.length_take, HLV.out, hk, Nat.min_comm]
        have HN1 := Lib.hid (take_news (HI1.out.below hA (Nat.le_refl _)))
        have HO1 := Lib.hid (icells_one (us.take 36))
        have HO2 := Lib.hid (icells_one (vs.take 36))
        have HT2 := Lib.hid (fun w3 (hb : Below w.heap.size w w3) => take_news (HI2.out.below hb (Nat.le_refl _)))
        obtain ⟨X1, hX1⟩ : ∃ X, icells (us.take 36) = X := ⟨_, rfl⟩
        obtain ⟨X2, hX2⟩ : ∃ X, icells (vs.take 36) = X := ⟨_, rfl⟩
        rw [hX1] at l1 HN1 HO1
        rw [hX2] at l2 HO2 HT2
        obtain ⟨Z, hZ⟩ : ∃ Z : Array Value, Z = (List.replicate 36 (Value.int .i64 0)).toArray := ⟨_, rfl⟩
        rw [← hZ] at hG1 hG2
        have hzs : Z.size = 36 := by rw [hZ]; simp
        have HF1 := Lib.hid (filled_arr hX1 hZ l1)
        have hF2 : (List.take 0 Z.toList ++ (X2 ++ List.drop (0 + X2.length) Z.toList)).toArray = (icells (arrOf vs)).toArray := by
          rw [Nat.zero_add, List.take_zero, List.nil_append]
          exact filled_arr hX2 hZ rfl
        have HF2 := Lib.hid hF2
        clear hF2
        clear hZ
        have HK := Lib.hid hk
        have HA := Lib.hid hA
        have HG1 := Lib.hid hG1
        have HG2 := Lib.hid hG2
        have HKN := Lib.hid hkn
        clear hX1 hX2 hk hA hG1 hG2 hkn
        go_upto_region 6 with (with_reducible refine wpList_copy_own rfl (.tmp 16) (.tmp 17) 24 24 rfl 3 Try.underlying24 (by rw [hi]; simp [hz1]) wr.heap.size 0 36 36 ⟨p1, o1, none⟩ n d1 rfl rfl _ 100 HG1.out X1 (by first | exact HK.out | (rw [l1]; exact HK.out)) HN1.out (by rw [l1, hzs]; have := HKN.out; omega) HO1.out ?_)
        have hA3 := below_setRow HA.out hwr (X1 ++ List.drop k Z.toList).toArray
        have hG13 : (w2.setRow wr.heap.size (X1 ++ List.drop k Z.toList).toArray).heap[wr.heap.size]? = some (.cells (icells (arrOf us)).toArray 100 (0, 0)) := (setRow_heap w2 wr.heap.size Z _ 100 (0, 0) HG1.out).trans (by rw [HF1.out])
        have hG23 : (w2.setRow wr.heap.size (X1 ++ List.drop k Z.toList).toArray).heap[wr.heap.size + 1]? = some (.cells Z 100 (0, 0)) := (setRow_other w2 wr.heap.size (wr.heap.size + 1) _ (by omega)).trans HG2.out
        generalize w2.setRow wr.heap.size (X1 ++ List.drop k Z.toList).toArray = w3 at hA3 hG13 hG23 ⊢
        have HN2 := Lib.hid (HT2.out w3 hA3)
        have HA3 := Lib.hid hA3
        have HG13 := Lib.hid hG13
        have HG23 := Lib.hid hG23
        clear HG1 HG2 HA HT2 HN1 HF1 HO1 hA3 hG13 hG23 l1
        go_upto_region 7 with (with_reducible refine wpList_copy_own rfl (.tmp 19) (.tmp 20) 24 24 rfl 3 Try.underlying24 (by rw [hi]; simp [hz1]) (wr.heap.size + 1) 0 36 36 ⟨p2, o2, none⟩ n d2 rfl rfl _ 100 HG23.out X2 (by first | exact HK.out | (rw [l2]; exact HK.out)) HN2.out (by rw [l2, hzs]; have := HKN.out; omega) HO2.out ?_)
        have hA4 := below_setRow HA3.out (by omega : w.heap.size ≤ wr.heap.size + 1) (List.take 0 Z.toList ++ (X2 ++ List.drop (0 + X2.length) Z.toList)).toArray
        have hG24 : (w3.setRow (wr.heap.size + 1) (List.take 0 Z.toList ++ (X2 ++ List.drop (0 + X2.length) Z.toList)).toArray).heap[wr.heap.size + 1]? = some (.cells (icells (arrOf vs)).toArray 100 (0, 0)) := (setRow_heap w3 (wr.heap.size + 1) Z _ 100 (0, 0) HG23.out).trans (by rw [HF2.out])
        have hG14 := (setRow_other w3 (wr.heap.size + 1) wr.heap.size (List.take 0 Z.toList ++ (X2 ++ List.drop (0 + X2.length) Z.toList)).toArray (by omega)).trans HG13.out
        generalize w3.setRow (wr.heap.size + 1) (List.take 0 Z.toList ++ (X2 ++ List.drop (0 + X2.length) Z.toList)).toArray = w4 at hA4 hG14 hG24 ⊢
        have HA4 := Lib.hid hA4
        have HG14 := Lib.hid hG14
        have HG24 := Lib.hid hG24
        clear HG13 HG23 HA3 HN2 HF2 HO2 hA4 hG14 hG24 l2
        have hsz : ∀ w, (sizeOf 3).run Try.prog w = .ok 1 w := fun w => by
          rw [run_sizeOf w hi, Program.cellsOf]
          simp [hi, hz1]
        have heq := fun w => run_equalIn_icells (P := Try.prog) w 9998 100 3 36 Try.underlying100 Try.underlying3 hsz (arrOf us) (arrOf vs) (arrOf_length us) (arrOf_length vs)
        rw [arrOf_same (by rw [HLU.out]; exact HLV.out)] at heq
        have LU := Lib.hid (arrOf_length us)
        have LV := Lib.hid (arrOf_length vs)
        obtain ⟨A1, hA1⟩ : ∃ A, (icells (arrOf us)).toArray = A := ⟨_, rfl⟩
        obtain ⟨A2, hA2⟩ : ∃ A, (icells (arrOf vs)).toArray = A := ⟨_, rfl⟩
        have z1 : A1.size = 36 := by rw [← hA1, List.size_toArray, icells_length]; exact LU.out
        have z2 : A2.size = 36 := by rw [← hA2, List.size_toArray, icells_length]; exact LV.out
        rw [hA1] at heq HG14
        rw [hA2] at heq HG24
        clear hA1 hA2 hsz
        have hm : Try.prog.eqGuardType Try.prog.depth 100 = false := Try.eqGuardType100
        have hs36 : (Try.prog.info? 100).map (·.size) = some 36 := by kernel_rfl
        have HC := Lib.hid (same_cut us vs)
        obtain ⟨s, hs⟩ : ∃ s, decide (us.take 36 = vs.take 36) = s := ⟨_, rfl⟩
        rw [hs] at heq HC
        clear hs
        have HEQ := Lib.hid heq
        clear heq
        cases s
        · have heq := HEQ.out
          go_upto_region 9 with (first
            | (with_reducible refine wpList_load_row rfl 100 (.tmp 5) rfl wr.heap.size rfl 100 A1 (0, 0) _ HG14.out Try.underlying100 rfl (by rw [z1]; exact hs36) ?_)
            | (with_reducible refine wpList_load_row rfl 100 (.tmp 6) rfl (wr.heap.size + 1) rfl 100 A2 (0, 0) _ HG24.out Try.underlying100 rfl (by rw [z2]; exact hs36) ?_))
          go_ret
          exact ⟨by rw [show d = false from by rw [HD.out, HC.out]; rfl]; rfl, HA4.out⟩
        · have heq := HEQ.out
          go_upto_region 9 with (first
            | (with_reducible refine wpList_load_row rfl 100 (.tmp 5) rfl wr.heap.size rfl 100 A1 (0, 0) _ HG14.out Try.underlying100 rfl (by rw [z1]; exact hs36) ?_)
            | (with_reducible refine wpList_load_row rfl 100 (.tmp 6) rfl (wr.heap.size + 1) rfl 100 A2 (0, 0) _ HG24.out Try.underlying100 rfl (by rw [z2]; exact hs36) ?_))
          have hkk := HKN.out
          clear heq
          go_quiet (fail)
          go_roundw
          case rel =>
            refine ⟨_, _, _, _, _, _, _, _, _, _, _, _, _, _, _, _, _, _, _, _, _, _, _, _, ?_, rfl⟩
            refine ⟨us.drop k, vs.drop k, _, _, n - k, d1 - k, d2 - k, rfl, rfl, by rw [List.length_drop, HLU.out], by rw [List.length_drop, HLV.out], by omega, by omega, by omega, by omega, HI1.out.cutIf hd1 hkk.1, HI2.out.cutIf hd2 hkk.1, ?_, HA4.out.trans ⟨rfl, rfl, rfl, Nat.le_refl _, fun _ _ => rfl⟩⟩
            rw [HD.out, HC.out, Bool.true_and, drop36 HLU.out HK.out, drop36 HLV.out HK.out]
          case measure => simp [lenOf]; omega
  · have hne : ((n1 : Int) == (n2 : Int)) = false := by
      rw [beq_eq_false_iff_ne]
      omega
    have hf : decide (xs = ys) = false := by
      refine decide_eq_false fun e => hn ?_
      rw [← h1.len, ← h2.len, e]
    rw [hf]
    clear h1 h2 hc1 hc2 hx1 hx2 hn hf
    go_enter Try.func71, Try.ntmps71
    go_wp2_with fail
    go_ret
    exact ⟨rfl, Below.refl _ _⟩

set_option maxRecDepth 100000 in
theorem implSameMat_any (w : World) (r c : Int) (a1 : Option Addr) (n1 c1 : Nat) (xs : List Int) (r' c' : Int) (a2 : Option Addr) (n2 c2 : Nat) (ys : List Int) (h1 : IntsIn w.heap.size w a1 n1 xs) (h2 : IntsIn w.heap.size w a2 n2 ys)
    (hc1 : n1 ≤ c1) (hc2 : n2 ≤ c2) (hx1 : c1 ≤ 9223372036854775807) (hx2 : c2 ≤ 9223372036854775807) :
    Calls Try.prog 46 #[.agg #[.int .i64 r, .int .i64 c, .slice a1 n1 c1], .agg #[.int .i64 r', .int .i64 c', .slice a2 n2 c2]] w fun e w' => e = .returned (.bool (sameMatB r c xs r' c' ys)) ∧ Below w.heap.size w w' := by
  have hal : Below w.heap.size w ((w.alloc (.cells #[.int .i64 r, .int .i64 c, .slice a1 n1 c1] 52 (0, 0))).alloc (.cells #[.int .i64 r', .int .i64 c', .slice a2 n2 c2] 52 (0, 0))) := ((Below.refl _ _).alloc (Nat.le_refl _) _).alloc (by simp) _
  have HS := Lib.hid (sameData_any _ a1 n1 c1 xs a2 n2 c2 ys ((h1.below hal (Nat.le_refl _)).le hal.size) ((h2.below hal (Nat.le_refl _)).le hal.size) hc1 hc2 hx1 hx2)
  have HA := Lib.hid hal
  clear h1 h2 hal hc1 hc2 hx1 hx2
  unfold sameMatB
  by_cases hr : r = r'
  · subst hr
    by_cases hc : c = c'
    · subst hc
      rw [decide_eq_true rfl, decide_eq_true rfl]
      go_enter Try.func46, Try.ntmps46
      go_wp2_with fail
      refine HS.out.mono ?_
      rintro e w1 ⟨rfl, hb⟩
      have HB := Lib.hid (HA.out.trans (hb.mono HA.out.size))
      clear hb
      go_wp2_with fail
      go_ret
      exact ⟨by simp, HB.out⟩
    · rw [decide_eq_true rfl, decide_eq_false hc]
      have hne : (c == c') = false := by simpa using hc
      go_enter Try.func46, Try.ntmps46
      go_wp2_with fail
      go_ret
      exact ⟨by simp, HA.out⟩
  · rw [decide_eq_false hr]
    have hne : (r == r') = false := by simpa using hr
    go_enter Try.func46, Try.ntmps46
    go_wp2_with fail
    go_ret
    exact ⟨by simp, HA.out⟩
end Go.Proofs.Ytdmkbmpgcpggdaa
