import Derived.Test.YtcooobnaocbdjaaGreatJoin8
import Derived.Test.YtcooobnaocbdjaaGreatJoin1
import Derived.Deep.QuietTactic
import Derived.BigQuiet
import Derived.Deep.DeepCutAuto
import Derived.Deep.RegionLaw
import Derived.Lib.QuietBelow
/-! YtcooobnaocbdjaaGreatPTwo -/
section

namespace Go.Proofs.YtcooobnaocbdjaaGreat
open Go.RowKit
set_option linter.unusedVariables false

abbrev dTwo := Int × Int
def shTwo : Shape dTwo := .struct (.cons .int (.last .int))
theorem shTwo_size : shTwo.size = 2 := rfl
theorem shTwo_reads {I : Nat → Prop} {w : World} {cs : List Value} {d : dTwo} : shTwo.reads I w cs d ↔ cs = [.int .i64 d.1, .int .i64 d.2] := by
  constructor
  · rintro ⟨_, _, rfl, rfl, rfl⟩
    rfl
  · rintro rfl
    exact ⟨_, _, rfl, rfl, rfl⟩
/-- The cells of a list of pairs. -/
def tcells : List dTwo → List Value
  | [] => []
  | x :: xs => .int .i64 x.1 :: .int .i64 x.2 :: tcells xs
theorem tcells_length : ∀ l : List dTwo, (tcells l).length = l.length * 2
  | [] => rfl
  | x :: xs => by simp only [tcells, List.length_cons, tcells_length xs]; omega
theorem tcells_append : ∀ a b : List dTwo, tcells (a ++ b) = tcells a ++ tcells b
  | [], b => rfl
  | x :: xs, b => by simp only [List.cons_append, tcells, tcells_append xs b]
theorem tcells_get0 : ∀ (l : List dTwo) (j : Nat), j < l.length → (tcells l)[j * 2]? = some (.int .i64 (l.getD j (0, 0)).1)
  | x :: xs, 0, _ => rfl
  | x :: xs, j + 1, h => by
    rw [show (j + 1) * 2 = j * 2 + 1 + 1 by omega]
    simp only [tcells, List.getElem?_cons_succ, List.getD_cons_succ]
    exact tcells_get0 xs j (by simpa using h)
theorem tcells_get1 : ∀ (l : List dTwo) (j : Nat), j < l.length → (tcells l)[j * 2 + 1]? = some (.int .i64 (l.getD j (0, 0)).2)
  | x :: xs, 0, _ => rfl
  | x :: xs, j + 1, h => by
    rw [show (j + 1) * 2 + 1 = j * 2 + 1 + 1 + 1 by omega]
    simp only [tcells, List.getElem?_cons_succ, List.getD_cons_succ]
    exact tcells_get1 xs j (by simpa using h)
theorem tcells_set : ∀ (l : List dTwo) (j : Nat) (x : dTwo), ((tcells l).set (j * 2) (.int .i64 x.1)).set (j * 2 + 1) (.int .i64 x.2) = tcells (l.set j x)
  | [], j, x => rfl
  | y :: ys, 0, x => rfl
  | y :: ys, j + 1, x => by
    rw [show (j + 1) * 2 = j * 2 + 1 + 1 by omega]
    simp only [tcells, List.set_cons_succ]
    rw [tcells_set ys j x]
theorem tset_fill (xs : List dTwo) (k m : Nat) (hk : k < xs.length) : (xs.take k ++ List.replicate (m + 1) (0, 0)).set k (xs.getD k (0, 0)) = xs.take (k + 1) ++ List.replicate m (0, 0) := by
  have h1 : (xs.take k).length = k := by simp; omega
  rw [List.set_append_right _ _ (by omega), h1, Nat.sub_self, List.replicate_succ, List.set_cons_zero, List.take_add_one, List.getElem?_eq_getElem hk, List.append_assoc]
  simp [List.getD, hk]

/-- A row of pairs below B, as a walk reads it. -/
structure TwoIn (B : Nat) (w : World) (a : Option Addr) (n : Nat) (xs : List dTwo) : Prop where
  len : xs.length = n
  room : n ≤ 1048576
  cells : ∀ j, j < n → ∃ b o, a = some ⟨b, o, none⟩ ∧ b < B ∧ w.cell? ⟨b, o + j * 2, none⟩ = some (.int .i64 (xs.getD j (0, 0)).1) ∧ w.cell? ⟨b, o + j * 2 + 1, none⟩ = some (.int .i64 (xs.getD j (0, 0)).2)
theorem TwoIn.below {B B' : Nat} {w w' : World} {a : Option Addr} {n : Nat} {xs : List dTwo} (h : TwoIn B w a n xs) (hb : Below B' w w') (hB : B ≤ B') : TwoIn B w' a n xs :=
  ⟨h.len, h.room, fun j hj => by
    obtain ⟨b, o, e1, e2, e3, e4⟩ := h.cells j hj
    exact ⟨b, o, e1, e2, (hb.cell (p := ⟨b, o + j * 2, none⟩) (Nat.lt_of_lt_of_le e2 hB)).trans e3, (hb.cell (p := ⟨b, o + j * 2 + 1, none⟩) (Nat.lt_of_lt_of_le e2 hB)).trans e4⟩⟩
theorem TwoIn.le {B B' : Nat} {w : World} {a : Option Addr} {n : Nat} {xs : List dTwo} (h : TwoIn B w a n xs) (hB : B ≤ B') : TwoIn B' w a n xs :=
  ⟨h.len, h.room, fun j hj => by
    obtain ⟨b, o, e1, e2, e3⟩ := h.cells j hj
    exact ⟨b, o, e1, Nat.lt_of_lt_of_le e2 hB, e3⟩⟩
theorem ListAt.two {B : Nat} {w : World} {a : Option Addr} {n : Nat} {xs : List dTwo} (h : ListAt shTwo (Under B) w a n xs) (hr : n ≤ 1048576) : TwoIn B w a n xs :=
  ⟨h.1, hr, fun j hj => by
    have hx : xs[j]? = some (xs.getD j (0, 0)) := by
      rw [List.getElem?_eq_getElem (by rw [h.1]; exact hj)]
      simp [List.getD, h.1, hj]
    obtain ⟨b, o, es, e, hb, hr, hs⟩ := h.2 j _ hx
    have hs' := shTwo_reads.1 hs
    subst hs'
    refine ⟨b, o, e, hb, ?_, ?_⟩
    · have := hr 0 _ rfl
      simpa [shTwo_size] using this
    · have := hr 1 _ rfl
      simpa [shTwo_size] using this⟩
/-- A row of pairs of the call's own, from block 'base' on. -/
def TwoR (T : TypeId) (base : Nat) (w : World) (v : Value) (xs : List dTwo) : Prop := w.ownsRow base T 2 v xs.length (tcells xs)
variable {T : TypeId}
theorem TwoR.nil (base : Nat) (w : World) : TwoR T base w (.slice none 0 0) [] := World.ownsRow_nil _ _ _ _
theorem TwoR.form {base : Nat} {w : World} {v : Value} {xs : List dTwo} (h : TwoR T base w v xs) : ∃ a cap, v = .slice a xs.length cap ∧ xs.length ≤ cap ∧ cap ≤ 9223372036854775807 ∧ (xs.length ≤ 1048576 → TwoIn w.heap.size w a xs.length xs) := by
  have hcs := fun g (h' : v.ownBlock = some g) => World.ownsRow.cells h (g := g) h'
  have hlt := World.ownsRow.lt h
  rcases h.2 with ⟨rfl, hn⟩ | ⟨g, cap, cur, rfl, hb, hg, hc, hm, -⟩
  · have : xs = [] := List.eq_nil_of_length_eq_zero hn
    subst this
    exact ⟨none, 0, rfl, Nat.le_refl _, by omega, fun _ => ⟨rfl, by decide, fun j hj => absurd hj (Nat.not_lt_zero _)⟩⟩
  · unfold maxLen at hm
    refine ⟨_, cap, rfl, hc, by omega, fun hr => ⟨rfl, hr, fun j hj => ⟨g, 0, rfl, (hlt g rfl).2, ?_, ?_⟩⟩⟩
    · have := hcs g rfl _ _ (tcells_get0 xs j hj)
      rw [Addr.add_lit] at this
      exact this
    · have := hcs g rfl _ _ (tcells_get1 xs j hj)
      rw [Addr.add_lit] at this
      rw [Nat.add_assoc]
      exact this
theorem TwoR.lt {base : Nat} {w : World} {v : Value} {xs : List dTwo} (h : TwoR T base w v xs) : ∀ k, v.ownBlock = some k → base ≤ k ∧ k < w.heap.size := World.ownsRow.lt h
theorem TwoR.le {base base' : Nat} {w : World} {v : Value} {xs : List dTwo} (h : TwoR T base w v xs) (hB : base' ≤ base) : TwoR T base' w v xs := World.ownsRow.mono h hB
theorem TwoR.kept {base : Nat} {w w' : World} {v : Value} {xs : List dTwo} {row : Option Nat} (h : TwoR T base w v xs) (hg : w.grownBy w' row) (hne : v.ownBlock = none ∨ v.ownBlock ≠ row) : TwoR T base w' v xs := World.ownsRow.kept h hg hne
theorem TwoR.below {base : Nat} {w w' : World} {v : Value} {xs : List dTwo} (h : TwoR T base w v xs) (hb : Below w.heap.size w w') : TwoR T base w' v xs :=
  h.kept (row := none) ⟨hb.os, hb.tape, hb.output, hb.size, fun b hb' _ => hb.block b hb'⟩ (by
    cases hv : v.ownBlock with
    | none => exact .inl rfl
    | some g => exact .inr (by simp))
theorem TwoR.grown {base : Nat} {w w' : World} {v : Value} {xs : List dTwo} (h : TwoR T base w v xs) (hg : w.grownBy w' v.ownBlock) (hB : base ≤ w.heap.size) : Below base w w' :=
  (Below.refl base w).grown hg hB (fun k hk => (h.lt k hk).1)
/-- One more, by an append of a row of one. -/
theorem TwoR.put {base : Nat} {w w' : World} {v v' : Value} {xs ys : List dTwo} (h : TwoR T base w v xs) (hB : base ≤ w.heap.size) (o : Obj) (hown : w'.ownsRow base T 2 v' (xs.length + ys.length) (tcells xs ++ tcells ys)) (hg : (w.alloc o).grownBy w' v.ownBlock) : TwoR T base w' v' (xs ++ ys) ∧ Below base w w' := by
  refine ⟨?_, ((Below.refl base w).alloc hB o).grown hg (by simp; omega) fun k hk => (h.lt k hk).1⟩
  unfold TwoR
  rw [List.length_append, tcells_append]
  exact hown
/-- What a row of pairs is to the laws that mark. -/
def tmarks (k : Int) (n : Nat) : List dTwo := (List.range n).map fun (j : Nat) => (k + 2 * (j : Int), k + 2 * (j : Int) + 1)
theorem made_two (z : Value) (n : Nat) : (madeCells #[z, z] n).toList = List.replicate n z := by
  refine List.ext_getElem? fun i => ?_
  by_cases hi : i < n
  · have h1 : i < (madeCells #[z, z] n).toList.length := by rw [Array.length_toList, size_madeCells]; exact hi
    rw [List.getElem?_eq_getElem h1, List.getElem?_eq_getElem (by simpa using hi)]
    simp only [madeCells, Array.getElem_toList, Array.getElem_map, Array.getElem_range, List.getElem_replicate]
    have : i % 2 = 0 ∨ i % 2 = 1 := by omega
    rcases this with h | h <;> simp [h]
  · rw [List.getElem?_eq_none (by rw [Array.length_toList, size_madeCells]; omega), List.getElem?_eq_none (by simp; omega)]
theorem tcells_fill : ∀ n : Nat, tcells (List.replicate n (0, 0)) = List.replicate (n * 2) (.int .i64 0)
  | 0 => rfl
  | n + 1 => by
    rw [show (n + 1) * 2 = n * 2 + 1 + 1 by omega]
    simp only [List.replicate_succ, tcells, tcells_fill n]
theorem TwoR.small {T : TypeId} {base : Nat} {w : World} {v : Value} {xs : List dTwo} {N : Nat} (h : TwoR T base w v xs) (hN : xs.length = N) (hl : N ≤ 100) : ∃ a c, v = .slice a N c ∧ TwoIn w.heap.size w a N xs := by
  subst hN
  obtain ⟨a, c, e, -, -, hi⟩ := h.form
  exact ⟨a, c, e, hi (by omega)⟩
theorem TwoR.slice {T : TypeId} {base : Nat} {w : World} {a : Option Addr} {n c : Nat} {xs : List dTwo} (h : TwoR T base w (.slice a n c) xs) (hn : n ≤ 1048576) : TwoIn w.heap.size w a n xs := by
  obtain ⟨a', c', e, -, -, hi⟩ := h.form
  cases e
  exact hi hn
end Go.Proofs.YtcooobnaocbdjaaGreat

end

/-! YtcooobnaocbdjaaGreatPIns -/
section

namespace Go.Proofs.YtcooobnaocbdjaaGreat
open Go.RowKit Go.Sort
set_option linter.unusedVariables false

theorem infoIns : (Tryz.prog.info? 105).map (fun i => (i.zero, i.size, i.bytes)) = some (some (.agg #[.int .i64 0, .int .i64 0]), 2, 16) := by kernel_rfl
abbrev InsR := TwoR 105
abbrev shIns := shTwo

set_option maxRecDepth 100000 in
theorem szInsS_any (w : World) (a : Option Addr) (n c : Nat) (L : Int) (hn : n ≤ 9223372036854775807) (h0 : 0 ≤ L) (h1 : L ≤ 1048576) :
    Calls Tryz.prog 150 #[.slice a n c, .int .i64 L] w fun e w' => e = .returned (.int .i64 (szN n L)) ∧ Below w.heap.size w w' := by
  by_cases hL : (n : Int) ≤ L
  · rw [szN_yes hL]
    go_enter Tryz.func150, Tryz.ntmps150
    go_wp2_with fail
    go_ret
    exact ⟨rfl, Below.refl _ _⟩
  · rw [szN_no hL]
    go_enter Tryz.func150, Tryz.ntmps150
    go_wp2_with fail
    go_ret
    exact ⟨rfl, Below.refl _ _⟩

set_option maxRecDepth 100000 in
theorem toIns_any (w : World) (k m : Int) :
    Calls Tryz.prog 180 #[.agg #[.int .i64 k, .int .i64 m]] w fun e w' => e = .returned (.agg #[.int .i64 k, .int .i64 m]) ∧ Below w.heap.size w w' := by
  go_enter Tryz.func180, Tryz.ntmps180
  go_wp2_with fail
  have hbx := Boxes.start w #[.int .i64 k, .int .i64 m] #[.int .i64 k, .int .i64 m] #[.int .i64 k, .int .i64 m] 219 105
  refine bodyPost_ret (results_cell_row rfl _ _ (w.heap.size + 1) 105 #[.int .i64 k, .int .i64 m] (0, 0) _ rfl hbx.z Tryz.underlying105 rfl (by kernel_rfl)) rfl ?_
  exact ⟨rfl, hbx.below⟩
set_option maxRecDepth 100000 in
theorem eqIns_any (w : World) (k m k' m' : Int) :
    Calls Tryz.prog 173 #[.agg #[.int .i64 k, .int .i64 m], .agg #[.int .i64 k', .int .i64 m']] w fun e w' => e = .returned (.bool (decide ((k, m) = (k', m')))) ∧ Below w.heap.size w w' := by
  obtain ⟨R, hR⟩ : ∃ R, decide ((k, m) = (k', m')) = R := ⟨_, rfl⟩
  rw [hR]
  have hal : Below w.heap.size w ((w.alloc (.cells #[.int .i64 k, .int .i64 m] 105 (0, 0))).alloc (.cells #[.int .i64 k', .int .i64 m'] 105 (0, 0))) := ((Below.refl _ _).alloc (Nat.le_refl _) _).alloc (by simp) _
  by_cases hk : k = k'
  · subst hk
    by_cases hm : m = m'
    · subst hm
      obtain rfl : R = true := by rw [← hR]; exact decide_eq_true rfl
      go_enter Tryz.func173, Tryz.ntmps173
      go_wp2_with fail
      go_ret
      exact ⟨rfl, hal⟩
    · obtain rfl : R = false := by rw [← hR]; exact decide_eq_false fun e => hm (by cases e; rfl)
      have hne : (m == m') = false := by simpa using hm
      go_enter Tryz.func173, Tryz.ntmps173
      go_wp2_with fail
      go_ret
      exact ⟨rfl, hal⟩
  · obtain rfl : R = false := by rw [← hR]; exact decide_eq_false fun e => hk (by cases e; rfl)
    have hne : (k == k') = false := by simpa using hk
    go_enter Tryz.func173, Tryz.ntmps173
    go_wp2_with fail
    go_ret
    exact ⟨rfl, hal⟩

set_option maxRecDepth 100000 in
theorem toInsS_any (B : Nat) (w : World) (a : Option Addr) (n cap : Nat) (xs : List dTwo) (h : TwoIn B w a n xs) (hB : B ≤ w.heap.size) :
    Calls Tryz.prog 155 #[.slice a n cap] w fun e w' => e = .returned (.slice (some ⟨w.heap.size, 0, none⟩) n n) ∧ InsR w.heap.size w' (.slice (some ⟨w.heap.size, 0, none⟩) n n) xs ∧ Below w.heap.size w w' := by
  have hroom := h.room
  have H := Lib.hid h
  have hmk := fun (w : World) => run_make_many (P := Tryz.prog) 71 105 (.agg #[.int .i64 0, .int .i64 0]) 2 16 Tryz.underlying71 infoIns n (by omega) (by omega) w
  obtain ⟨Z, hZ⟩ : ∃ Z, Z = madeCells (Value.cells (.agg #[.int .i64 0, .int .i64 0])) (n * 2) := ⟨_, rfl⟩
  have hZl : Z.toList = tcells (List.replicate n (0, 0)) := by
    rw [hZ, tcells_fill]
    exact made_two (.int .i64 0) (n * 2)
  have hZs : Z.size = n * 2 := by have := congrArg List.length hZl; simpa [tcells_length] using this
  rw [← hZ] at hmk
  have HZ := Lib.hid hZl
  have HS := Lib.hid hZs
  clear hZl hZs hZ h
  have hown : (w.alloc (.cells Z 105)).ownsRow w.heap.size 105 2 (.slice (some ⟨w.heap.size, 0, none⟩) n n) n (tcells (xs.take 0 ++ List.replicate (n - 0) (0, 0))) := by
    refine ⟨by simp [tcells_length], .inr ⟨_, _, Z, rfl, Nat.le_refl _, heap_alloc_new w _, Nat.le_refl _, by unfold maxLen; omega, by rw [HS.out], ?_⟩⟩
    rw [HZ.out]
    rw [List.take_zero, Nat.sub_zero, List.nil_append]
    exact List.take_of_length_le (by rw [tcells_length]; simp)
  have HO := Lib.hid hown
  clear hown
  go_enter Tryz.func155, Tryz.ntmps155
  go_wp2_with fail
  go_loopw [4] (fun i wr => ∃ k : Nat, k ≤ n ∧ i = .int .i64 k ∧ wr.ownsRow w.heap.size 105 2 (.slice (some ⟨w.heap.size, 0, none⟩) n n) n (tcells (xs.take k ++ List.replicate (n - k) (0, 0))) ∧ Below w.heap.size w wr) (fun i _ => n - (intOf i).toNat)
  case atStart => exact ⟨0, Nat.zero_le _, rfl, HO.out, (Below.refl _ _).alloc (Nat.le_refl _) _⟩
  case round =>
    obtain ⟨k, hk, rfl, hown, hb⟩ := hrel
    have HW := Lib.hid hown
    have HB := Lib.hid hb
    clear hown hb
    by_cases hlt : k < n
    · obtain ⟨b, o, rfl, hbB, hc0, hc1⟩ := H.out.cells k hlt
      obtain ⟨X, hX⟩ : ∃ X, X = (xs.getD k (0, 0)).1 := ⟨_, rfl⟩
      obtain ⟨Y, hY⟩ : ∃ Y, Y = (xs.getD k (0, 0)).2 := ⟨_, rfl⟩
      rw [← hX] at hc0
      rw [← hY] at hc1
      have d0 := (HB.out.cell (p := ⟨b, o + k * 2, none⟩) (Nat.lt_of_lt_of_le hbB hB)).trans hc0
      have d1 := (HB.out.cell (p := ⟨b, o + k * 2 + 1, none⟩) (Nat.lt_of_lt_of_le hbB hB)).trans hc1
      have HC := Lib.hid fun (wx : World) => toIns_any wx X Y
      have HX := Lib.hid hX
      have HY := Lib.hid hY
      clear hX hY hc0 hc1
      go_wp2_with fail
      refine (HC.out _).mono ?_
      rintro e w1 ⟨rfl, hb⟩
      have hW1 : w1.ownsRow w.heap.size 105 2 (.slice (some ⟨w.heap.size, 0, none⟩) n n) n (tcells (xs.take k ++ List.replicate (n - k) (0, 0))) := World.ownsRow.kept HW.out (row := none) ⟨hb.os, hb.tape, hb.output, hb.size, fun b hb' _ => hb.block b hb'⟩ (.inr (by simp [Value.ownBlock]))
      have HW1 := Lib.hid hW1
      have HB1 := Lib.hid (HB.out.trans (hb.mono HB.out.size))
      have f0 := hW1.frozenAt (k * 2)
      have f1 := hW1.frozenAt (k * 2 + 1)
      have hL : (tcells (xs.take k ++ List.replicate (n - k) (0, 0))).length = n * 2 := hW1.1
      obtain ⟨u0, hu0⟩ : ∃ u, w1.cell? ⟨w.heap.size, k * 2, none⟩ = some u := by
        rw [hW1.cellAt _ (by omega)]
        exact ⟨_, List.getElem?_eq_getElem (by omega)⟩
      obtain ⟨u1, hu1⟩ : ∃ u, w1.cell? ⟨w.heap.size, k * 2 + 1, none⟩ = some u := by
        rw [hW1.cellAt _ (by omega)]
        exact ⟨_, List.getElem?_eq_getElem (by omega)⟩
      clear hb hW1 hL
      go_wp2_with fail
      obtain ⟨hs1, hs2⟩ := HW1.out.stored (k * 2) (.int .i64 X)
      obtain ⟨hs3, hs4⟩ := hs1.stored (k * 2 + 1) (.int .i64 Y)
      go_roundw
      case rel =>
        refine ⟨k + 1, by omega, by go_num, ?_, (HB1.out.setCell (by exact Nat.le_refl _) _).setCell (by exact Nat.le_refl _) _⟩
        have e : ((tcells (xs.take k ++ List.replicate (n - k) (0, 0))).set (k * 2) (.int .i64 X)).set (k * 2 + 1) (.int .i64 Y) = tcells (xs.take (k + 1) ++ List.replicate (n - (k + 1)) (0, 0)) := by
          rw [HX.out, HY.out, tcells_set _ _ (xs.getD k (0, 0)), show n - k = (n - (k + 1)) + 1 by omega, tset_fill _ _ _ (by rw [H.out.len]; exact hlt)]
        rw [← e]
        exact hs3
      case measure => simp [intOf]; omega
    · have hkn : k = n := by omega
      subst hkn
      go_wp2_with fail
      go_ret
      refine ⟨rfl, ?_, HB.out⟩
      have := HW.out
      rw [List.take_of_length_le (by rw [H.out.len]; omega), Nat.sub_self, List.replicate_zero, List.append_nil] at this
      unfold InsR TwoR
      rw [H.out.len]
      exact this

set_option maxRecDepth 100000 in
theorem eqInsS_same (w : World) (a1 : Option Addr) (n c1 : Nat) (xs : List dTwo) (a2 : Option Addr) (c2 : Nat) (h1 : TwoIn w.heap.size w a1 n xs) (h2 : TwoIn w.heap.size w a2 n xs) :
    Calls Tryz.prog 144 #[.slice a1 n c1, .slice a2 n c2] w fun e w' => e = .returned (.bool true) ∧ Below w.heap.size w w' := by
  have hr1 := h1.room
  have H1 := Lib.hid h1
  have H2 := Lib.hid h2
  clear h1 h2
  go_enter Tryz.func144, Tryz.ntmps144
  go_wp2_with fail
  go_loopw [5] (fun i wr => ∃ k : Nat, k ≤ n ∧ i = .int .i64 k ∧ Below w.heap.size w wr) (fun i _ => n - (intOf i).toNat)
  case atStart => exact ⟨0, Nat.zero_le _, rfl, Below.refl _ _⟩
  case round =>
    obtain ⟨k, hk, rfl, hbw⟩ := hrel
    by_cases hlt : k < n
    · obtain ⟨b, o, rfl, hbB, hc0, hc1⟩ := H1.out.cells k hlt
      obtain ⟨b', o', rfl, hbB', hc0', hc1'⟩ := H2.out.cells k hlt
      obtain ⟨X, hX⟩ : ∃ X, X = xs.getD k (0, 0) := ⟨_, rfl⟩
      rw [← hX] at hc0 hc1 hc0' hc1'
      obtain ⟨X1, X2⟩ := X
      have hsz := hbw.size
      have c0 := (hbw.cell (p := ⟨b, o + k * 2, none⟩) hbB).trans hc0
      have c1 := (hbw.cell (p := ⟨b, o + k * 2 + 1, none⟩) hbB).trans hc1
      have d0 := (hbw.cell (p := ⟨b', o' + k * 2, none⟩) hbB').trans hc0'
      have d1 := (hbw.cell (p := ⟨b', o' + k * 2 + 1, none⟩) hbB').trans hc1'
      have HC := Lib.hid fun wx : World => eqIns_any wx X1 X2 X1 X2
      have HBW := Lib.hid hbw
      clear hX hc0 hc1 hc0' hc1' hbw
      rw [decide_eq_true rfl] at HC
      go_upto_region 6 with fail
      have k0 := cell_regrown c0
      have k1 := cell_regrown c1
      have l0 := cell_regrown d0
      have l1 := cell_regrown d1
      have cC := fun d os => Calls.regrown_of (w := wr) (d := d) (os := os) (HC.out _)
      have CC := Lib.hid cC
      clear c0 c1 d0 d1 cC
      refine wp_region_quiet_below (by kernel_rfl) (by kernel_rfl) ?_
      repeat (go_big_quiet_step (with_reducible first | exact CC.out _ _))
      refine wpQuiet_nil ?_
      intro _ hw'
      obtain ⟨⟨dq, osq⟩, hw''⟩ := hw'
      subst hw''
      have hwq := below_regrown wr dq osq
      generalize grow (redrawn wr dq) osq = w1 at hwq ⊢
      have HW := Lib.hid hwq
      clear hwq k0 k1 l0 l1
      go_wp2_with fail
      go_round
      case rel => exact ⟨k + 1, by omega, by go_num, HBW.out.trans (HW.out.mono hsz)⟩
      case measure => simp [intOf]; omega
    · obtain rfl : k = n := by omega
      have HBW := Lib.hid hbw
      clear hbw
      go_wp2_with fail
      go_ret
      exact ⟨rfl, HBW.out⟩

end Go.Proofs.YtcooobnaocbdjaaGreat

end
