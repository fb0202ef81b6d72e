import Derived.Test.YtkflinobmagiiaaProg
import Derived.Test.YtkflinobmagiiaaJoin1
import Derived.Laws.AppendOwn
import Derived.Laws.OwnMore
import Derived.Laws.MakeOwn
import Derived.Deep.Onto
import Derived.Deep.QuietTactic
import Derived.BigQuiet
import Derived.Test.YtkflinobmagiiaaJoin7
import Derived.Test.YtkflinobmagiiaaJoin6
/-! YtkflinobmagiiaaRow -/
section

namespace Go.Proofs.Ytkflinobmagiiaa
open Go.RowKit
set_option linter.unusedVariables false

theorem Try.infoI64 : (Try.prog.info? 3).map (fun i => (i.zero, i.size, i.bytes)) = some (some (.int .i64 0), 1, 8) := by kernel_rfl

/-- The cells of a list of numbers. -/
def icells (l : List Int) : List Value := l.map (Value.int .i64)
theorem icells_length (l : List Int) : (icells l).length = l.length := by simp [icells]
theorem icells_append (a b : List Int) : icells (a ++ b) = icells a ++ icells b := by simp [icells]
theorem icells_get (l : List Int) (j : Nat) (h : j < l.length) : (icells l)[j]? = some (.int .i64 (l.getD j 0)) := by simp [icells, List.getD, h]
theorem icells_set (l : List Int) (j : Nat) (x : Int) : (icells l).set j (.int .i64 x) = icells (l.set j x) := by simp [icells]
theorem set_fill (xs : List Int) (k m : Nat) (hk : k < xs.length) : (xs.take k ++ List.replicate (m + 1) 0).set k (xs.getD k 0) = xs.take (k + 1) ++ List.replicate m 0 := by
  have h1 : (xs.take k).length = k := by simp; omega
  rw [List.set_append_right _ _ (by omega), h1, Nat.sub_self, List.replicate_succ, List.set_cons_zero, List.take_add_one, List.getElem?_eq_getElem hk, List.append_assoc]
  simp [List.getD, hk]

/-- A row of numbers below B, as a walk reads it. -/
structure IntsIn (B : Nat) (w : World) (a : Option Addr) (n : Nat) (xs : List Int) : Prop where
  len : xs.length = n
  room : n ≤ 1048576
  cells : ∀ j, j < n → ∃ b o, a = some ⟨b, o, none⟩ ∧ b < B ∧ w.cell? ⟨b, o + j, none⟩ = some (.int .i64 (xs.getD j 0))
theorem IntsIn.below {B B' : Nat} {w w' : World} {a : Option Addr} {n : Nat} {xs : List Int} (h : IntsIn B w a n xs) (hb : Below B' w w') (hB : B ≤ B') : IntsIn B w' a n xs :=
  ⟨h.len, h.room, fun j hj => by
    obtain ⟨b, o, e1, e2, e3⟩ := h.cells j hj
    exact ⟨b, o, e1, e2, (hb.cell (p := ⟨b, o + j, none⟩) (Nat.lt_of_lt_of_le e2 hB)).trans e3⟩⟩
theorem IntsIn.le {B B' : Nat} {w : World} {a : Option Addr} {n : Nat} {xs : List Int} (h : IntsIn B w a n xs) (hB : B ≤ B') : IntsIn B' w a n xs :=
  ⟨h.len, h.room, fun j hj => by
    obtain ⟨b, o, e1, e2, e3⟩ := h.cells j hj
    exact ⟨b, o, e1, Nat.lt_of_lt_of_le e2 hB, e3⟩⟩

/-- A row of numbers of the call's own, from block 'base' on. -/
def Row (base : Nat) (w : World) (v : Value) (xs : List Int) : Prop := w.ownsRow base 3 1 v xs.length (icells xs)
theorem Row.nil (base : Nat) (w : World) : Row base w (.slice none 0 0) [] := World.ownsRow_nil _ _ _ _
theorem Row.form {base : Nat} {w : World} {v : Value} {xs : List Int} (h : Row base w v xs) : ∃ a cap, v = .slice a xs.length cap ∧ (xs.length ≤ 1048576 → IntsIn w.heap.size w a xs.length xs) := by
  have hcs := fun g (h' : v.ownBlock = some g) => World.ownsRow.cells h (g := g) h'
  have hlt := World.ownsRow.lt h
  rcases h.2 with ⟨rfl, hn⟩ | ⟨g, cap, cur, rfl, hb, hg, _⟩
  · have : xs = [] := List.eq_nil_of_length_eq_zero hn
    subst this
    exact ⟨none, 0, rfl, fun _ => ⟨rfl, by decide, fun j hj => absurd hj (Nat.not_lt_zero _)⟩⟩
  · refine ⟨_, cap, rfl, fun hr => ⟨rfl, hr, fun j hj => ⟨g, 0, rfl, (hlt g rfl).2, ?_⟩⟩⟩
    have := hcs g rfl j _ (icells_get xs j hj)
    rw [Addr.add_lit] at this
    exact this
theorem Row.lt {base : Nat} {w : World} {v : Value} {xs : List Int} (h : Row base w v xs) : ∀ k, v.ownBlock = some k → base ≤ k ∧ k < w.heap.size := World.ownsRow.lt h
theorem Row.le {base base' : Nat} {w : World} {v : Value} {xs : List Int} (h : Row base w v xs) (hB : base' ≤ base) : Row base' w v xs := World.ownsRow.mono h hB
theorem Row.kept {base : Nat} {w w' : World} {v : Value} {xs : List Int} {row : Option Nat} (h : Row base w v xs) (hg : w.grownBy w' row) (hne : v.ownBlock = none ∨ v.ownBlock ≠ row) : Row base w' v xs := World.ownsRow.kept h hg hne
theorem Row.below {base : Nat} {w w' : World} {v : Value} {xs : List Int} (h : Row base w v xs) (hb : Below w.heap.size w w') : Row base w' v xs :=
  h.kept (row := none) ⟨hb.os, hb.tape, hb.output, hb.size, fun b hb' _ => hb.block b hb'⟩ (by
    cases hv : v.ownBlock with
    | none => exact .inl rfl
    | some g => exact .inr (by simp))
/-- A row from base on is no business of what lies below. -/
theorem below_of_grown {base : Nat} {w w' : World} {v : Value} {xs : List Int} (h : Row base w v xs) (hg : w.grownBy w' v.ownBlock) (hB : base ≤ w.heap.size) : Below base w w' :=
  (Below.refl base w).grown hg hB (fun k hk => (h.lt k hk).1)

/-- The marks: k, k+1, .. -/
def marks (k : Int) (n : Nat) : List Int := (List.range n).map (fun (j : Nat) => k + (j : Int))
theorem grownBy_trans' {w w1 w2 : World} {r : Option Nat} (h : w.grownBy w1 r) (k : w1.grownBy w2 r) : w.grownBy w2 r :=
  ⟨k.os.trans h.os, k.tape.trans h.tape, k.output.trans h.output, Nat.le_trans h.size k.size, fun b hb hne => (k.block b (Nat.lt_of_lt_of_le hb h.size) hne).trans (h.block b hb hne)⟩
theorem marks_length (k : Int) (n : Nat) : (marks k n).length = n := by simp [marks]
theorem marks_get (k : Int) (n j : Nat) (h : j < n) : (marks k n).getD j 0 = k + j := by simp [marks, List.getD, h]
theorem marks_set (k : Int) (xs : List Int) (j : Nat) (h : j < xs.length) : (marks k j ++ xs.drop j).set j (k + j) = marks k (j + 1) ++ xs.drop (j + 1) := by
  rw [List.set_append_right _ _ (by rw [marks_length]; omega), marks_length, Nat.sub_self, List.drop_eq_getElem_cons h, List.set_cons_zero]
  simp [marks, List.range_succ]

set_option maxRecDepth 100000 in
theorem toIntS_any (B : Nat) (w : World) (a : Option Addr) (n cap : Nat) (xs : List Int) (h : IntsIn B w a n xs) (hB : B ≤ w.heap.size) :
    Calls Try.prog 47 #[.slice a n cap] w fun e w' => e = .returned (.slice (some ⟨w.heap.size, 0, none⟩) n n) ∧ Row w.heap.size w' (.slice (some ⟨w.heap.size, 0, none⟩) n n) xs ∧ Below w.heap.size w w' := by
  obtain ⟨i0, hi, hz0, hz1, hz2⟩ := info_parts Try.infoI64
  have hroom := h.room
  have H := Lib.hid h
  have hmk := fun (w : World) => run_make (P := Try.prog) w 27 3 i0 (.int .i64 0) Try.underlying27 hi hz0 .i64 .i64 n n (by omega) (by omega) (by rw [hz2]; omega) (by omega)
  obtain ⟨Z, hZ⟩ : ∃ Z, Z = madeCells (Value.cells (.int .i64 0)) ((n : Int).toNat * i0.size) := ⟨_, rfl⟩
  have hZl : Z.toList = icells (List.replicate n 0) := by
    rw [hZ, hz1]
    show (madeCells #[Value.int .i64 0] _).toList = _
    rw [toList_madeCells_one]
    simp [icells]
  have hZs : Z.size = n := by have := congrArg List.length hZl; simpa [icells] using this
  rw [← hZ] at hmk
  have HZ := Lib.hid hZl
  have HS := Lib.hid hZs
  clear hZl hZs hZ h
  have hown : (w.alloc (.cells Z 3)).ownsRow w.heap.size 3 1 (.slice (some ⟨w.heap.size, 0, none⟩) n n) n (icells (xs.take 0 ++ List.replicate (n - 0) 0)) := by
    refine ⟨by simp [icells], .inr ⟨_, _, Z, rfl, Nat.le_refl _, heap_alloc_new w _, Nat.le_refl _, by unfold maxLen; omega, by rw [HS.out]; omega, ?_⟩⟩
    rw [HZ.out]
    simp [icells]
  have HO := Lib.hid hown
  clear hown
  go_enter Try.func47, Try.ntmps47
  go_wp2_with fail
  go_loopw [4] (fun i wr => ∃ k : Nat, k ≤ n ∧ i = .int .i64 k ∧ wr.ownsRow w.heap.size 3 1 (.slice (some ⟨w.heap.size, 0, none⟩) n n) n (icells (xs.take k ++ List.replicate (n - k) 0)) ∧ Below w.heap.size w wr) (fun i _ => n - (intOf i).toNat)
  case atStart => exact ⟨0, Nat.zero_le _, rfl, HO.out, (Below.refl _ _).alloc (Nat.le_refl _) _⟩
  case round =>
    obtain ⟨k, hk, rfl, hown, hb⟩ := hrel
    have HW := Lib.hid hown
    have HB := Lib.hid hb
    clear hown hb
    by_cases hlt : k < n
    · obtain ⟨b, o, rfl, hbB, hcell0⟩ := H.out.cells k hlt
      obtain ⟨X, hX⟩ : ∃ X, X = xs.getD k 0 := ⟨_, rfl⟩
      rw [← hX] at hcell0
      have hcell := (HB.out.cell (p := ⟨b, o + k, none⟩) (Nat.lt_of_lt_of_le hbB hB)).trans hcell0
      have hfr := HW.out.frozenAt k
      obtain ⟨u, hu⟩ : ∃ u, wr.cell? ⟨w.heap.size, k, none⟩ = some u := by
        rw [HW.out.cellAt k (by omega)]
        have : k < (icells (xs.take k ++ List.replicate (n - k) 0)).length := by rw [HW.out.1]; omega
        exact ⟨_, List.getElem?_eq_getElem this⟩
      have HX := Lib.hid hX
      clear hX
      go_wp2_with fail
      obtain ⟨hs1, hs2⟩ := HW.out.stored k (.int .i64 X)
      go_roundw
      case rel =>
        refine ⟨k + 1, by omega, by go_num, ?_, HB.out.setCell (by exact Nat.le_refl _) _⟩
        have e : (icells (xs.take k ++ List.replicate (n - k) 0)).set k (.int .i64 X) = icells (xs.take (k + 1) ++ List.replicate (n - (k + 1)) 0) := by
          rw [icells_set, HX.out, show n - k = (n - (k + 1)) + 1 by omega, set_fill _ _ _ (by rw [H.out.len]; exact hlt)]
        rw [← e]
        exact hs1
      case measure => simp [intOf]; omega
    · have hkn : k = n := by omega
      subst hkn
      go_wp2_with fail
      go_ret
      refine ⟨rfl, ?_, HB.out⟩
      have := HW.out
      rw [List.take_of_length_le (by rw [H.out.len]; omega), Nat.sub_self, List.replicate_zero, List.append_nil] at this
      unfold Row
      rw [H.out.len]
      exact this

set_option maxRecDepth 100000 in
theorem eqIntS_any (w : World) (a1 : Option Addr) (n1 c1 : Nat) (xs : List Int) (a2 : Option Addr) (n2 c2 : Nat) (ys : List Int) (h1 : IntsIn w.heap.size w a1 n1 xs) (h2 : IntsIn w.heap.size w a2 n2 ys) :
    Calls Try.prog 51 #[.slice a1 n1 c1, .slice a2 n2 c2] w fun e w' => e = .returned (.bool (decide (xs = ys))) ∧ Below w.heap.size w w' := by
  have hr1 := h1.room
  have hr2 := h2.room
  by_cases hn : n1 = n2
  · subst hn
    have H1 := Lib.hid h1
    have H2 := Lib.hid h2
    clear h1 h2
    obtain ⟨d, hd⟩ : ∃ d, d = decide (xs = ys) := ⟨_, rfl⟩
    rw [← hd]
    have HD := Lib.hid hd
    clear hd
    go_enter Try.func51, Try.ntmps51
    go_wp2_with fail
    go_loopw [5] (fun i wr => ∃ k : Nat, k ≤ n1 ∧ i = .int .i64 k ∧ Hid (∀ j, j < k → xs.getD j 0 = ys.getD j 0) ∧ Below w.heap.size w wr) (fun i _ => n1 - (intOf i).toNat)
    case atStart => exact ⟨0, Nat.zero_le _, rfl, fun j hj => absurd hj (Nat.not_lt_zero _), Below.refl _ _⟩
    case round =>
      obtain ⟨k, hk, rfl, hsame, hb⟩ := hrel
      have HB := Lib.hid hb
      clear hb
      by_cases hlt : k < n1
      · obtain ⟨b, o, rfl, hbB, hcell0⟩ := H1.out.cells k hlt
        obtain ⟨b', o', rfl, hbB', hcell0'⟩ := H2.out.cells k hlt
        obtain ⟨X, hX⟩ : ∃ X, X = xs.getD k 0 := ⟨_, rfl⟩
        obtain ⟨Y, hY⟩ : ∃ Y, Y = ys.getD k 0 := ⟨_, rfl⟩
        rw [← hX] at hcell0
        rw [← hY] at hcell0'
        have hcell := (HB.out.cell (p := ⟨b, o + k, none⟩) hbB).trans hcell0
        have hcell' := (HB.out.cell (p := ⟨b', o' + k, none⟩) hbB').trans hcell0'
        clear hcell0 hcell0'
        by_cases hxy : X = Y
        · subst hxy
          have HX := Lib.hid hX
          have HY := Lib.hid hY
          clear hX hY
          go_wp2_with fail
          go_quiet (fail)
          go_wp2_with fail
          go_roundw
          case rel =>
            refine ⟨k + 1, by omega, by go_num, show Hid _ from fun j hj => ?_, HB.out.trans ⟨rfl, rfl, rfl, Nat.le_refl _, fun _ _ => rfl⟩⟩
            by_cases e : j = k
            · subst e; exact HX.out.symm.trans HY.out
            · exact hsame.out j (by omega)
          case measure => simp [intOf]; omega
        · have hne : (X == Y) = false := by simpa using hxy
          have hdf : d = false := by
            rw [HD.out]
            refine decide_eq_false fun e => hxy ?_
            rw [hX, hY, e]
          subst hdf
          clear hX hY
          go_wp2_with fail
          go_quiet (fail)
          go_wp2_with fail
          go_ret
          exact ⟨rfl, HB.out.trans ⟨rfl, rfl, rfl, Nat.le_refl _, fun _ _ => rfl⟩⟩
      · have hkn : k = n1 := by omega
        subst hkn
        have hdt : d = true := by
          rw [HD.out]
          refine decide_eq_true (List.ext_getElem? fun j => ?_)
          by_cases hj : j < k
          · have := hsame.out j hj
            have l1 := H1.out.len
            have l2 := H2.out.len
            rw [List.getElem?_eq_getElem (by omega), List.getElem?_eq_getElem (by omega)]
            simpa [List.getD, l1, l2, hj] using this
          · have l1 := H1.out.len
            have l2 := H2.out.len
            rw [List.getElem?_eq_none (by omega), List.getElem?_eq_none (by omega)]
        subst hdt
        go_wp2_with fail
        go_ret
        exact ⟨rfl, HB.out⟩
  · have hne : ((n1 : Int) == (n2 : Int)) = false := by rw [beq_eq_false_iff_ne]; omega
    have hd : decide (xs = ys) = false := by
      refine decide_eq_false fun e => hn ?_
      rw [← h1.len, ← h2.len, e]
    rw [hd]
    clear hd h1 h2
    go_enter Try.func51, Try.ntmps51
    go_wp2_with fail
    go_ret
    exact ⟨rfl, Below.refl _ _⟩

theorem Row.ints {base : Nat} {w : World} {a : Option Addr} {n c : Nat} {xs : List Int} (h : Row base w (.slice a n c) xs) (hl : xs.length = n) (hr : n ≤ 1048576 := by omega) : IntsIn w.heap.size w a n xs := by
  obtain ⟨a', c', e, hi⟩ := h.form
  cases e
  exact hi (by omega)
theorem Row.form' {base : Nat} {w : World} {v : Value} {n : Nat} {xs : List Int} (h : Row base w v xs) (hl : Hid (xs.length = n)) (hr : n ≤ 1048576) : ∃ a cap, v = .slice a n cap ∧ IntsIn w.heap.size w a n xs := by
  obtain ⟨a, c, e, hi⟩ := h.form
  have := hl.out
  subst this
  exact ⟨a, c, e, hi hr⟩
theorem apart_of {base : Nat} {w : World} {v v2 : Value} {zs : List Int} (h : Row base w v2 zs) (hk : ∀ k, v.ownBlock = some k → k < base) : v2.ownBlock = none ∨ v2.ownBlock ≠ v.ownBlock := by
  cases e : v2.ownBlock with
  | none => exact .inl rfl
  | some g =>
    refine .inr fun e2 => ?_
    have := h.lt g e
    have := hk g e2.symm
    omega
theorem eqIntS_same (w : World) (a1 : Option Addr) (n1 c1 : Nat) (xs : List Int) (a2 : Option Addr) (c2 : Nat) (h1 : IntsIn w.heap.size w a1 n1 xs) (h2 : IntsIn w.heap.size w a2 n1 xs) :
    Calls Try.prog 51 #[.slice a1 n1 c1, .slice a2 n1 c2] w fun e w' => e = .returned (.bool true) ∧ Below w.heap.size w w' :=
  (eqIntS_any w a1 n1 c1 xs a2 n1 c2 xs h1 h2).mono fun e w' ⟨he, hb⟩ => ⟨by rw [he, decide_eq_true rfl], hb⟩
end Go.Proofs.Ytkflinobmagiiaa

end

/-! YtkflinobmagiiaaVecM -/
section

namespace Go.Proofs.Ytkflinobmagiiaa
set_option linter.unusedVariables false

/-- Is it a right row? -/
def vecOkB (xs : List Int) : Bool := decide (1 ≤ xs.length) && decide (xs.length ≤ 6) && xs.all okB
theorem vecOkB_len {xs : List Int} (h : xs.length < 1 ∨ 6 < xs.length) : vecOkB xs = false := by
  unfold vecOkB
  rcases h with h | h
  · rw [decide_eq_false (by omega : ¬ 1 ≤ xs.length)]; simp
  · rw [decide_eq_false (by omega : ¬ xs.length ≤ 6)]; simp
theorem vecOkB_place {xs : List Int} {k : Nat} (hk : k < xs.length) (h : okB (xs.getD k 0) = false) : vecOkB xs = false := by
  have h1 : xs.getD k 0 ∈ xs := by simp [List.getD, hk]
  have h2 : xs.all okB = false := List.all_eq_false.2 ⟨_, h1, by rw [h]; decide⟩
  unfold vecOkB
  rw [h2, Bool.and_false]
theorem vecOkB_yes {xs : List Int} (h0 : 1 ≤ xs.length) (h1 : xs.length ≤ 6) (h : ∀ j, j < xs.length → okB (xs.getD j 0) = true) : vecOkB xs = true := by
  have h2 : xs.all okB = true := by
    refine List.all_eq_true.2 fun x hx => ?_
    obtain ⟨j, hj, rfl⟩ := List.mem_iff_getElem.1 hx
    have := h j hj
    simpa [List.getD, hj] using this
  unfold vecOkB
  rw [h2, decide_eq_true h0, decide_eq_true h1]
  rfl
theorem vecOkB_has {xs : List Int} (h : vecOkB xs = true) : 1 ≤ xs.length ∧ xs.length ≤ 6 ∧ ∀ j, j < xs.length → okB (xs.getD j 0) = true := by
  unfold vecOkB at h
  simp only [Bool.and_eq_true, decide_eq_true_eq, List.all_eq_true] at h
  refine ⟨h.1.1, h.1.2, fun j hj => h.2 _ ?_⟩
  simp [List.getD, hj]

/-- Are both right, and of one length? -/
def pairB (xs ys : List Int) : Bool := vecOkB xs && vecOkB ys && decide (xs.length = ys.length)
theorem pairB_has {xs ys : List Int} (h : pairB xs ys = true) : vecOkB xs = true ∧ vecOkB ys = true ∧ xs.length = ys.length := by
  unfold pairB at h
  simp only [Bool.and_eq_true, decide_eq_true_eq] at h
  exact ⟨h.1.1, h.1.2, h.2⟩
theorem pairB_comm (xs ys : List Int) : pairB ys xs = pairB xs ys := by
  unfold pairB
  rw [Bool.and_comm (vecOkB ys), show decide (ys.length = xs.length) = decide (xs.length = ys.length) from decide_eq_decide.2 ⟨Eq.symm, Eq.symm⟩]
theorem pairB_self (xs : List Int) : pairB xs xs = vecOkB xs := by unfold pairB; simp
theorem pairB_nil {xs ys : List Int} (h : xs.length = 0) : pairB xs ys = false := by
  unfold pairB
  rw [vecOkB_len (Or.inl (by omega))]
  rfl

/-- What comes of the first k places. -/
def rowK (f : Int → Int → Int) (xs ys : List Int) : Nat → List Int
  | 0 => []
  | k + 1 => rowK f xs ys k ++ [f (xs.getD k 0) (ys.getD k 0)]
theorem rowK_length (f : Int → Int → Int) (xs ys : List Int) (k : Nat) : (rowK f xs ys k).length = k := by
  induction k with
  | zero => rfl
  | succ k ih => simp [rowK, ih]
theorem rowK_get (f : Int → Int → Int) (xs ys : List Int) (k j : Nat) (hj : j < k) : (rowK f xs ys k).getD j 0 = f (xs.getD j 0) (ys.getD j 0) := by
  induction k with
  | zero => omega
  | succ k ih =>
    by_cases e : j = k
    · subst e
      have := rowK_length f xs ys j
      simp only [rowK, List.getD]
      rw [List.getElem?_append_right (by omega), this, Nat.sub_self]
      rfl
    · have hl := rowK_length f xs ys k
      have := ih (by omega)
      simp only [rowK, List.getD] at this ⊢
      rw [List.getElem?_append_left (by omega)]
      exact this
theorem rowK_congr {f g : Int → Int → Int} {xs ys us vs : List Int} (k : Nat) (h : ∀ j, j < k → f (xs.getD j 0) (ys.getD j 0) = g (us.getD j 0) (vs.getD j 0)) : rowK f xs ys k = rowK g us vs k := by
  induction k with
  | zero => rfl
  | succ k ih => simp only [rowK]; rw [ih (fun j hj => h j (by omega)), h k (by omega)]
def flagK (g : Int → Int → Bool) (xs ys : List Int) : Nat → Bool
  | 0 => false
  | k + 1 => flagK g xs ys k || g (xs.getD k 0) (ys.getD k 0)
theorem flagK_none (xs ys : List Int) (k : Nat) : flagK (fun _ _ => false) xs ys k = false := by
  induction k with
  | zero => rfl
  | succ k ih => simp [flagK, ih]
/-- What comes of two rows, place by place. -/
def rowP (f : Int → Int → Int) (xs ys : List Int) : List Int := if pairB xs ys then rowK f xs ys xs.length else []
def flagP (g : Int → Int → Bool) (xs ys : List Int) : Bool := pairB xs ys && flagK g xs ys xs.length
theorem rowP_no (f : Int → Int → Int) {xs ys : List Int} (h : pairB xs ys = false) : rowP f xs ys = [] := by unfold rowP; rw [h]; rfl
theorem rowP_yes (f : Int → Int → Int) {xs ys : List Int} (h : pairB xs ys = true) : rowP f xs ys = rowK f xs ys xs.length := by unfold rowP; rw [h]; rfl
theorem flagP_no (f : Int → Int → Bool) {xs ys : List Int} (h : pairB xs ys = false) : flagP f xs ys = false := by unfold flagP; rw [h]; rfl
theorem flagP_yes (f : Int → Int → Bool) {xs ys : List Int} (h : pairB xs ys = true) : flagP f xs ys = flagK f xs ys xs.length := by unfold flagP; rw [h]; rfl
theorem rowP_length (f : Int → Int → Int) (xs ys : List Int) : (rowP f xs ys).length ≤ 6 := by
  by_cases h : pairB xs ys = true
  · rw [rowP_yes f h, rowK_length]
    exact (vecOkB_has (pairB_has h).1).2.1
  · rw [rowP_no f (by simpa using h)]
    decide
theorem flagP_none (xs ys : List Int) : flagP (fun _ _ => false) xs ys = false := by unfold flagP; rw [flagK_none, Bool.and_false]
/-- A number to each place. -/
def scaleN (c : Int) (xs : List Int) : List Int := if okB c then rowP (fun x _ => mulN c x) xs xs else []
def scaleB (c : Int) (xs : List Int) : Bool := okB c && flagP (fun x _ => mulB c x) xs xs
theorem scaleN_length (c : Int) (xs : List Int) : (scaleN c xs).length ≤ 6 := by
  unfold scaleN
  split
  · exact rowP_length _ _ _
  · decide
/-- A sum through both rows. -/
def sumK (F : Int → Int → Int → Int) (xs ys : List Int) : Nat → Int
  | 0 => 0
  | k + 1 => F (sumK F xs ys k) (xs.getD k 0) (ys.getD k 0)
def sumKB (F : Int → Int → Int → Int) (G : Int → Int → Int → Bool) (xs ys : List Int) : Nat → Bool
  | 0 => false
  | k + 1 => sumKB F G xs ys k || G (sumK F xs ys k) (xs.getD k 0) (ys.getD k 0)
/-- Products, added from the left. -/
def dotF (s x y : Int) : Int := addN s (mulN x y)
def dotG (s x y : Int) : Bool := mulB x y || addB s (mulN x y)
abbrev dotK (xs ys : List Int) (k : Nat) : Int := sumK dotF xs ys k
abbrev dotKB (xs ys : List Int) (k : Nat) : Bool := sumKB dotF dotG xs ys k
def dotN (xs ys : List Int) : Int := if pairB xs ys then dotK xs ys xs.length else 0
def dotB (xs ys : List Int) : Bool := pairB xs ys && dotKB xs ys xs.length
theorem dotN_no {xs ys : List Int} (h : pairB xs ys = false) : dotN xs ys = 0 := by unfold dotN; rw [h]; rfl
theorem dotN_yes {xs ys : List Int} (h : pairB xs ys = true) : dotN xs ys = dotK xs ys xs.length := by unfold dotN; rw [h]; rfl
theorem dotB_no {xs ys : List Int} (h : pairB xs ys = false) : dotB xs ys = false := by unfold dotB; rw [h]; rfl
theorem dotB_yes {xs ys : List Int} (h : pairB xs ys = true) : dotB xs ys = dotKB xs ys xs.length := by unfold dotB; rw [h]; rfl
/-- What VecMask lets through. -/
def maskN (x d : Int) : Int := if 0 < x then d else 0
theorem maskN_yes {x : Int} (d : Int) (h : 0 < x) : maskN x d = d := if_pos h
theorem maskN_no {x : Int} (d : Int) (h : ¬ 0 < x) : maskN x d = 0 := if_neg h
end Go.Proofs.Ytkflinobmagiiaa

end

/-! YtkflinobmagiiaaSpecFix -/
section

namespace Go.Proofs.Ytkflinobmagiiaa
open Go.RowKit
set_option linter.unusedVariables false

theorem l1In_any (x lo hi : Int) (w : World) :
    Calls Try.prog 41 #[.int .i64 x, .int .i64 lo, .int .i64 hi] w fun e w' => e = .returned (.bool (inB lo hi x)) ∧ w = w' := by
  by_cases h1 : x < lo
  · have HD := Lib.hid (inB_no (hi := hi) (Or.inl h1))
    go_enter Try.func41, Try.ntmps41
    go_wp2
    go_ret
    exact ⟨by rw [HD.out] <;> rfl, rfl⟩
  · by_cases h2 : hi < x
    · have HD := Lib.hid (inB_no (lo := lo) (Or.inr h2))
      have h3 : decide (x ≤ hi) = false := by simpa using h2
      go_enter Try.func41, Try.ntmps41
      go_wp2
      go_ret
      exact ⟨by rw [HD.out] <;> rfl, rfl⟩
    · have h3 : lo ≤ x := by omega
      have h4 : x ≤ hi := by omega
      have HD := Lib.hid (inB_yes h3 h4)
      clear h1 h2
      go_enter Try.func41, Try.ntmps41
      go_wp2
      go_ret
      exact ⟨by rw [HD.out] <;> rfl, rfl⟩
theorem specFixOk_any (x : Int) (w : World) :
    Calls Try.prog 97 #[.int .i64 x] w fun e w' => e = .returned (.bool (okB x)) ∧ w = w' := by
  go_enter Try.func97, Try.ntmps97
  go_wp2_with fail
  refine (l1In_any x (-2147483647) 2147483647 _).mono ?_
  rintro e w1 ⟨rfl, rfl⟩
  go_wp2_with fail
  go_ret
  exact ⟨rfl, rfl⟩
end Go.Proofs.Ytkflinobmagiiaa

end
