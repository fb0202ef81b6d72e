import Derived.WalkKit
import Derived.Laws.CopyOwn
import Derived.Laws.IdiomStrings
import Derived.Lib.Hide
import Derived.Test.YtcooobnaocbdjaaProg
import Derived.Laws.AppendOwn
import Derived.Laws.OwnMore
import Derived.Laws.MakeOwn
import Derived.Deep.Onto
import Derived.Deep.QuietTactic
import Derived.BigQuiet
/-! YtcooobnaocbdjaaPBytes -/
section

namespace Go.Proofs.Ytcooobnaocbdjaa
open Go.RowKit

/-- The cells of a list of bytes. -/
def bcells (l : List UInt8) : List Value := l.map (fun b => Value.int .u8 (b.toNat : Int))
end Go.Proofs.Ytcooobnaocbdjaa

end

/-! YtcooobnaocbdjaaPRow -/
section

namespace Go.Proofs.Ytcooobnaocbdjaa
open Go.RowKit
set_option linter.unusedVariables false

theorem Try.infoI64 : (Try.prog.info? 3).map (fun i => (i.zero, i.size, i.bytes)) = some (some (.int .i64 0), 1, 8) := by kernel_rfl

/-- The cells of a list of numbers. -/
def icells (l : List Int) : List Value := l.map (Value.int .i64)
theorem icells_get (l : List Int) (j : Nat) (h : j < l.length) : (icells l)[j]? = some (.int .i64 (l.getD j 0)) := by simp [icells, List.getD, h]
theorem icells_set (l : List Int) (j : Nat) (x : Int) : (icells l).set j (.int .i64 x) = icells (l.set j x) := by simp [icells]
theorem set_fill (xs : List Int) (k m : Nat) (hk : k < xs.length) : (xs.take k ++ List.replicate (m + 1) 0).set k (xs.getD k 0) = xs.take (k + 1) ++ List.replicate m 0 := by
  have h1 : (xs.take k).length = k := by simp; omega
  rw [List.set_append_right _ _ (by omega), h1, Nat.sub_self, List.replicate_succ, List.set_cons_zero, List.take_add_one, List.getElem?_eq_getElem hk, List.append_assoc]
  simp [List.getD, hk]

/-- A row of numbers below B, as a walk reads it. -/
structure IntsIn (B : Nat) (w : World) (a : Option Addr) (n : Nat) (xs : List Int) : Prop where
  len : xs.length = n
  room : n ≤ 1048576
  cells : ∀ j, j < n → ∃ b o, a = some ⟨b, o, none⟩ ∧ b < B ∧ w.cell? ⟨b, o + j, none⟩ = some (.int .i64 (xs.getD j 0))
theorem IntsIn.below {B B' : Nat} {w w' : World} {a : Option Addr} {n : Nat} {xs : List Int} (h : IntsIn B w a n xs) (hb : Below B' w w') (hB : B ≤ B') : IntsIn B w' a n xs :=
  ⟨h.len, h.room, fun j hj => by
    obtain ⟨b, o, e1, e2, e3⟩ := h.cells j hj
    exact ⟨b, o, e1, e2, (hb.cell (p := ⟨b, o + j, none⟩) (Nat.lt_of_lt_of_le e2 hB)).trans e3⟩⟩
theorem IntsIn.le {B B' : Nat} {w : World} {a : Option Addr} {n : Nat} {xs : List Int} (h : IntsIn B w a n xs) (hB : B ≤ B') : IntsIn B' w a n xs :=
  ⟨h.len, h.room, fun j hj => by
    obtain ⟨b, o, e1, e2, e3⟩ := h.cells j hj
    exact ⟨b, o, e1, Nat.lt_of_lt_of_le e2 hB, e3⟩⟩

/-- A row of numbers of the call's own, from block 'base' on. -/
def Row (base : Nat) (w : World) (v : Value) (xs : List Int) : Prop := w.ownsRow base 3 1 v xs.length (icells xs)
theorem Row.nil (base : Nat) (w : World) : Row base w (.slice none 0 0) [] := World.ownsRow_nil _ _ _ _
theorem Row.form {base : Nat} {w : World} {v : Value} {xs : List Int} (h : Row base w v xs) : ∃ a cap, v = .slice a xs.length cap ∧ (xs.length ≤ 1048576 → IntsIn w.heap.size w a xs.length xs) := by
  have hcs := fun g (h' : v.ownBlock = some g) => World.ownsRow.cells h (g := g) h'
  have hlt := World.ownsRow.lt h
  rcases h.2 with ⟨rfl, hn⟩ | ⟨g, cap, cur, rfl, hb, hg, _⟩
  · have : xs = [] := List.eq_nil_of_length_eq_zero hn
    subst this
    exact ⟨none, 0, rfl, fun _ => ⟨rfl, by decide, fun j hj => absurd hj (Nat.not_lt_zero _)⟩⟩
  · refine ⟨_, cap, rfl, fun hr => ⟨rfl, hr, fun j hj => ⟨g, 0, rfl, (hlt g rfl).2, ?_⟩⟩⟩
    have := hcs g rfl j _ (icells_get xs j hj)
    rw [Addr.add_lit] at this
    exact this
theorem Row.lt {base : Nat} {w : World} {v : Value} {xs : List Int} (h : Row base w v xs) : ∀ k, v.ownBlock = some k → base ≤ k ∧ k < w.heap.size := World.ownsRow.lt h
theorem Row.le {base base' : Nat} {w : World} {v : Value} {xs : List Int} (h : Row base w v xs) (hB : base' ≤ base) : Row base' w v xs := World.ownsRow.mono h hB
theorem Row.kept {base : Nat} {w w' : World} {v : Value} {xs : List Int} {row : Option Nat} (h : Row base w v xs) (hg : w.grownBy w' row) (hne : v.ownBlock = none ∨ v.ownBlock ≠ row) : Row base w' v xs := World.ownsRow.kept h hg hne
theorem Row.below {base : Nat} {w w' : World} {v : Value} {xs : List Int} (h : Row base w v xs) (hb : Below w.heap.size w w') : Row base w' v xs :=
  h.kept (row := none) ⟨hb.os, hb.tape, hb.output, hb.size, fun b hb' _ => hb.block b hb'⟩ (by
    cases hv : v.ownBlock with
    | none => exact .inl rfl
    | some g => exact .inr (by simp))
/-- The marks: k, k+1, .. -/
def marks (k : Int) (n : Nat) : List Int := (List.range n).map (fun (j : Nat) => k + (j : Int))
set_option maxRecDepth 100000 in
theorem toIntS_any (B : Nat) (w : World) (a : Option Addr) (n cap : Nat) (xs : List Int) (h : IntsIn B w a n xs) (hB : B ≤ w.heap.size) :
    Calls Try.prog 93 #[.slice a n cap] w fun e w' => e = .returned (.slice (some ⟨w.heap.size, 0, none⟩) n n) ∧ Row w.heap.size w' (.slice (some ⟨w.heap.size, 0, none⟩) n n) xs ∧ Below w.heap.size w w' := by
  obtain ⟨i0, hi, hz0, hz1, hz2⟩ := info_parts Try.infoI64
  have hroom := h.room
  have H := Lib.hid h
  have hmk := fun (w : World) => run_make (P := Try.prog) w 58 3 i0 (.int .i64 0) Try.underlying58 hi hz0 .i64 .i64 n n (by omega) (by omega) (by rw [hz2]; omega) (by omega)
  obtain ⟨Z, hZ⟩ : ∃ Z, Z = madeCells (Value.cells (.int .i64 0)) ((n : Int).toNat * i0.size) := ⟨_, rfl⟩
  have hZl : Z.toList = icells (List.replicate n 0) := by
    rw [hZ, hz1]
    show (madeCells #[Value.int .i64 0] _).toList = _
    rw [toList_madeCells_one]
    simp [icells]
  have hZs : Z.size = n := by have := congrArg List.length hZl; simpa [icells] using this
  rw [← hZ] at hmk
  have HZ := Lib.hid hZl
  have HS := Lib.hid hZs
  clear hZl hZs hZ h
  have hown : (w.alloc (.cells Z 3)).ownsRow w.heap.size 3 1 (.slice (some ⟨w.heap.size, 0, none⟩) n n) n (icells (xs.take 0 ++ List.replicate (n - 0) 0)) := by
    refine ⟨by simp [icells], .inr ⟨_, _, Z, rfl, Nat.le_refl _, heap_alloc_new w _, Nat.le_refl _, by unfold maxLen; omega, by rw [HS.out]; omega, ?_⟩⟩
    rw [HZ.out]
    simp [icells]
  have HO := Lib.hid hown
  clear hown
  go_enter Try.func93, Try.ntmps93
  go_wp2_with fail
  go_loopw [4] (fun i wr => ∃ k : Nat, k ≤ n ∧ i = .int .i64 k ∧ wr.ownsRow w.heap.size 3 1 (.slice (some ⟨w.heap.size, 0, none⟩) n n) n (icells (xs.take k ++ List.replicate (n - k) 0)) ∧ Below w.heap.size w wr) (fun i _ => n - (intOf i).toNat)
  case atStart => exact ⟨0, Nat.zero_le _, rfl, HO.out, (Below.refl _ _).alloc (Nat.le_refl _) _⟩
  case round =>
    obtain ⟨k, hk, rfl, hown, hb⟩ := hrel
    have HW := Lib.hid hown
    have HB := Lib.hid hb
    clear hown hb
    by_cases hlt : k < n
    · obtain ⟨b, o, rfl, hbB, hcell0⟩ := H.out.cells k hlt
      obtain ⟨X, hX⟩ : ∃ X, X = xs.getD k 0 := ⟨_, rfl⟩
      rw [← hX] at hcell0
      have hcell := (HB.out.cell (p := ⟨b, o + k, none⟩) (Nat.lt_of_lt_of_le hbB hB)).trans hcell0
      have hfr := HW.out.frozenAt k
      obtain ⟨u, hu⟩ : ∃ u, wr.cell? ⟨w.heap.size, k, none⟩ = some u := by
        rw [HW.out.cellAt k (by omega)]
        have : k < (icells (xs.take k ++ List.replicate (n - k) 0)).length := by rw [HW.out.1]; omega
        exact ⟨_, List.getElem?_eq_getElem this⟩
      have HX := Lib.hid hX
      clear hX
      go_wp2_with fail
      obtain ⟨hs1, hs2⟩ := HW.out.stored k (.int .i64 X)
      go_roundw
      case rel =>
        refine ⟨k + 1, by omega, by go_num, ?_, HB.out.setCell (by exact Nat.le_refl _) _⟩
        have e : (icells (xs.take k ++ List.replicate (n - k) 0)).set k (.int .i64 X) = icells (xs.take (k + 1) ++ List.replicate (n - (k + 1)) 0) := by
          rw [icells_set, HX.out, show n - k = (n - (k + 1)) + 1 by omega, set_fill _ _ _ (by rw [H.out.len]; exact hlt)]
        rw [← e]
        exact hs1
      case measure => simp [intOf]; omega
    · have hkn : k = n := by omega
      subst hkn
      go_wp2_with fail
      go_ret
      refine ⟨rfl, ?_, HB.out⟩
      have := HW.out
      rw [List.take_of_length_le (by rw [H.out.len]; omega), Nat.sub_self, List.replicate_zero, List.append_nil] at this
      unfold Row
      rw [H.out.len]
      exact this

set_option maxRecDepth 100000 in
theorem eqIntS_any (w : World) (a1 : Option Addr) (n1 c1 : Nat) (xs : List Int) (a2 : Option Addr) (n2 c2 : Nat) (ys : List Int) (h1 : IntsIn w.heap.size w a1 n1 xs) (h2 : IntsIn w.heap.size w a2 n2 ys) :
    Calls Try.prog 100 #[.slice a1 n1 c1, .slice a2 n2 c2] w fun e w' => e = .returned (.bool (decide (xs = ys))) ∧ Below w.heap.size w w' := by
  have hr1 := h1.room
  have hr2 := h2.room
  by_cases hn : n1 = n2
  · subst hn
    have H1 := Lib.hid h1
    have H2 := Lib.hid h2
    clear h1 h2
    obtain ⟨d, hd⟩ : ∃ d, d = decide (xs = ys) := ⟨_, rfl⟩
    rw [← hd]
    have HD := Lib.hid hd
    clear hd
    go_enter Try.func100, Try.ntmps100
    go_wp2_with fail
    go_loopw [5] (fun i wr => ∃ k : Nat, k ≤ n1 ∧ i = .int .i64 k ∧ Hid (∀ j, j < k → xs.getD j 0 = ys.getD j 0) ∧ Below w.heap.size w wr) (fun i _ => n1 - (intOf i).toNat)
    case atStart => exact ⟨0, Nat.zero_le _, rfl, fun j hj => absurd hj (Nat.not_lt_zero _), Below.refl _ _⟩
    case round =>
      obtain ⟨k, hk, rfl, hsame, hb⟩ := hrel
      have HB := Lib.hid hb
      clear hb
      by_cases hlt : k < n1
      · obtain ⟨b, o, rfl, hbB, hcell0⟩ := H1.out.cells k hlt
        obtain ⟨b', o', rfl, hbB', hcell0'⟩ := H2.out.cells k hlt
        obtain ⟨X, hX⟩ : ∃ X, X = xs.getD k 0 := ⟨_, rfl⟩
        obtain ⟨Y, hY⟩ : ∃ Y, Y = ys.getD k 0 := ⟨_, rfl⟩
        rw [← hX] at hcell0
        rw [← hY] at hcell0'
        have hcell := (HB.out.cell (p := ⟨b, o + k, none⟩) hbB).trans hcell0
        have hcell' := (HB.out.cell (p := ⟨b', o' + k, none⟩) hbB').trans hcell0'
        clear hcell0 hcell0'
        by_cases hxy : X = Y
        · subst hxy
          have HX := Lib.hid hX
          have HY := Lib.hid hY
          clear hX hY
          go_wp2_with fail
          go_quiet (fail)
          go_wp2_with fail
          go_roundw
          case rel =>
            refine ⟨k + 1, by omega, by go_num, show Hid _ from fun j hj => ?_, HB.out.trans ⟨rfl, rfl, rfl, Nat.le_refl _, fun _ _ => rfl⟩⟩
            by_cases e : j = k
            · subst e; exact HX.out.symm.trans HY.out
            · exact hsame.out j (by omega)
          case measure => simp [intOf]; omega
        · have hne : (X == Y) = false := by simpa using hxy
          have hdf : d = false := by
            rw [HD.out]
            refine decide_eq_false fun e => hxy ?_
            rw [hX, hY, e]
          subst hdf
          clear hX hY
          go_wp2_with fail
          go_quiet (fail)
          go_wp2_with fail
          go_ret
          exact ⟨rfl, HB.out.trans ⟨rfl, rfl, rfl, Nat.le_refl _, fun _ _ => rfl⟩⟩
      · have hkn : k = n1 := by omega
        subst hkn
        have hdt : d = true := by
          rw [HD.out]
          refine decide_eq_true (List.ext_getElem? fun j => ?_)
          by_cases hj : j < k
          · have := hsame.out j hj
            have l1 := H1.out.len
            have l2 := H2.out.len
            rw [List.getElem?_eq_getElem (by omega), List.getElem?_eq_getElem (by omega)]
            simpa [List.getD, l1, l2, hj] using this
          · have l1 := H1.out.len
            have l2 := H2.out.len
            rw [List.getElem?_eq_none (by omega), List.getElem?_eq_none (by omega)]
        subst hdt
        go_wp2_with fail
        go_ret
        exact ⟨rfl, HB.out⟩
  · have hne : ((n1 : Int) == (n2 : Int)) = false := by rw [beq_eq_false_iff_ne]; omega
    have hd : decide (xs = ys) = false := by
      refine decide_eq_false fun e => hn ?_
      rw [← h1.len, ← h2.len, e]
    rw [hd]
    clear hd h1 h2
    go_enter Try.func100, Try.ntmps100
    go_wp2_with fail
    go_ret
    exact ⟨rfl, Below.refl _ _⟩

set_option maxRecDepth 100000 in
theorem specSameVec_any (w : World) (a1 : Option Addr) (n1 c1 : Nat) (xs : List Int) (a2 : Option Addr) (n2 c2 : Nat) (ys : List Int) (h1 : IntsIn w.heap.size w a1 n1 xs) (h2 : IntsIn w.heap.size w a2 n2 ys) :
    Calls Try.prog 49 #[.slice a1 n1 c1, .slice a2 n2 c2] w fun e w' => e = .returned (.bool (decide (xs = ys))) ∧ Below w.heap.size w w' := by
  have hr1 := h1.room
  have hr2 := h2.room
  by_cases hn : n1 = n2
  · subst hn
    have H1 := Lib.hid h1
    have H2 := Lib.hid h2
    clear h1 h2
    obtain ⟨d, hd⟩ : ∃ d, d = decide (xs = ys) := ⟨_, rfl⟩
    rw [← hd]
    have HD := Lib.hid hd
    clear hd
    go_enter Try.func49, Try.ntmps49
    go_wp2_with fail
    go_loopw [5] (fun i wr => ∃ k : Nat, k ≤ n1 ∧ i = .int .i64 k ∧ Hid (∀ j, j < k → xs.getD j 0 = ys.getD j 0) ∧ Below w.heap.size w wr) (fun i _ => n1 - (intOf i).toNat)
    case atStart => exact ⟨0, Nat.zero_le _, rfl, fun j hj => absurd hj (Nat.not_lt_zero _), Below.refl _ _⟩
    case round =>
      obtain ⟨k, hk, rfl, hsame, hb⟩ := hrel
      have HB := Lib.hid hb
      clear hb
      by_cases hlt : k < n1
      · obtain ⟨b, o, rfl, hbB, hcell0⟩ := H1.out.cells k hlt
        obtain ⟨b', o', rfl, hbB', hcell0'⟩ := H2.out.cells k hlt
        obtain ⟨X, hX⟩ : ∃ X, X = xs.getD k 0 := ⟨_, rfl⟩
        obtain ⟨Y, hY⟩ : ∃ Y, Y = ys.getD k 0 := ⟨_, rfl⟩
        rw [← hX] at hcell0
        rw [← hY] at hcell0'
        have hcell := (HB.out.cell (p := ⟨b, o + k, none⟩) hbB).trans hcell0
        have hcell' := (HB.out.cell (p := ⟨b', o' + k, none⟩) hbB').trans hcell0'
        clear hcell0 hcell0'
        by_cases hxy : X = Y
        · subst hxy
          have HX := Lib.hid hX
          have HY := Lib.hid hY
          clear hX hY
          go_wp2_with fail
          go_quiet (fail)
          go_wp2_with fail
          go_roundw
          case rel =>
            refine ⟨k + 1, by omega, by go_num, show Hid _ from fun j hj => ?_, HB.out.trans ⟨rfl, rfl, rfl, Nat.le_refl _, fun _ _ => rfl⟩⟩
            by_cases e : j = k
            · subst e; exact HX.out.symm.trans HY.out
            · exact hsame.out j (by omega)
          case measure => simp [intOf]; omega
        · have hne : (X == Y) = false := by simpa using hxy
          have hdf : d = false := by
            rw [HD.out]
            refine decide_eq_false fun e => hxy ?_
            rw [hX, hY, e]
          subst hdf
          clear hX hY
          go_wp2_with fail
          go_quiet (fail)
          go_wp2_with fail
          go_ret
          exact ⟨rfl, HB.out.trans ⟨rfl, rfl, rfl, Nat.le_refl _, fun _ _ => rfl⟩⟩
      · have hkn : k = n1 := by omega
        subst hkn
        have hdt : d = true := by
          rw [HD.out]
          refine decide_eq_true (List.ext_getElem? fun j => ?_)
          by_cases hj : j < k
          · have := hsame.out j hj
            have l1 := H1.out.len
            have l2 := H2.out.len
            rw [List.getElem?_eq_getElem (by omega), List.getElem?_eq_getElem (by omega)]
            simpa [List.getD, l1, l2, hj] using this
          · have l1 := H1.out.len
            have l2 := H2.out.len
            rw [List.getElem?_eq_none (by omega), List.getElem?_eq_none (by omega)]
        subst hdt
        go_wp2_with fail
        go_ret
        exact ⟨rfl, HB.out⟩
  · have hne : ((n1 : Int) == (n2 : Int)) = false := by rw [beq_eq_false_iff_ne]; omega
    have hd : decide (xs = ys) = false := by
      refine decide_eq_false fun e => hn ?_
      rw [← h1.len, ← h2.len, e]
    rw [hd]
    clear hd h1 h2
    go_enter Try.func49, Try.ntmps49
    go_wp2_with fail
    go_ret
    exact ⟨rfl, Below.refl _ _⟩


set_option maxRecDepth 100000 in
theorem slicesEqual_any (w : World) (a1 : Option Addr) (n1 c1 : Nat) (xs : List Int) (a2 : Option Addr) (n2 c2 : Nat) (ys : List Int) (h1 : IntsIn w.heap.size w a1 n1 xs) (h2 : IntsIn w.heap.size w a2 n2 ys) :
    Calls Try.prog 105 #[.slice a1 n1 c1, .slice a2 n2 c2] w fun e w' => e = .returned (.bool (decide (xs = ys))) ∧ Below w.heap.size w w' := by
  have hr1 := h1.room
  have hr2 := h2.room
  by_cases hn : n1 = n2
  · subst hn
    have H1 := Lib.hid h1
    have H2 := Lib.hid h2
    clear h1 h2
    obtain ⟨d, hd⟩ : ∃ d, d = decide (xs = ys) := ⟨_, rfl⟩
    rw [← hd]
    have HD := Lib.hid hd
    clear hd
    go_enter Try.func105, Try.ntmps105
    go_wp2_with fail
    go_loopw [13] (fun i wr => ∃ k : Nat, k ≤ n1 ∧ i = .int .i64 k ∧ Hid (∀ j, j < k → xs.getD j 0 = ys.getD j 0) ∧ Below w.heap.size w wr) (fun i _ => n1 - (intOf i).toNat)
    case atStart => exact ⟨0, Nat.zero_le _, rfl, fun j hj => absurd hj (Nat.not_lt_zero _), Below.refl _ _⟩
    case round =>
      obtain ⟨k, hk, rfl, hsame, hb⟩ := hrel
      have HB := Lib.hid hb
      clear hb
      by_cases hlt : k < n1
      · obtain ⟨b, o, rfl, hbB, hcell0⟩ := H1.out.cells k hlt
        obtain ⟨b', o', rfl, hbB', hcell0'⟩ := H2.out.cells k hlt
        obtain ⟨X, hX⟩ : ∃ X, X = xs.getD k 0 := ⟨_, rfl⟩
        obtain ⟨Y, hY⟩ : ∃ Y, Y = ys.getD k 0 := ⟨_, rfl⟩
        rw [← hX] at hcell0
        rw [← hY] at hcell0'
        have hcell := (HB.out.cell (p := ⟨b, o + k, none⟩) hbB).trans hcell0
        have hcell' := (HB.out.cell (p := ⟨b', o' + k, none⟩) hbB').trans hcell0'
        clear hcell0 hcell0'
        by_cases hxy : X = Y
        · subst hxy
          have HX := Lib.hid hX
          have HY := Lib.hid hY
          clear hX hY
          go_wp2_with fail
          go_quiet (fail)
          go_wp2_with fail
          go_roundw
          case rel =>
            refine ⟨k + 1, by omega, by go_num, show Hid _ from fun j hj => ?_, HB.out.trans ⟨rfl, rfl, rfl, Nat.le_refl _, fun _ _ => rfl⟩⟩
            by_cases e : j = k
            · subst e; exact HX.out.symm.trans HY.out
            · exact hsame.out j (by omega)
          case measure => simp [intOf]; omega
        · have hne : (X == Y) = false := by simpa using hxy
          have hdf : d = false := by
            rw [HD.out]
            refine decide_eq_false fun e => hxy ?_
            rw [hX, hY, e]
          subst hdf
          clear hX hY
          go_wp2_with fail
          go_quiet (fail)
          go_wp2_with fail
          go_ret
          exact ⟨rfl, HB.out.trans ⟨rfl, rfl, rfl, Nat.le_refl _, fun _ _ => rfl⟩⟩
      · have hkn : k = n1 := by omega
        subst hkn
        have hdt : d = true := by
          rw [HD.out]
          refine decide_eq_true (List.ext_getElem? fun j => ?_)
          by_cases hj : j < k
          · have := hsame.out j hj
            have l1 := H1.out.len
            have l2 := H2.out.len
            rw [List.getElem?_eq_getElem (by omega), List.getElem?_eq_getElem (by omega)]
            simpa [List.getD, l1, l2, hj] using this
          · have l1 := H1.out.len
            have l2 := H2.out.len
            rw [List.getElem?_eq_none (by omega), List.getElem?_eq_none (by omega)]
        subst hdt
        go_wp2_with fail
        go_ret
        exact ⟨rfl, HB.out⟩
  · have hne : ((n1 : Int) == (n2 : Int)) = false := by rw [beq_eq_false_iff_ne]; omega
    have hd : decide (xs = ys) = false := by
      refine decide_eq_false fun e => hn ?_
      rw [← h1.len, ← h2.len, e]
    rw [hd]
    clear hd h1 h2
    go_enter Try.func105, Try.ntmps105
    go_wp2_with fail
    go_ret
    exact ⟨rfl, Below.refl _ _⟩


theorem Row.ints {base : Nat} {w : World} {a : Option Addr} {n c : Nat} {xs : List Int} (h : Row base w (.slice a n c) xs) (hl : xs.length = n) (hr : n ≤ 1048576 := by omega) : IntsIn w.heap.size w a n xs := by
  obtain ⟨a', c', e, hi⟩ := h.form
  cases e
  exact hi (by omega)
theorem eqIntS_same (w : World) (a1 : Option Addr) (n1 c1 : Nat) (xs : List Int) (a2 : Option Addr) (c2 : Nat) (h1 : IntsIn w.heap.size w a1 n1 xs) (h2 : IntsIn w.heap.size w a2 n1 xs) :
    Calls Try.prog 100 #[.slice a1 n1 c1, .slice a2 n1 c2] w fun e w' => e = .returned (.bool true) ∧ Below w.heap.size w w' :=
  (eqIntS_any w a1 n1 c1 xs a2 n1 c2 xs h1 h2).mono fun e w' ⟨he, hb⟩ => ⟨by rw [he, decide_eq_true rfl], hb⟩
end Go.Proofs.Ytcooobnaocbdjaa

end
