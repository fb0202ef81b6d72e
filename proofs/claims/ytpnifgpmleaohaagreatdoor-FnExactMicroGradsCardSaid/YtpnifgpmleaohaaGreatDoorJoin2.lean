import Derived.Test.YtpnifgpmleaohaaGreatDoorRows
import Derived.Test.YtpnifgpmleaohaaGreatDoorJoin1
import Derived.LaidLaws
import Derived.LaidHandle
import Derived.LaidSub
import Derived.WalkKit
import Derived.Laws.CopyOwn
import Derived.Laws.IdiomStrings
import Derived.Lib.Hide
import Derived.Test.YtpnifgpmleaohaaGreatDoorProg
import Derived.Laws.AppendOwn
import Derived.Laws.OwnMore
import Derived.Laws.MakeOwn
import Derived.Deep.Onto
import Derived.Deep.QuietTactic
import Derived.BigQuiet
import Derived.Deep.MidRow
import Derived.Deep.Slices
import Derived.ChangeArms
/-! YtpnifgpmleaohaaGreatDoorLaidE -/
section

namespace Go.Proofs.YtpnifgpmleaohaaGreatDoor
open Go.RowKit

theorem gErrT : Tryz.prog.globalNamed "errors.errorType" = some 0 := by kernel_rfl
theorem gRtype : (Tryz.prog.cutTypes.find? (·.1 == "internal/reflectlite.rtype")).map (·.2) = some 294 := by kernel_rfl
theorem oneErrRow : ((List.range 348).filter fun t => Tryz.prog.rowNamed t [101, 114, 114, 111, 114]) = [233] := by kernel_rfl
theorem typesSize : Tryz.prog.types.size = 348 := by kernel_rfl
theorem laidE_of {l : List (String × DataW Unit)} {W : World} (h : laidMetH Tryz.prog l W) (hm : ("errors.errorType", Rows.laid_errors_errorType) ∈ l) : LaidE W := by
  have h2 := (laidMetH_iff.1 h).2
  obtain ⟨name, u, ty, e1, e2, e3, e4, e5⟩ := h2 ("errors.errorType", Rows.laid_errors_errorType) (List.mem_filter.2 ⟨hm, rfl⟩)
  have en : name = [101, 114, 114, 111, 114] := (Option.some.inj e1).symm
  subst en
  obtain rfl := Option.some.inj (gRtype.symm.trans e2)
  have hmm : ty ∈ (List.range 348).filter fun t => Tryz.prog.rowNamed t [101, 114, 114, 111, 114] := List.mem_filter.2 ⟨List.mem_range.2 (by rw [← typesSize]; exact e3), e4⟩
  rw [oneErrRow] at hmm
  obtain rfl := List.mem_singleton.1 hmm
  have hh : typeHandle Tryz.prog 233 = .pointer (some ⟨1, 233, none⟩) := by kernel_rfl
  rw [hh] at e5
  have := World.var?_cell gErrT e5 0
  unfold LaidE
  simpa using this
end Go.Proofs.YtpnifgpmleaohaaGreatDoor

end

/-! YtpnifgpmleaohaaGreatDoorBytes -/
section

namespace Go.Proofs.YtpnifgpmleaohaaGreatDoor
open Go.RowKit

/-- The cells of a list of bytes. -/
def bcells (l : List UInt8) : List Value := l.map (fun b => Value.int .u8 (b.toNat : Int))
theorem bcells_length (l : List UInt8) : (bcells l).length = l.length := by simp [bcells]
theorem bcells_append (a b : List UInt8) : bcells (a ++ b) = bcells a ++ bcells b := by simp [bcells]
theorem bcells_get (l : List UInt8) (j : Nat) (h : j < l.length) : (bcells l)[j]? = some (.int .u8 (l[j].toNat : Int)) := by simp [bcells, h]
theorem bcells_one (l : List UInt8) : ∀ u ∈ bcells l, u.oneCell' = true := by
  intro u hu
  obtain ⟨_, _, rfl⟩ := List.mem_map.1 hu
  rfl
theorem splice_zero {α : Type} (L cs : List α) : splice L 0 cs = cs ++ L.drop cs.length := by simp [splice]
theorem splice_take {α : Type} (L cs : List α) (n : Nat) (xs : List α) (hx : L.take n = xs) (hn : xs.length = n) : (splice L n cs).take (n + cs.length) = xs ++ cs := by
  simp only [splice, hx]
  rw [← List.append_assoc, List.take_append_of_le_length (by simp; omega)]
  exact List.take_of_length_le (by simp; omega)
/-- 'string([]byte{b})': the one-cell row has just been laid. -/
theorem conv_one {P : Program} (w : World) (src dst e : TypeId) (hs : P.underlying src = some (.slice e)) (he : P.underlying e = some (.int .u8)) (hd : P.underlying dst = some .string)
    (x : Int) (b : UInt8) (hx : x = (b.toNat : Int)) :
    (convert src dst (.slice (some ⟨w.heap.size, 0, none⟩) 1 1)).run P (w.alloc (.cells #[.int .u8 x] e)) = .ok (.string ⟨#[b]⟩) (w.alloc (.cells #[.int .u8 x] e)) := by
  subst hx
  refine run_convert_bytes_back _ src dst e ⟨w.heap.size, 0, none⟩ 1 [b] hs he hd ?_
  intro j hj
  have : j = 0 := by simpa using hj
  subst this
  rw [Addr.add_lit, Nat.add_zero]
  rw [cell_of_row _ _ _ _ _ _ (heap_alloc_new w _)]
  simp
theorem u8_ofNat_toNat (n : Nat) (h : n < 256) : (UInt8.ofNat n).toNat = n := by simp; omega
theorem bytes_append (a b : List UInt8) : ((⟨a.toArray⟩ : ByteArray) ++ (⟨b.toArray⟩ : ByteArray)) = ⟨(a ++ b).toArray⟩ := by
  rw [ByteArray.mk_append_mk]
/-- The cells of a one-cell row that has just been laid. -/
theorem cell_one_put (w : World) (e : TypeId) (x : Int) (b : UInt8) (hx : x = (b.toNat : Int)) :
    ∀ j u, (bcells [b])[j]? = some u → (w.alloc (.cells #[.int .u8 x] e)).cell? ⟨w.heap.size, j, none⟩ = some u := by
  intro j u hu
  subst hx
  rw [cell_of_row _ _ _ _ _ _ (heap_alloc_new w _)]
  simpa [bcells] using hu
/-- 'string(b)', b a row of the call's own. -/
theorem own_string {P : Program} {w : World} {B e : Nat} {v : Value} {n : Nat} {l : List UInt8} (src dst : TypeId) (hs : P.underlying src = some (.slice e)) (he : P.underlying e = some (.int .u8)) (hd : P.underlying dst = some .string)
    (hown : w.ownsRow B e 1 v n (bcells l)) : (convert src dst v).run P w = .ok (.string ⟨l.toArray⟩) w := by
  have hl : l.length = n := by have := hown.1; rw [bcells_length] at this; omega
  have hcs := fun g (h : v.ownBlock = some g) => hown.cells (g := g) h
  rcases hown.2 with ⟨rfl, rfl⟩ | ⟨g, cap, cur, rfl, hBg, hg, hnc, hcm, hcs1, htake⟩
  · obtain rfl : l = [] := List.eq_nil_of_length_eq_zero hl
    rw [run_convert_bytes_string w src dst e none 0 0 hs he hd]
    simp [Conv.bytesToString, Sem.run_pure]
    rfl
  · subst hl
    exact run_convert_bytes_back w src dst e _ cap l hs he hd fun j hj => hcs g rfl j _ (bcells_get l j hj)
/-- 'x | y' where y lies below x's lowest bit. -/
theorem i64_join (i : Nat) (hi : i ≤ 62) (x y : Int) (hx0 : 0 ≤ x) (hx : x % 2 ^ i = 0) (hx1 : x < 4611686018427387904) (hy0 : 0 ≤ y) (hy : y < 2 ^ i) : bits .or .i64 x y = x + y := by
  have h62 : (2 : Int) ^ 62 = 4611686018427387904 := by decide
  have hp : (2 : Int) ^ i ≤ 2 ^ 62 := by
    have := Nat.pow_le_pow_right (n := 2) (by decide) hi
    exact_mod_cast this
  refine bits_join .i64 62 (by decide) (fun n h0 h1 => ?_) i x y hx0 hx (by omega) hy0 hy (by omega)
  rw [IntKind.wrap_i64]
  omega
end Go.Proofs.YtpnifgpmleaohaaGreatDoor

end

/-! YtpnifgpmleaohaaGreatDoorRow -/
section

namespace Go.Proofs.YtpnifgpmleaohaaGreatDoor
open Go.RowKit
set_option linter.unusedVariables false

theorem Tryz.infoI64 : (Tryz.prog.info? 3).map (fun i => (i.zero, i.size, i.bytes)) = some (some (.int .i64 0), 1, 8) := by kernel_rfl

/-- The cells of a list of numbers. -/
def icells (l : List Int) : List Value := l.map (Value.int .i64)
theorem icells_length (l : List Int) : (icells l).length = l.length := by simp [icells]
theorem icells_append (a b : List Int) : icells (a ++ b) = icells a ++ icells b := by simp [icells]
theorem icells_get (l : List Int) (j : Nat) (h : j < l.length) : (icells l)[j]? = some (.int .i64 (l.getD j 0)) := by simp [icells, List.getD, h]
theorem icells_set (l : List Int) (j : Nat) (x : Int) : (icells l).set j (.int .i64 x) = icells (l.set j x) := by simp [icells]
theorem set_fill (xs : List Int) (k m : Nat) (hk : k < xs.length) : (xs.take k ++ List.replicate (m + 1) 0).set k (xs.getD k 0) = xs.take (k + 1) ++ List.replicate m 0 := by
  have h1 : (xs.take k).length = k := by simp; omega
  rw [List.set_append_right _ _ (by omega), h1, Nat.sub_self, List.replicate_succ, List.set_cons_zero, List.take_add_one, List.getElem?_eq_getElem hk, List.append_assoc]
  simp [List.getD, hk]

/-- A row of numbers below B, as a walk reads it. -/
structure IntsIn (B : Nat) (w : World) (a : Option Addr) (n : Nat) (xs : List Int) : Prop where
  len : xs.length = n
  room : n ≤ 1048576
  cells : ∀ j, j < n → ∃ b o, a = some ⟨b, o, none⟩ ∧ b < B ∧ w.cell? ⟨b, o + j, none⟩ = some (.int .i64 (xs.getD j 0))
theorem IntsIn.below {B B' : Nat} {w w' : World} {a : Option Addr} {n : Nat} {xs : List Int} (h : IntsIn B w a n xs) (hb : Below B' w w') (hB : B ≤ B') : IntsIn B w' a n xs :=
  ⟨h.len, h.room, fun j hj => by
    obtain ⟨b, o, e1, e2, e3⟩ := h.cells j hj
    exact ⟨b, o, e1, e2, (hb.cell (p := ⟨b, o + j, none⟩) (Nat.lt_of_lt_of_le e2 hB)).trans e3⟩⟩
theorem IntsIn.le {B B' : Nat} {w : World} {a : Option Addr} {n : Nat} {xs : List Int} (h : IntsIn B w a n xs) (hB : B ≤ B') : IntsIn B' w a n xs :=
  ⟨h.len, h.room, fun j hj => by
    obtain ⟨b, o, e1, e2, e3⟩ := h.cells j hj
    exact ⟨b, o, e1, Nat.lt_of_lt_of_le e2 hB, e3⟩⟩

/-- A row of numbers of the call's own, from block 'base' on. -/
def Row (base : Nat) (w : World) (v : Value) (xs : List Int) : Prop := w.ownsRow base 3 1 v xs.length (icells xs)
theorem Row.nil (base : Nat) (w : World) : Row base w (.slice none 0 0) [] := World.ownsRow_nil _ _ _ _
theorem Row.form {base : Nat} {w : World} {v : Value} {xs : List Int} (h : Row base w v xs) : ∃ a cap, v = .slice a xs.length cap ∧ (xs.length ≤ 1048576 → IntsIn w.heap.size w a xs.length xs) := by
  have hcs := fun g (h' : v.ownBlock = some g) => World.ownsRow.cells h (g := g) h'
  have hlt := World.ownsRow.lt h
  rcases h.2 with ⟨rfl, hn⟩ | ⟨g, cap, cur, rfl, hb, hg, _⟩
  · have : xs = [] := List.eq_nil_of_length_eq_zero hn
    subst this
    exact ⟨none, 0, rfl, fun _ => ⟨rfl, by decide, fun j hj => absurd hj (Nat.not_lt_zero _)⟩⟩
  · refine ⟨_, cap, rfl, fun hr => ⟨rfl, hr, fun j hj => ⟨g, 0, rfl, (hlt g rfl).2, ?_⟩⟩⟩
    have := hcs g rfl j _ (icells_get xs j hj)
    rw [Addr.add_lit] at this
    exact this
theorem Row.lt {base : Nat} {w : World} {v : Value} {xs : List Int} (h : Row base w v xs) : ∀ k, v.ownBlock = some k → base ≤ k ∧ k < w.heap.size := World.ownsRow.lt h
theorem Row.le {base base' : Nat} {w : World} {v : Value} {xs : List Int} (h : Row base w v xs) (hB : base' ≤ base) : Row base' w v xs := World.ownsRow.mono h hB
theorem Row.kept {base : Nat} {w w' : World} {v : Value} {xs : List Int} {row : Option Nat} (h : Row base w v xs) (hg : w.grownBy w' row) (hne : v.ownBlock = none ∨ v.ownBlock ≠ row) : Row base w' v xs := World.ownsRow.kept h hg hne
theorem Row.below {base : Nat} {w w' : World} {v : Value} {xs : List Int} (h : Row base w v xs) (hb : Below w.heap.size w w') : Row base w' v xs :=
  h.kept (row := none) ⟨hb.os, hb.tape, hb.output, hb.size, fun b hb' _ => hb.block b hb'⟩ (by
    cases hv : v.ownBlock with
    | none => exact .inl rfl
    | some g => exact .inr (by simp))
/-- A row from base on is no business of what lies below. -/
theorem below_of_grown {base : Nat} {w w' : World} {v : Value} {xs : List Int} (h : Row base w v xs) (hg : w.grownBy w' v.ownBlock) (hB : base ≤ w.heap.size) : Below base w w' :=
  (Below.refl base w).grown hg hB (fun k hk => (h.lt k hk).1)

/-- The marks: k, k+1, .. -/
def marks (k : Int) (n : Nat) : List Int := (List.range n).map (fun (j : Nat) => k + (j : Int))
theorem grownBy_trans' {w w1 w2 : World} {r : Option Nat} (h : w.grownBy w1 r) (k : w1.grownBy w2 r) : w.grownBy w2 r :=
  ⟨k.os.trans h.os, k.tape.trans h.tape, k.output.trans h.output, Nat.le_trans h.size k.size, fun b hb hne => (k.block b (Nat.lt_of_lt_of_le hb h.size) hne).trans (h.block b hb hne)⟩
theorem marks_length (k : Int) (n : Nat) : (marks k n).length = n := by simp [marks]
theorem marks_get (k : Int) (n j : Nat) (h : j < n) : (marks k n).getD j 0 = k + j := by simp [marks, List.getD, h]
theorem marks_set (k : Int) (xs : List Int) (j : Nat) (h : j < xs.length) : (marks k j ++ xs.drop j).set j (k + j) = marks k (j + 1) ++ xs.drop (j + 1) := by
  rw [List.set_append_right _ _ (by rw [marks_length]; omega), marks_length, Nat.sub_self, List.drop_eq_getElem_cons h, List.set_cons_zero]
  simp [marks, List.range_succ]

set_option maxRecDepth 100000 in
theorem toIntS_any (B : Nat) (w : World) (a : Option Addr) (n cap : Nat) (xs : List Int) (h : IntsIn B w a n xs) (hB : B ≤ w.heap.size) :
    Calls Tryz.prog 56 #[.slice a n cap] w fun e w' => e = .returned (.slice (some ⟨w.heap.size, 0, none⟩) n n) ∧ Row w.heap.size w' (.slice (some ⟨w.heap.size, 0, none⟩) n n) xs ∧ Below w.heap.size w w' := by
  obtain ⟨i0, hi, hz0, hz1, hz2⟩ := info_parts Tryz.infoI64
  have hroom := h.room
  have H := Lib.hid h
  have hmk := fun (w : World) => run_make (P := Tryz.prog) w 28 3 i0 (.int .i64 0) Tryz.underlying28 hi hz0 .i64 .i64 n n (by omega) (by omega) (by rw [hz2]; omega) (by omega)
  obtain ⟨Z, hZ⟩ : ∃ Z, Z = madeCells (Value.cells (.int .i64 0)) ((n : Int).toNat * i0.size) := ⟨_, rfl⟩
  have hZl : Z.toList = icells (List.replicate n 0) := by
    rw [hZ, hz1]
    show (madeCells #[Value.int .i64 0] _).toList = _
    rw [toList_madeCells_one]
    simp [icells]
  have hZs : Z.size = n := by have := congrArg List.length hZl; simpa [icells] using this
  rw [← hZ] at hmk
  have HZ := Lib.hid hZl
  have HS := Lib.hid hZs
  clear hZl hZs hZ h
  have hown : (w.alloc (.cells Z 3)).ownsRow w.heap.size 3 1 (.slice (some ⟨w.heap.size, 0, none⟩) n n) n (icells (xs.take 0 ++ List.replicate (n - 0) 0)) := by
    refine ⟨by simp [icells], .inr ⟨_, _, Z, rfl, Nat.le_refl _, heap_alloc_new w _, Nat.le_refl _, by unfold maxLen; omega, by rw [HS.out]; omega, ?_⟩⟩
    rw [HZ.out]
    simp [icells]
  have HO := Lib.hid hown
  clear hown
  go_enter Tryz.func56, Tryz.ntmps56
  go_wp2_with fail
  go_loopw [4] (fun i wr => ∃ k : Nat, k ≤ n ∧ i = .int .i64 k ∧ wr.ownsRow w.heap.size 3 1 (.slice (some ⟨w.heap.size, 0, none⟩) n n) n (icells (xs.take k ++ List.replicate (n - k) 0)) ∧ Below w.heap.size w wr) (fun i _ => n - (intOf i).toNat)
  case atStart => exact ⟨0, Nat.zero_le _, rfl, HO.out, (Below.refl _ _).alloc (Nat.le_refl _) _⟩
  case round =>
    obtain ⟨k, hk, rfl, hown, hb⟩ := hrel
    have HW := Lib.hid hown
    have HB := Lib.hid hb
    clear hown hb
    by_cases hlt : k < n
    · obtain ⟨b, o, rfl, hbB, hcell0⟩ := H.out.cells k hlt
      obtain ⟨X, hX⟩ : ∃ X, X = xs.getD k 0 := ⟨_, rfl⟩
      rw [← hX] at hcell0
      have hcell := (HB.out.cell (p := ⟨b, o + k, none⟩) (Nat.lt_of_lt_of_le hbB hB)).trans hcell0
      have hfr := HW.out.frozenAt k
      obtain ⟨u, hu⟩ : ∃ u, wr.cell? ⟨w.heap.size, k, none⟩ = some u := by
        rw [HW.out.cellAt k (by omega)]
        have : k < (icells (xs.take k ++ List.replicate (n - k) 0)).length := by rw [HW.out.1]; omega
        exact ⟨_, List.getElem?_eq_getElem this⟩
      have HX := Lib.hid hX
      clear hX
      go_wp2_with fail
      obtain ⟨hs1, hs2⟩ := HW.out.stored k (.int .i64 X)
      go_roundw
      case rel =>
        refine ⟨k + 1, by omega, by go_num, ?_, HB.out.setCell (by exact Nat.le_refl _) _⟩
        have e : (icells (xs.take k ++ List.replicate (n - k) 0)).set k (.int .i64 X) = icells (xs.take (k + 1) ++ List.replicate (n - (k + 1)) 0) := by
          rw [icells_set, HX.out, show n - k = (n - (k + 1)) + 1 by omega, set_fill _ _ _ (by rw [H.out.len]; exact hlt)]
        rw [← e]
        exact hs1
      case measure => simp [intOf]; omega
    · have hkn : k = n := by omega
      subst hkn
      go_wp2_with fail
      go_ret
      refine ⟨rfl, ?_, HB.out⟩
      have := HW.out
      rw [List.take_of_length_le (by rw [H.out.len]; omega), Nat.sub_self, List.replicate_zero, List.append_nil] at this
      unfold Row
      rw [H.out.len]
      exact this

set_option maxRecDepth 100000 in
theorem eqIntS_any (w : World) (a1 : Option Addr) (n1 c1 : Nat) (xs : List Int) (a2 : Option Addr) (n2 c2 : Nat) (ys : List Int) (h1 : IntsIn w.heap.size w a1 n1 xs) (h2 : IntsIn w.heap.size w a2 n2 ys) :
    Calls Tryz.prog 58 #[.slice a1 n1 c1, .slice a2 n2 c2] w fun e w' => e = .returned (.bool (decide (xs = ys))) ∧ Below w.heap.size w w' := by
  have hr1 := h1.room
  have hr2 := h2.room
  by_cases hn : n1 = n2
  · subst hn
    have H1 := Lib.hid h1
    have H2 := Lib.hid h2
    clear h1 h2
    obtain ⟨d, hd⟩ : ∃ d, d = decide (xs = ys) := ⟨_, rfl⟩
    rw [← hd]
    have HD := Lib.hid hd
    clear hd
    go_enter Tryz.func58, Tryz.ntmps58
    go_wp2_with fail
    go_loopw [5] (fun i wr => ∃ k : Nat, k ≤ n1 ∧ i = .int .i64 k ∧ Hid (∀ j, j < k → xs.getD j 0 = ys.getD j 0) ∧ Below w.heap.size w wr) (fun i _ => n1 - (intOf i).toNat)
    case atStart => exact ⟨0, Nat.zero_le _, rfl, fun j hj => absurd hj (Nat.not_lt_zero _), Below.refl _ _⟩
    case round =>
      obtain ⟨k, hk, rfl, hsame, hb⟩ := hrel
      have HB := Lib.hid hb
      clear hb
      by_cases hlt : k < n1
      · obtain ⟨b, o, rfl, hbB, hcell0⟩ := H1.out.cells k hlt
        obtain ⟨b', o', rfl, hbB', hcell0'⟩ := H2.out.cells k hlt
        obtain ⟨X, hX⟩ : ∃ X, X = xs.getD k 0 := ⟨_, rfl⟩
        obtain ⟨Y, hY⟩ : ∃ Y, Y = ys.getD k 0 := ⟨_, rfl⟩
        rw [← hX] at hcell0
        rw [← hY] at hcell0'
        have hcell := (HB.out.cell (p := ⟨b, o + k, none⟩) hbB).trans hcell0
        have hcell' := (HB.out.cell (p := ⟨b', o' + k, none⟩) hbB').trans hcell0'
        clear hcell0 hcell0'
        by_cases hxy : X = Y
        · subst hxy
          have HX := Lib.hid hX
          have HY := Lib.hid hY
          clear hX hY
          go_wp2_with fail
          go_quiet (fail)
          go_wp2_with fail
          go_roundw
          case rel =>
            refine ⟨k + 1, by omega, by go_num, show Hid _ from fun j hj => ?_, HB.out.trans ⟨rfl, rfl, rfl, Nat.le_refl _, fun _ _ => rfl⟩⟩
            by_cases e : j = k
            · subst e; exact HX.out.symm.trans HY.out
            · exact hsame.out j (by omega)
          case measure => simp [intOf]; omega
        · have hne : (X == Y) = false := by simpa using hxy
          have hdf : d = false := by
            rw [HD.out]
            refine decide_eq_false fun e => hxy ?_
            rw [hX, hY, e]
          subst hdf
          clear hX hY
          go_wp2_with fail
          go_quiet (fail)
          go_wp2_with fail
          go_ret
          exact ⟨rfl, HB.out.trans ⟨rfl, rfl, rfl, Nat.le_refl _, fun _ _ => rfl⟩⟩
      · have hkn : k = n1 := by omega
        subst hkn
        have hdt : d = true := by
          rw [HD.out]
          refine decide_eq_true (List.ext_getElem? fun j => ?_)
          by_cases hj : j < k
          · have := hsame.out j hj
            have l1 := H1.out.len
            have l2 := H2.out.len
            rw [List.getElem?_eq_getElem (by omega), List.getElem?_eq_getElem (by omega)]
            simpa [List.getD, l1, l2, hj] using this
          · have l1 := H1.out.len
            have l2 := H2.out.len
            rw [List.getElem?_eq_none (by omega), List.getElem?_eq_none (by omega)]
        subst hdt
        go_wp2_with fail
        go_ret
        exact ⟨rfl, HB.out⟩
  · have hne : ((n1 : Int) == (n2 : Int)) = false := by rw [beq_eq_false_iff_ne]; omega
    have hd : decide (xs = ys) = false := by
      refine decide_eq_false fun e => hn ?_
      rw [← h1.len, ← h2.len, e]
    rw [hd]
    clear hd h1 h2
    go_enter Tryz.func58, Tryz.ntmps58
    go_wp2_with fail
    go_ret
    exact ⟨rfl, Below.refl _ _⟩

set_option maxRecDepth 100000 in
theorem specSameVec_any (w : World) (a1 : Option Addr) (n1 c1 : Nat) (xs : List Int) (a2 : Option Addr) (n2 c2 : Nat) (ys : List Int) (h1 : IntsIn w.heap.size w a1 n1 xs) (h2 : IntsIn w.heap.size w a2 n2 ys) :
    Calls Tryz.prog 81 #[.slice a1 n1 c1, .slice a2 n2 c2] w fun e w' => e = .returned (.bool (decide (xs = ys))) ∧ Below w.heap.size w w' := by
  have hr1 := h1.room
  have hr2 := h2.room
  by_cases hn : n1 = n2
  · subst hn
    have H1 := Lib.hid h1
    have H2 := Lib.hid h2
    clear h1 h2
    obtain ⟨d, hd⟩ : ∃ d, d = decide (xs = ys) := ⟨_, rfl⟩
    rw [← hd]
    have HD := Lib.hid hd
    clear hd
    go_enter Tryz.func81, Tryz.ntmps81
    go_wp2_with fail
    go_loopw [5] (fun i wr => ∃ k : Nat, k ≤ n1 ∧ i = .int .i64 k ∧ Hid (∀ j, j < k → xs.getD j 0 = ys.getD j 0) ∧ Below w.heap.size w wr) (fun i _ => n1 - (intOf i).toNat)
    case atStart => exact ⟨0, Nat.zero_le _, rfl, fun j hj => absurd hj (Nat.not_lt_zero _), Below.refl _ _⟩
    case round =>
      obtain ⟨k, hk, rfl, hsame, hb⟩ := hrel
      have HB := Lib.hid hb
      clear hb
      by_cases hlt : k < n1
      · obtain ⟨b, o, rfl, hbB, hcell0⟩ := H1.out.cells k hlt
        obtain ⟨b', o', rfl, hbB', hcell0'⟩ := H2.out.cells k hlt
        obtain ⟨X, hX⟩ : ∃ X, X = xs.getD k 0 := ⟨_, rfl⟩
        obtain ⟨Y, hY⟩ : ∃ Y, Y = ys.getD k 0 := ⟨_, rfl⟩
        rw [← hX] at hcell0
        rw [← hY] at hcell0'
        have hcell := (HB.out.cell (p := ⟨b, o + k, none⟩) hbB).trans hcell0
        have hcell' := (HB.out.cell (p := ⟨b', o' + k, none⟩) hbB').trans hcell0'
        clear hcell0 hcell0'
        by_cases hxy : X = Y
        · subst hxy
          have HX := Lib.hid hX
          have HY := Lib.hid hY
          clear hX hY
          go_wp2_with fail
          go_quiet (fail)
          go_wp2_with fail
          go_roundw
          case rel =>
            refine ⟨k + 1, by omega, by go_num, show Hid _ from fun j hj => ?_, HB.out.trans ⟨rfl, rfl, rfl, Nat.le_refl _, fun _ _ => rfl⟩⟩
            by_cases e : j = k
            · subst e; exact HX.out.symm.trans HY.out
            · exact hsame.out j (by omega)
          case measure => simp [intOf]; omega
        · have hne : (X == Y) = false := by simpa using hxy
          have hdf : d = false := by
            rw [HD.out]
            refine decide_eq_false fun e => hxy ?_
            rw [hX, hY, e]
          subst hdf
          clear hX hY
          go_wp2_with fail
          go_quiet (fail)
          go_wp2_with fail
          go_ret
          exact ⟨rfl, HB.out.trans ⟨rfl, rfl, rfl, Nat.le_refl _, fun _ _ => rfl⟩⟩
      · have hkn : k = n1 := by omega
        subst hkn
        have hdt : d = true := by
          rw [HD.out]
          refine decide_eq_true (List.ext_getElem? fun j => ?_)
          by_cases hj : j < k
          · have := hsame.out j hj
            have l1 := H1.out.len
            have l2 := H2.out.len
            rw [List.getElem?_eq_getElem (by omega), List.getElem?_eq_getElem (by omega)]
            simpa [List.getD, l1, l2, hj] using this
          · have l1 := H1.out.len
            have l2 := H2.out.len
            rw [List.getElem?_eq_none (by omega), List.getElem?_eq_none (by omega)]
        subst hdt
        go_wp2_with fail
        go_ret
        exact ⟨rfl, HB.out⟩
  · have hne : ((n1 : Int) == (n2 : Int)) = false := by rw [beq_eq_false_iff_ne]; omega
    have hd : decide (xs = ys) = false := by
      refine decide_eq_false fun e => hn ?_
      rw [← h1.len, ← h2.len, e]
    rw [hd]
    clear hd h1 h2
    go_enter Tryz.func81, Tryz.ntmps81
    go_wp2_with fail
    go_ret
    exact ⟨rfl, Below.refl _ _⟩


set_option maxRecDepth 100000 in
theorem sameInts_any (w : World) (a1 : Option Addr) (n1 c1 : Nat) (xs : List Int) (a2 : Option Addr) (n2 c2 : Nat) (ys : List Int) (h1 : IntsIn w.heap.size w a1 n1 xs) (h2 : IntsIn w.heap.size w a2 n2 ys) :
    Calls Tryz.prog 21 #[.slice a1 n1 c1, .slice a2 n2 c2] w fun e w' => e = .returned (.bool (decide (xs = ys))) ∧ Below w.heap.size w w' := by
  have hr1 := h1.room
  have hr2 := h2.room
  by_cases hn : n1 = n2
  · subst hn
    have H1 := Lib.hid h1
    have H2 := Lib.hid h2
    clear h1 h2
    obtain ⟨d, hd⟩ : ∃ d, d = decide (xs = ys) := ⟨_, rfl⟩
    rw [← hd]
    have HD := Lib.hid hd
    clear hd
    go_enter Tryz.func21, Tryz.ntmps21
    go_wp2_with fail
    go_loopw [5] (fun i wr => ∃ k : Nat, k ≤ n1 ∧ i = .int .i64 k ∧ Hid (∀ j, j < k → xs.getD j 0 = ys.getD j 0) ∧ Below w.heap.size w wr) (fun i _ => n1 - (intOf i).toNat)
    case atStart => exact ⟨0, Nat.zero_le _, rfl, fun j hj => absurd hj (Nat.not_lt_zero _), Below.refl _ _⟩
    case round =>
      obtain ⟨k, hk, rfl, hsame, hb⟩ := hrel
      have HB := Lib.hid hb
      clear hb
      by_cases hlt : k < n1
      · obtain ⟨b, o, rfl, hbB, hcell0⟩ := H1.out.cells k hlt
        obtain ⟨b', o', rfl, hbB', hcell0'⟩ := H2.out.cells k hlt
        obtain ⟨X, hX⟩ : ∃ X, X = xs.getD k 0 := ⟨_, rfl⟩
        obtain ⟨Y, hY⟩ : ∃ Y, Y = ys.getD k 0 := ⟨_, rfl⟩
        rw [← hX] at hcell0
        rw [← hY] at hcell0'
        have hcell := (HB.out.cell (p := ⟨b, o + k, none⟩) hbB).trans hcell0
        have hcell' := (HB.out.cell (p := ⟨b', o' + k, none⟩) hbB').trans hcell0'
        clear hcell0 hcell0'
        by_cases hxy : X = Y
        · subst hxy
          have HX := Lib.hid hX
          have HY := Lib.hid hY
          clear hX hY
          go_wp2_with fail
          go_quiet (fail)
          go_wp2_with fail
          go_roundw
          case rel =>
            refine ⟨k + 1, by omega, by go_num, show Hid _ from fun j hj => ?_, HB.out.trans ⟨rfl, rfl, rfl, Nat.le_refl _, fun _ _ => rfl⟩⟩
            by_cases e : j = k
            · subst e; exact HX.out.symm.trans HY.out
            · exact hsame.out j (by omega)
          case measure => simp [intOf]; omega
        · have hne : (X == Y) = false := by simpa using hxy
          have hdf : d = false := by
            rw [HD.out]
            refine decide_eq_false fun e => hxy ?_
            rw [hX, hY, e]
          subst hdf
          clear hX hY
          go_wp2_with fail
          go_quiet (fail)
          go_wp2_with fail
          go_ret
          exact ⟨rfl, HB.out.trans ⟨rfl, rfl, rfl, Nat.le_refl _, fun _ _ => rfl⟩⟩
      · have hkn : k = n1 := by omega
        subst hkn
        have hdt : d = true := by
          rw [HD.out]
          refine decide_eq_true (List.ext_getElem? fun j => ?_)
          by_cases hj : j < k
          · have := hsame.out j hj
            have l1 := H1.out.len
            have l2 := H2.out.len
            rw [List.getElem?_eq_getElem (by omega), List.getElem?_eq_getElem (by omega)]
            simpa [List.getD, l1, l2, hj] using this
          · have l1 := H1.out.len
            have l2 := H2.out.len
            rw [List.getElem?_eq_none (by omega), List.getElem?_eq_none (by omega)]
        subst hdt
        go_wp2_with fail
        go_ret
        exact ⟨rfl, HB.out⟩
  · have hne : ((n1 : Int) == (n2 : Int)) = false := by rw [beq_eq_false_iff_ne]; omega
    have hd : decide (xs = ys) = false := by
      refine decide_eq_false fun e => hn ?_
      rw [← h1.len, ← h2.len, e]
    rw [hd]
    clear hd h1 h2
    go_enter Tryz.func21, Tryz.ntmps21
    go_wp2_with fail
    go_ret
    exact ⟨rfl, Below.refl _ _⟩


set_option maxRecDepth 100000 in
theorem markIntS_any (base : Nat) (w : World) (v : Value) (xs : List Int) (k0 : Int) (h : Row base w v xs) (hr : xs.length ≤ 1048576) (hk0 : 0 ≤ k0) (hk1 : k0 ≤ 4611686018427387904) :
    Calls Tryz.prog 60 #[v, .int .i64 k0] w fun e w' => e = .returned (.int .i64 (k0 + xs.length)) ∧ Row base w' v (marks k0 xs.length) ∧ w.grownBy w' v.ownBlock := by
  have H := Lib.hid h
  rcases h.2 with ⟨rfl, hn⟩ | ⟨g, cap, cur, rfl, hb, hg, _⟩
  · have hx : xs = [] := List.eq_nil_of_length_eq_zero hn
    subst hx
    clear h hn
    go_enter Tryz.func60, Tryz.ntmps60
    go_wp2_with fail
    go_loop [5, 1] (fun i k => i = .int .i64 0 ∧ k = .int .i64 k0) (fun _ _ => 0)
    case atStart => exact ⟨rfl, rfl⟩
    case round =>
      obtain ⟨rfl, rfl⟩ := hrel
      go_wp2_with fail
      go_ret
      exact ⟨by simp, Row.nil _ _, World.grownBy.refl _ _⟩
  · obtain ⟨n, hn⟩ : ∃ n, n = xs.length := ⟨_, rfl⟩
    have H' : World.ownsRow w base 3 1 (.slice (some ⟨g, 0, none⟩) n cap) n (icells (marks k0 0 ++ xs.drop 0)) := by
      rw [hn]; exact H.out
    rw [← hn] at hr ⊢
    have HN := Lib.hid hn
    have HO := Lib.hid H'
    clear h H hg hn H'
    go_enter Tryz.func60, Tryz.ntmps60
    go_wp2_with fail
    go_loopw [5, 1] (fun i k wr => ∃ j : Nat, j ≤ n ∧ i = .int .i64 j ∧ k = .int .i64 (k0 + j) ∧ wr.ownsRow base 3 1 (.slice (some ⟨g, 0, none⟩) n cap) n (icells (marks k0 j ++ xs.drop j)) ∧ w.grownBy wr (some g)) (fun i _ _ => n - (intOf i).toNat)
    case atStart => exact ⟨0, Nat.zero_le _, rfl, by simp, HO.out, World.grownBy.refl _ _⟩
    case round =>
      obtain ⟨j, hj, rfl, rfl, hown, hgr⟩ := hrel
      have HW := Lib.hid hown
      have HG := Lib.hid hgr
      clear hown hgr
      by_cases hlt : j < n
      · have hfr := HW.out.frozenAt j
        obtain ⟨u, hu⟩ : ∃ u, wr.cell? ⟨g, j, none⟩ = some u := by
          rw [HW.out.cellAt j (by omega)]
          have : j < (icells (marks k0 j ++ xs.drop j)).length := by rw [HW.out.1]; omega
          exact ⟨_, List.getElem?_eq_getElem this⟩
        go_wp2_with fail
        obtain ⟨hs1, hs2⟩ := HW.out.stored j (.int .i64 (k0 + j))
        go_roundw
        case rel =>
          refine ⟨j + 1, by omega, by go_num, by congr 1; omega, ?_, grownBy_trans' HG.out hs2⟩
          rw [← marks_set k0 xs j (by have := HN.out; omega), ← icells_set]
          exact hs1
        case measure => simp [intOf]; omega
      · have hkn : j = n := by omega
        subst hkn
        go_wp2_with fail
        go_ret
        refine ⟨rfl, ?_, HG.out⟩
        have := HW.out
        rw [List.drop_of_length_le (by rw [← HN.out]; omega), List.append_nil] at this
        unfold Row
        rw [marks_length]
        exact this

set_option maxRecDepth 100000 in
theorem heldIntS_any (B : Nat) (w : World) (a : Option Addr) (n cap : Nat) (k0 : Int) (h : IntsIn B w a n (marks k0 n)) (hk0 : 0 ≤ k0) (hk1 : k0 ≤ 4611686018427387904) :
    Calls Tryz.prog 136 #[.slice a n cap, .int .i64 k0] w fun e w' => e = .returned (.int .i64 (k0 + n)) ∧ w = w' := by
  have hroom := h.room
  have H := Lib.hid h
  clear h
  go_enter Tryz.func136, Tryz.ntmps136
  go_wp2_with fail
  go_loop [5, 1] (fun i k => ∃ j : Nat, j ≤ n ∧ i = .int .i64 j ∧ k = .int .i64 (k0 + j)) (fun i _ => n - (intOf i).toNat)
  case atStart => exact ⟨0, Nat.zero_le _, rfl, by simp⟩
  case round =>
    obtain ⟨j, hj, rfl, rfl⟩ := hrel
    by_cases hlt : j < n
    · obtain ⟨b, o, rfl, hbB, hcell⟩ := H.out.cells j hlt
      rw [marks_get k0 n j hlt] at hcell
      go_wp2_with fail
      go_round
      case rel => exact ⟨j + 1, by omega, by go_num, by congr 1; omega⟩
      case measure => simp [intOf]; omega
    · have hkn : j = n := by omega
      subst hkn
      go_wp2_with fail
      go_ret
      exact ⟨rfl, rfl⟩
theorem Row.ints {base : Nat} {w : World} {a : Option Addr} {n c : Nat} {xs : List Int} (h : Row base w (.slice a n c) xs) (hl : xs.length = n) (hr : n ≤ 1048576 := by omega) : IntsIn w.heap.size w a n xs := by
  obtain ⟨a', c', e, hi⟩ := h.form
  cases e
  exact hi (by omega)
theorem Row.form' {base : Nat} {w : World} {v : Value} {n : Nat} {xs : List Int} (h : Row base w v xs) (hl : Hid (xs.length = n)) (hr : n ≤ 1048576) : ∃ a cap, v = .slice a n cap ∧ IntsIn w.heap.size w a n xs := by
  obtain ⟨a, c, e, hi⟩ := h.form
  have := hl.out
  subst this
  exact ⟨a, c, e, hi hr⟩
theorem apart_of {base : Nat} {w : World} {v v2 : Value} {zs : List Int} (h : Row base w v2 zs) (hk : ∀ k, v.ownBlock = some k → k < base) : v2.ownBlock = none ∨ v2.ownBlock ≠ v.ownBlock := by
  cases e : v2.ownBlock with
  | none => exact .inl rfl
  | some g =>
    refine .inr fun e2 => ?_
    have := h.lt g e
    have := hk g e2.symm
    omega
theorem markIntS_n (base : Nat) (w : World) (v : Value) (xs : List Int) (n : Nat) (k0 : Int) (h : Row base w v xs) (hl : xs.length = n) (hr : n ≤ 1048576) (hk0 : 0 ≤ k0) (hk1 : k0 ≤ 4611686018427387904) :
    Calls Tryz.prog 60 #[v, .int .i64 k0] w fun e w' => e = .returned (.int .i64 (k0 + n)) ∧ Row base w' v (marks k0 n) ∧ w.grownBy w' v.ownBlock := by
  subst hl
  exact markIntS_any base w v xs k0 h hr hk0 hk1
theorem eqIntS_same (w : World) (a1 : Option Addr) (n1 c1 : Nat) (xs : List Int) (a2 : Option Addr) (c2 : Nat) (h1 : IntsIn w.heap.size w a1 n1 xs) (h2 : IntsIn w.heap.size w a2 n1 xs) :
    Calls Tryz.prog 58 #[.slice a1 n1 c1, .slice a2 n1 c2] w fun e w' => e = .returned (.bool true) ∧ Below w.heap.size w w' :=
  (eqIntS_any w a1 n1 c1 xs a2 n1 c2 xs h1 h2).mono fun e w' ⟨he, hb⟩ => ⟨by rw [he, decide_eq_true rfl], hb⟩
end Go.Proofs.YtpnifgpmleaohaaGreatDoor

end

/-! YtpnifgpmleaohaaGreatDoorShape -/
section

namespace Go.Proofs.YtpnifgpmleaohaaGreatDoor
open Go.RowKit
set_option linter.unusedVariables false

/-- A set of blocks; those below B; those from lo on, below hi. -/
abbrev Under (B : Nat) : Nat → Prop := fun b => b < B
abbrev From (lo hi : Nat) : Nat → Prop := fun b => lo ≤ b ∧ b < hi
/-- The blocks of a set are as they were. -/
def Kept (I : Nat → Prop) (w w' : World) : Prop := ∀ b, I b → w'.heap[b]? = w.heap[b]?
theorem Kept.of_below {I : Nat → Prop} {B : Nat} {w w' : World} (h : Below B w w') (hI : ∀ b, I b → b < B) : Kept I w w' := fun b hb => h.block b (hI b hb)
theorem rangeAt_kept {I : Nat → Prop} {w w' : World} {b o : Nat} {es : List Value} (h : w.rangeAt b o es) (hb : I b) (hw : Kept I w w') : w'.rangeAt b o es :=
  fun j v hv => (World.cell?_of_block (w := w) (w' := w') (a := ⟨b, o + j, none⟩) (hw b hb)).trans (h j v hv)

/-- A shape of data: how many cells it takes; which cells read as which datum, all that is led to lying in blocks of a set; which types have it; how many places its lists have. -/
structure Shape (α : Type) : Type 1 where
  size : Nat
  reads : (Nat → Prop) → World → List Value → α → Prop
  fits : Program → TypeId → Bool
  bulk : α → Nat
  len : ∀ {I w cs d}, reads I w cs d → cs.length = size
  keep : ∀ {I w w' cs d}, reads I w cs d → Kept I w w' → reads I w' cs d
  sub : ∀ {I J : Nat → Prop} {w cs d}, reads I w cs d → (∀ b, I b → J b) → reads J w cs d
  opens : ∀ {H : Type} {enc : TypeId × Value → H} {P : Program} {w : World} {base : Nat} {spare : Nat → Bool} {held : Bool} {fuel : Nat} {t : TypeId} {cs : List Value} {x : DataW H × List MemPlace},
    fits P t = true → DataW.trod enc P w base spare held fuel t cs = some x → ∃ d, reads (Under w.heap.size) w cs d

/-- A list lies at a: n places, one behind the other, each of so many cells. -/
def ListAt {α : Type} (S : Shape α) (I : Nat → Prop) (w : World) (a : Option Addr) (n : Nat) (xs : List α) : Prop :=
  xs.length = n ∧ ∀ (j : Nat) (x : α), xs[j]? = some x → ∃ b o es, a = some ⟨b, o, none⟩ ∧ I b ∧ w.rangeAt b (o + j * S.size) es ∧ S.reads I w es x
theorem ListAt.keep {α : Type} {S : Shape α} {I : Nat → Prop} {w w' : World} {a : Option Addr} {n : Nat} {xs : List α} (h : ListAt S I w a n xs) (hw : Kept I w w') : ListAt S I w' a n xs :=
  ⟨h.1, fun j x hx => by
    obtain ⟨b, o, es, e, hb, hr, hs⟩ := h.2 j x hx
    exact ⟨b, o, es, e, hb, rangeAt_kept hr hb hw, S.keep hs hw⟩⟩
theorem ListAt.sub {α : Type} {S : Shape α} {I J : Nat → Prop} {w : World} {a : Option Addr} {n : Nat} {xs : List α} (h : ListAt S I w a n xs) (hI : ∀ b, I b → J b) : ListAt S J w a n xs :=
  ⟨h.1, fun j x hx => by
    obtain ⟨b, o, es, e, hb, hr, hs⟩ := h.2 j x hx
    exact ⟨b, o, es, e, hI b hb, hr, S.sub hs hI⟩⟩
theorem ListAt.below {α : Type} {S : Shape α} {B B' : Nat} {w w' : World} {a : Option Addr} {n : Nat} {xs : List α} (h : ListAt S (Under B) w a n xs) (hw : Below B' w w') (hB : B ≤ B') : ListAt S (Under B) w' a n xs :=
  h.keep (.of_below hw fun b hb => Nat.lt_of_lt_of_le hb hB)
theorem ListAt.le {α : Type} {S : Shape α} {B B' : Nat} {w : World} {a : Option Addr} {n : Nat} {xs : List α} (h : ListAt S (Under B) w a n xs) (hB : B ≤ B') : ListAt S (Under B') w a n xs :=
  h.sub fun b hb => Nat.lt_of_lt_of_le hb hB
theorem Shape.below {α : Type} (S : Shape α) {B B' : Nat} {w w' : World} {cs : List Value} {d : α} (h : S.reads (Under B) w cs d) (hw : Below B' w w') (hB : B ≤ B') : S.reads (Under B) w' cs d :=
  S.keep h (.of_below hw fun b hb => Nat.lt_of_lt_of_le hb hB)
theorem Shape.le {α : Type} (S : Shape α) {B B' : Nat} {w : World} {cs : List Value} {d : α} (h : S.reads (Under B) w cs d) (hB : B ≤ B') : S.reads (Under B') w cs d :=
  S.sub h fun b hb => Nat.lt_of_lt_of_le hb hB

namespace Shape
def int : Shape Int where
  size := 1
  reads := fun _ _ cs x => cs = [.int .i64 x]
  fits := fun P t => match P.underlying t with | some (.int .i64) => true | _ => false
  bulk := fun _ => 0
  len := by rintro _ _ _ _ rfl; rfl
  keep := fun h _ => h
  sub := fun h _ => h
  opens := by
    intro H enc P w base spare held fuel t cs x hf h
    split at hf
    · rename_i ht
      obtain ⟨n, hn, _⟩ := DataW.trod_int ht h
      exact ⟨n, hn⟩
    · cases hf
def bool : Shape Bool where
  size := 1
  reads := fun _ _ cs x => cs = [.bool x]
  fits := fun P t => match P.underlying t with | some .bool => true | _ => false
  bulk := fun _ => 0
  len := by rintro _ _ _ _ rfl; rfl
  keep := fun h _ => h
  sub := fun h _ => h
  opens := by
    intro H enc P w base spare held fuel t cs x hf h
    split at hf
    · rename_i ht
      obtain ⟨n, hn, _⟩ := DataW.trod_bool ht h
      exact ⟨n, hn⟩
    · cases hf

/-- From 'for each place there is one' to a list. -/
theorem list_of {α : Type} {p : Nat → α → Prop} (n : Nat) (h : ∀ j, j < n → ∃ x, p j x) : ∃ xs : List α, xs.length = n ∧ ∀ j x, xs[j]? = some x → p j x := by
  induction n with
  | zero => exact ⟨[], rfl, fun j x hx => by simp at hx⟩
  | succ n ih =>
    obtain ⟨xs, hl, hp⟩ := ih fun j hj => h j (by omega)
    obtain ⟨x, hx⟩ := h n (by omega)
    refine ⟨xs ++ [x], by simp [hl], fun j y hy => ?_⟩
    by_cases hj : j < n
    · rw [List.getElem?_append_left (by omega)] at hy
      exact hp j y hy
    · have hjn : j = n := by
        have := (List.getElem?_eq_some_iff.1 hy).1
        simp [hl] at this
        omega
      subst hjn
      rw [List.getElem?_append_right (by omega), hl, Nat.sub_self] at hy
      cases hy
      exact hx
def sum {α : Type} (f : α → Nat) : List α → Nat
  | [] => 0
  | x :: xs => f x + sum f xs
theorem sum_append {α : Type} (f : α → Nat) (xs ys : List α) : sum f (xs ++ ys) = sum f xs + sum f ys := by
  induction xs with
  | nil => simp [sum]
  | cons x xs ih => simp only [List.cons_append, sum, ih]; omega

def list {α : Type} (S : Shape α) : Shape (List α) where
  size := 1
  reads := fun I w cs xs => ∃ a n c, cs = [.slice a n c] ∧ n ≤ c ∧ c ≤ 9223372036854775807 ∧ ListAt S I w a n xs
  fits := fun P t => match P.underlying t with | some (.slice e) => P.cellsOf e == S.size && (decide (0 < S.size) && S.fits P e) | _ => false
  bulk := fun xs => xs.length + sum S.bulk xs
  len := by rintro _ _ _ _ ⟨_, _, _, rfl, _⟩; rfl
  keep := by
    rintro I w w' cs d ⟨a, n, c, e, h1, h2, h3⟩ hw
    exact ⟨a, n, c, e, h1, h2, h3.keep hw⟩
  sub := by
    rintro I J w cs d ⟨a, n, c, e, h1, h2, h3⟩ hI
    exact ⟨a, n, c, e, h1, h2, h3.sub hI⟩
  opens := by
    intro H enc P w base spare held fuel t cs x hf h
    split at hf
    · rename_i e ht
      simp only [Bool.and_eq_true, beq_iff_eq, decide_eq_true_eq] at hf
      obtain ⟨hc, h0, hfe⟩ := hf
      rcases Deep.open_slice ht h with ⟨rfl, _⟩ | ⟨a, len, cap, m, n, D, Pl, rfl, hb, hl, hm, hmm, _, hx⟩
      · exact ⟨[], none, 0, 0, rfl, Nat.le_refl _, by omega, rfl, fun j x hx => by simp at hx⟩
      · have hlm : len ≤ m := by rw [hmm]; split <;> omega
        have hx' := fun i (hi : i < len) => hx i (by omega)
        obtain ⟨xs, hxl, hxs⟩ := list_of (p := fun j x => ∃ es, w.cells? base (a.add (j * P.cellsOf e)) (P.cellsOf e) = some es ∧ S.reads (Under w.heap.size) w es x) len fun j hj => by
          obtain ⟨cs', h1, h2⟩ := hx j (by omega)
          obtain ⟨d, hd⟩ := S.opens hfe h2
          exact ⟨d, cs', h1, hd⟩
        unfold maxLen at hm
        refine ⟨xs, some a, len, cap, rfl, hl, by omega, hxl, fun j x hjx => ?_⟩
        obtain ⟨es, h1, h2⟩ := hxs j x hjx
        obtain ⟨_, hel, hcell⟩ := World.cells?_some h1
        have hes := S.len h2
        obtain ⟨b, o, spot⟩ := a
        have hc0 := hcell 0 (by omega)
        rw [List.getElem?_eq_getElem (by omega)] at hc0
        have hspot : spot = none := by
          have hjl : j < len := by rw [← hxl]; exact (List.getElem?_eq_some_iff.1 hjx).1
          obtain ⟨c0, k1, k2⟩ := hx' 0 (by omega)
          obtain ⟨_, kel, kcell⟩ := World.cells?_some k1
          have kc := kcell 0 (by omega)
          rw [List.getElem?_eq_getElem (by omega)] at kc
          have := World.cell?_spot kc
          simpa [Addr.add] using this
        subst hspot
        simp only [Addr.add_mid] at hcell hc0
        refine ⟨b, o, es, rfl, World.block_lt_of_cell? w _ hc0, fun i v hv => ?_, h2⟩
        have hi := (List.getElem?_eq_some_iff.1 hv).1
        rw [← hc]
        rw [hcell i (by omega)]
        exact hv
    · cases hf
end Shape

/-- The fields of a struct, from one offset on. -/
structure FieldsOf (α : Type) : Type 1 where
  size : Nat
  reads : (Nat → Prop) → World → List Value → α → Prop
  fits : Program → List Field → Nat → Bool
  bulk : α → Nat
  len : ∀ {I w cs d}, reads I w cs d → cs.length = size
  keep : ∀ {I w w' cs d}, reads I w cs d → Kept I w w' → reads I w' cs d
  sub : ∀ {I J : Nat → Prop} {w cs d}, reads I w cs d → (∀ b, I b → J b) → reads J w cs d
  opens : ∀ {H : Type} {enc : TypeId × Value → H} {P : Program} {w : World} {base : Nat} {spare : Nat → Bool} {held : Bool} {fuel : Nat} {fs : List Field} {off : Nat} {cs : List Value},
    fits P fs off = true → cs.length = off + size → (∀ f ∈ fs, ∃ y, DataW.trod enc P w base spare held fuel f.type ((cs.drop f.offset).take (P.cellsOf f.type)) = some y) → ∃ d, reads (Under w.heap.size) w (cs.drop off) d

namespace FieldsOf
def last {α : Type} (S : Shape α) : FieldsOf α where
  size := S.size
  reads := S.reads
  fits := fun P fs off => match fs with | [f] => f.offset == off && (P.cellsOf f.type == S.size && S.fits P f.type) | _ => false
  bulk := S.bulk
  len := S.len
  keep := S.keep
  sub := S.sub
  opens := by
    intro H enc P w base spare held fuel fs off cs hf hl h
    split at hf
    · rename_i f
      simp only [Bool.and_eq_true, beq_iff_eq] at hf
      obtain ⟨h1, h2, h3⟩ := hf
      obtain ⟨y, hy⟩ := h f (by simp)
      obtain ⟨d, hd⟩ := S.opens h3 hy
      rw [h1, h2, List.take_of_length_le (by simp; omega)] at hd
      exact ⟨d, hd⟩
    · cases hf
def cons {α β : Type} (S : Shape α) (F : FieldsOf β) : FieldsOf (α × β) where
  size := S.size + F.size
  reads := fun I w cs d => ∃ c1 c2, cs = c1 ++ c2 ∧ S.reads I w c1 d.1 ∧ F.reads I w c2 d.2
  fits := fun P fs off => match fs with | f :: r => f.offset == off && (P.cellsOf f.type == S.size && (S.fits P f.type && F.fits P r (off + S.size))) | _ => false
  bulk := fun d => S.bulk d.1 + F.bulk d.2
  len := by
    rintro B w cs d ⟨c1, c2, rfl, h1, h2⟩
    rw [List.length_append, S.len h1, F.len h2]
  keep := by
    rintro I w w' cs d ⟨c1, c2, e, h1, h2⟩ hw
    exact ⟨c1, c2, e, S.keep h1 hw, F.keep h2 hw⟩
  sub := by
    rintro I J w cs d ⟨c1, c2, e, h1, h2⟩ hI
    exact ⟨c1, c2, e, S.sub h1 hI, F.sub h2 hI⟩
  opens := by
    intro H enc P w base spare held fuel fs off cs hf hl h
    split at hf
    · rename_i f r
      simp only [Bool.and_eq_true, beq_iff_eq] at hf
      obtain ⟨h1, h2, h3, h4⟩ := hf
      obtain ⟨y, hy⟩ := h f (by simp)
      obtain ⟨d, hd⟩ := S.opens h3 hy
      obtain ⟨d', hd'⟩ := F.opens h4 (cs := cs) (by omega) (fun g hg => h g (List.mem_cons_of_mem _ hg))
      rw [h1, h2] at hd
      refine ⟨(d, d'), _, _, ?_, hd, hd'⟩
      rw [← List.drop_drop, List.take_append_drop]
    · cases hf
end FieldsOf
namespace Shape
def struct {α : Type} (F : FieldsOf α) : Shape α where
  size := F.size
  reads := F.reads
  fits := fun P t => match P.underlying t with | some (.struct fs) => P.cellsOf t == F.size && F.fits P fs.toList 0 | _ => false
  bulk := F.bulk
  len := F.len
  keep := F.keep
  sub := F.sub
  opens := by
    intro H enc P w base spare held fuel t cs x hf h
    split at hf
    · rename_i fs ht
      simp only [Bool.and_eq_true, beq_iff_eq] at hf
      obtain ⟨xs, n, hn, _, hl, hxl, hx⟩ := DataW.trod_struct ht h
      have := F.opens hf.2 (cs := cs) (w := w) (enc := enc) (base := base) (spare := spare) (held := held) (fuel := n) (by omega) (fun f hfm => by
        obtain ⟨i, hi⟩ := List.mem_iff_getElem?.1 hfm
        have hi' : fs[i]? = some f := by simpa using hi
        have hlt : i < fs.size := by
          have := (Array.getElem?_eq_some_iff.1 hi').1
          exact this
        rw [hx i f hi', List.getElem?_eq_getElem (by omega)]
        exact ⟨_, rfl⟩)
      simpa using this
    · cases hf
end Shape

/-- A row of numbers of a bounded length is what the walks over rows are told. -/
theorem ListAt.ints {B : Nat} {w : World} {a : Option Addr} {n : Nat} {xs : List Int} (h : ListAt Shape.int (Under B) w a n xs) (hr : n ≤ 1048576) : IntsIn B w a n xs :=
  ⟨h.1, hr, fun j hj => by
    have hx : xs[j]? = some (xs.getD j 0) := by
      rw [List.getElem?_eq_getElem (by rw [h.1]; exact hj)]
      simp [List.getD, h.1, hj]
    obtain ⟨b, o, es, e, hb, hr, hs⟩ := h.2 j _ hx
    have hs' : es = [.int .i64 (xs.getD j 0)] := hs
    subst hs'
    refine ⟨b, o, e, hb, ?_⟩
    have := hr 0 _ rfl
    simpa [Shape.int] using this⟩
theorem ListAt.of_ints {B : Nat} {w : World} {a : Option Addr} {n : Nat} {xs : List Int} (h : IntsIn B w a n xs) : ListAt Shape.int (Under B) w a n xs :=
  ⟨h.len, fun j x hx => by
    have hj := (List.getElem?_eq_some_iff.1 hx).1
    obtain ⟨b, o, e, hb, hc⟩ := h.cells j (by rw [← h.len]; exact hj)
    have hxe : xs.getD j 0 = x := by rw [List.getD_eq_getElem?_getD, hx]; rfl
    refine ⟨b, o, [.int .i64 x], e, hb, fun i v hv => ?_, rfl⟩
    cases i with
    | zero => cases hv; rw [← hxe]; simpa [Shape.int] using hc
    | succ i => simp at hv⟩
end Go.Proofs.YtpnifgpmleaohaaGreatDoor

end

/-! YtpnifgpmleaohaaGreatDoorFill -/
section

namespace Go.Proofs.YtpnifgpmleaohaaGreatDoor
open Go.RowKit
set_option linter.unusedVariables false

theorem run_make_many {P : Program} (t e : TypeId) (z : Value) (size bytes : Nat) (ht : P.underlying t = some (.slice e)) (hinfo : (P.info? e).map (fun i => (i.zero, i.size, i.bytes)) = some (some z, size, bytes))
    (n : Nat) (hbytes : bytes * n ≤ 281474976710656) (h63 : n ≤ 9223372036854775807) (w : World) :
    (Instr.makeSlice t (.int .i64 (n : Int)) (.int .i64 (n : Int))).run P w = .ok (.slice (some ⟨w.heap.size, 0, none⟩) n n) (w.alloc (.cells (madeCells z.cells (n * size)) e)) := by
  obtain ⟨i, hi, hzz⟩ := Option.map_eq_some_iff.1 hinfo
  simp only [Prod.mk.injEq] at hzz
  obtain ⟨hz, hs, hb⟩ := hzz
  have hb' : (i.bytes : Int) * (n : Int) ≤ 281474976710656 := by
    have h : ((i.bytes * n : Nat) : Int) ≤ 281474976710656 := by rw [hb]; omega
    rwa [Int.natCast_mul] at h
  have hr := run_make (P := P) w t e i z ht hi hz .i64 .i64 n n (by omega) (Int.le_refl _) hb' (by omega)
  simp only [Int.toNat_natCast, hs] at hr
  exact hr
theorem frozen_of_block {w w' : World} {a : Addr} (h : w'.heap[a.block]? = w.heap[a.block]?) : w'.frozen? a = w.frozen? a := World.frozen?_of_block h
theorem there_below {B : Nat} {w w' : World} {b o n : Nat} (h : w.there b o n) (hw : Below B w w') (hb : b < B) : w'.there b o n := fun j hj => by
  have h0 := h j hj
  rw [hw.cell (p := ⟨b, o + j, none⟩) hb, hw.frozen (p := ⟨b, o + j, none⟩) hb]
  exact h0
theorem there_part {w : World} {b o n o' n' : Nat} (h : w.there b o n) (h0 : o ≤ o') (h1 : o' + n' ≤ o + n) : w.there b o' n' := fun j hj => by
  have := h (o' + j - o) (by omega)
  rwa [show o + (o' + j - o) = o' + j by omega] at this
/-- The cells of what is there. -/
theorem there_cell {w : World} {b o n : Nat} (h : w.there b o n) (j : Nat) (hj : j < n) : (∃ v, w.cell? ⟨b, o + j, none⟩ = some v) ∧ w.frozen? ⟨b, o + j, none⟩ = false := by
  obtain ⟨h0, h1⟩ := h j hj
  exact ⟨Option.isSome_iff_exists.1 h0, h1⟩

/-- The first k places of a list that is made are filled: it lies in the block behind w; what its places lead to lies behind that. -/
structure Filled {α : Type} (S : Shape α) (w wr : World) (n k : Nat) (xs : List α) : Prop where
  below : Below w.heap.size w wr
  lt : w.heap.size < wr.heap.size
  done : ∀ j x, j < k → xs[j]? = some x → ∃ es, wr.rangeAt w.heap.size (j * S.size) es ∧ S.reads (From (w.heap.size + 1) wr.heap.size) wr es x
  rest : wr.there w.heap.size (k * S.size) ((n - k) * S.size)
theorem Filled.start {α : Type} (S : Shape α) (w : World) (n : Nat) (xs : List α) (z : Array Value) (e : TypeId) : Filled S w (w.alloc (.cells (madeCells z (n * S.size)) e)) n 0 xs where
  below := (Below.refl _ _).alloc (Nat.le_refl _) _
  lt := by simp
  done := fun j x hj => absurd hj (Nat.not_lt_zero _)
  rest := fun j hj => by
    have hj' : j < n * S.size := by simpa using hj
    have hb := heap_alloc_new w (.cells (madeCells z (n * S.size)) e)
    constructor
    · rw [cell_of_row _ _ _ _ _ _ hb]
      have : 0 * S.size + j < (madeCells z (n * S.size)).size := by rw [size_madeCells]; omega
      rw [Array.getElem?_eq_getElem this]
      rfl
    · exact frozen_of_row _ _ _ _ _ hb
theorem heap_setCells_other (g : Nat) : ∀ (cs : List Value) (o : Nat) (w : World) (b : Nat), b ≠ g → (w.setCells g o cs).heap[b]? = w.heap[b]?
  | [], _, _, _, _ => rfl
  | v :: vs, o, w, b, hb => by rw [World.setCells, heap_setCells_other g vs (o + 1) _ b hb]; exact Below.heap_setCell _ _ _ _ hb
theorem below_setCells {B : Nat} {a : World} (g : Nat) (hB : B ≤ g) : ∀ (cs : List Value) (o : Nat) (w : World), Below B a w → Below B a (w.setCells g o cs)
  | [], _, _, h => h
  | v :: vs, o, w, h => below_setCells g hB vs (o + 1) _ (h.setCell (p := ⟨g, o, none⟩) hB v)
theorem size_setCells (g : Nat) : ∀ (cs : List Value) (o : Nat) (w : World), (w.setCells g o cs).heap.size = w.heap.size
  | [], _, _ => rfl
  | v :: vs, o, w => by rw [World.setCells, size_setCells g vs (o + 1)]; simp
theorem Filled.step {α : Type} {S : Shape α} {w wr w1 : World} {n k : Nat} {xs : List α} {es : List Value} {x : α} (h : Filled S w wr n k xs) (hk : k < n) (hb : Below wr.heap.size wr w1) (hx : xs[k]? = some x)
    (hs : S.reads (From wr.heap.size w1.heap.size) w1 es x) : Filled S w (w1.setCells w.heap.size (k * S.size) es) n (k + 1) xs := by
  have hl := S.len hs
  have hlt := h.lt
  have hsz := hb.size
  have hmul : (n - k) * S.size = (n - (k + 1)) * S.size + S.size := by rw [show n - k = (n - (k + 1)) + 1 by omega, Nat.add_mul, Nat.one_mul]
  have hk1 : (k + 1) * S.size = k * S.size + S.size := by rw [Nat.add_mul, Nat.one_mul]
  have hth : w1.there w.heap.size (k * S.size) ((n - k) * S.size) := there_below h.rest hb hlt
  have hss := size_setCells w.heap.size es (k * S.size) w1
  refine ⟨below_setCells _ (Nat.le_refl _) _ _ _ (h.below.trans (hb.mono (Nat.le_of_lt hlt))), by omega, fun j y hj hy => ?_, ?_⟩
  · by_cases hjk : j < k
    · obtain ⟨es', hr, hs'⟩ := h.done j y hjk hy
      have hjl : j * S.size + S.size ≤ k * S.size := by
        have := Nat.mul_le_mul_right S.size (show j + 1 ≤ k by omega)
        rwa [Nat.add_mul, Nat.one_mul] at this
      refine ⟨es', World.rangeAt_setCells_apart (fun i v hv => (hb.cell (p := ⟨w.heap.size, j * S.size + i, none⟩) hlt).trans (hr i v hv)) _ _ _ (.inr (.inl (by rw [S.len hs']; exact hjl))), ?_⟩
      refine S.sub (S.keep hs' fun b hb' => ?_) fun b hb' => ⟨hb'.1, by rw [hss]; exact Nat.lt_of_lt_of_le hb'.2 hsz⟩
      rw [heap_setCells_other _ _ _ _ _ (by have := hb'.1; omega)]
      exact hb.block b hb'.2
    · obtain rfl : j = k := by omega
      rw [hx] at hy
      cases hy
      refine ⟨es, World.rangeAt_setCells_same _ _ _ _ (there_part hth (Nat.le_refl _) (by omega)), ?_⟩
      refine S.sub (S.keep hs fun b hb' => ?_) fun b hb' => ⟨by have := hb'.1; omega, by rw [hss]; exact hb'.2⟩
      exact heap_setCells_other _ _ _ _ _ (by have := hb'.1; omega)
  · exact World.there_setCells (there_part hth (by omega) (by omega)) _ _ _
theorem Filled.list {α : Type} {S : Shape α} {w wr : World} {n : Nat} {xs : List α} (h : Filled S w wr n n xs) (hl : xs.length = n) : ListAt S (From w.heap.size wr.heap.size) wr (some ⟨w.heap.size, 0, none⟩) n xs :=
  ⟨hl, fun j x hx => by
    obtain ⟨es, hr, hs⟩ := h.done j x (by rw [← hl]; exact (List.getElem?_eq_some_iff.1 hx).1) hx
    exact ⟨w.heap.size, 0, es, rfl, ⟨Nat.le_refl _, h.lt⟩, by rwa [Nat.zero_add], S.sub hs fun b hb => ⟨by have := hb.1; omega, hb.2⟩⟩⟩

/-! ### What is left behind so many places -/
def szN (b : Nat) (L : Int) : Int := if (b : Int) ≤ L then L - b else -1
theorem szN_yes {b : Nat} {L : Int} (h : (b : Int) ≤ L) : szN b L = L - b := if_pos h
theorem szN_no {b : Nat} {L : Int} (h : ¬ (b : Int) ≤ L) : szN b L = -1 := if_neg h
theorem sum_zero {α : Type} (xs : List α) : Shape.sum (fun _ => 0) xs = 0 := by
  induction xs with
  | nil => rfl
  | cons x xs ih => simp [Shape.sum, ih]
theorem bulk_ints (xs : List Int) : (Shape.list Shape.int).bulk xs = xs.length := by
  show xs.length + Shape.sum (fun _ => 0) xs = xs.length
  rw [sum_zero]
  rfl
theorem bulk_bools (xs : List Bool) : (Shape.list Shape.bool).bulk xs = xs.length := by
  show xs.length + Shape.sum (fun _ => 0) xs = xs.length
  rw [sum_zero]
  rfl
theorem sum_take {α : Type} (f : α → Nat) (xs : List α) (k : Nat) (x : α) (h : xs[k]? = some x) : Shape.sum f (xs.take (k + 1)) = Shape.sum f (xs.take k) + f x := by
  rw [List.take_add_one, h, Shape.sum_append]
  simp [Shape.sum]
theorem sum_take_le {α : Type} (f : α → Nat) (xs : List α) (k : Nat) : Shape.sum f (xs.take k) ≤ Shape.sum f xs := by
  have := Shape.sum_append f (xs.take k) (xs.drop k)
  rw [List.take_append_drop] at this
  omega
theorem bulk_mem {α : Type} (f : α → Nat) (xs : List α) (k : Nat) (x : α) (h : xs[k]? = some x) : f x ≤ Shape.sum f xs := by
  have h1 := sum_take f xs k x h
  have h2 := sum_take_le f xs (k + 1)
  omega
theorem bulk_list {α : Type} (S : Shape α) {I : Nat → Prop} {w : World} {a : Option Addr} {n : Nat} {xs : List α} (h : ListAt S I w a n xs) : (Shape.list S).bulk xs = n + Shape.sum S.bulk xs := by
  rw [← h.1]
  rfl

/-! ### A struct that is made in a variable of its own: the box of the argument, the box of the result, the variable -/
structure Boxes (w wr : World) (A Z O : Array Value) (TA T : TypeId) : Prop where
  below : Below w.heap.size w wr
  size : w.heap.size + 3 ≤ wr.heap.size
  a : wr.heap[w.heap.size]? = some (.cells A TA (0, 0))
  z : wr.heap[w.heap.size + 1]? = some (.cells Z T (0, 0))
  o : wr.heap[w.heap.size + 1 + 1]? = some (.cells O T (0, 0))
theorem Boxes.start (w : World) (A Z O : Array Value) (TA T : TypeId) : Boxes w (((w.alloc (.cells A TA (0, 0))).alloc (.cells Z T (0, 0))).alloc (.cells O T (0, 0))) A Z O TA T where
  below := (((Below.refl _ _).alloc (Nat.le_refl _) _).alloc (by simp) _).alloc (by simp; omega) _
  size := by simp
  a := by
    rw [Below.heap_alloc _ _ _ (by simp; omega), Below.heap_alloc _ _ _ (by simp)]
    exact heap_alloc_new w _
  z := by
    rw [Below.heap_alloc _ _ _ (by simp)]
    have := heap_alloc_new (w.alloc (.cells A TA (0, 0))) (.cells Z T (0, 0))
    simpa using this
  o := by
    have := heap_alloc_new ((w.alloc (.cells A TA (0, 0))).alloc (.cells Z T (0, 0))) (.cells O T (0, 0))
    simpa using this
theorem Boxes.call {w wr w1 : World} {A Z O : Array Value} {TA T : TypeId} (h : Boxes w wr A Z O TA T) (hb : Below wr.heap.size wr w1) : Boxes w w1 A Z O TA T := by
  have hs := h.size
  exact ⟨h.below.trans (hb.mono (by omega)), Nat.le_trans hs hb.size, (hb.block _ (by omega)).trans h.a, (hb.block _ (by omega)).trans h.z, (hb.block _ (by omega)).trans h.o⟩
theorem Boxes.store {w wr : World} {A Z O : Array Value} {TA T : TypeId} (h : Boxes w wr A Z O TA T) (i : Nat) (v : Value) : Boxes w (wr.setCell ⟨w.heap.size + 1 + 1, i, none⟩ v) A Z (O.setIfInBounds i v) TA T :=
  ⟨h.below.setCell (p := ⟨w.heap.size + 1 + 1, i, none⟩) (by show w.heap.size ≤ w.heap.size + 1 + 1; omega) v, by have := h.size; simpa using this,
    (heap_setCell_other _ _ _ _ (by show w.heap.size ≠ w.heap.size + 1 + 1; omega)).trans h.a, (heap_setCell_other _ _ _ _ (by show w.heap.size + 1 ≠ w.heap.size + 1 + 1; omega)).trans h.z,
    heap_setCell_same wr _ i O T v h.o⟩
theorem heap_setCells_all (g : Nat) (T : TypeId) : ∀ (vs pre old : List Value) (w : World), old.length = vs.length → w.heap[g]? = some (.cells (pre ++ old).toArray T (0, 0)) → (w.setCells g pre.length vs).heap[g]? = some (.cells (pre ++ vs).toArray T (0, 0))
  | [], pre, old, w, hl, h => by
    obtain rfl : old = [] := List.eq_nil_of_length_eq_zero hl
    exact h
  | v :: vs, pre, [], w, hl, h => by simp at hl
  | v :: vs, pre, u :: us, w, hl, h => by
    have h1 := heap_setCell_same w g pre.length _ T v h
    have h2 := heap_setCells_all g T vs (pre ++ [v]) us (w.setCell ⟨g, pre.length, none⟩ v) (by simpa using hl) (by
      rw [h1]
      simp)
    rw [List.length_append, List.length_singleton] at h2
    rw [World.setCells, h2]
    simp
theorem Boxes.result {w wr : World} {A Z O : Array Value} {TA T : TypeId} (h : Boxes w wr A Z O TA T) (vs : List Value) (hl : Z.size = vs.length) : (wr.setCells (w.heap.size + 1) 0 vs).heap[w.heap.size + 1]? = some (.cells vs.toArray T (0, 0)) := by
  have := heap_setCells_all (w.heap.size + 1) T vs [] Z.toList wr (by simpa using hl) (by simpa using h.z)
  simpa using this
theorem Boxes.last {w wr : World} {A Z O : Array Value} {TA T : TypeId} (h : Boxes w wr A Z O TA T) (vs : List Value) : Below w.heap.size w (wr.setCells (w.heap.size + 1) 0 vs) := below_setCells _ (by omega) _ _ _ h.below
/-- What lies behind the boxes stays there. -/
theorem ListAt.called {α : Type} {S : Shape α} {lo : Nat} {wr w1 : World} {a : Option Addr} {n : Nat} {xs : List α} (h : ListAt S (From lo wr.heap.size) wr a n xs) (hb : Below wr.heap.size wr w1) : ListAt S (From lo w1.heap.size) w1 a n xs :=
  (h.keep (fun b hb' => hb.block b hb'.2)).sub fun b hb' => ⟨hb'.1, Nat.lt_of_lt_of_le hb'.2 hb.size⟩
theorem ListAt.stored {α : Type} {S : Shape α} {lo : Nat} {wr : World} {a : Option Addr} {n : Nat} {xs : List α} (h : ListAt S (From lo wr.heap.size) wr a n xs) (g i : Nat) (v : Value) (hg : g < lo) : ListAt S (From lo (wr.setCell ⟨g, i, none⟩ v).heap.size) (wr.setCell ⟨g, i, none⟩ v) a n xs := by
  rw [show (wr.setCell ⟨g, i, none⟩ v).heap.size = wr.heap.size by simp]
  exact h.keep fun b hb' => heap_setCell_other _ _ _ _ (by have := hb'.1; show b ≠ g; omega)
theorem ListAt.storedAll {α : Type} {S : Shape α} {lo : Nat} {wr : World} {a : Option Addr} {n : Nat} {xs : List α} (h : ListAt S (From lo wr.heap.size) wr a n xs) (g i : Nat) (vs : List Value) (hg : g < lo) : ListAt S (From lo (wr.setCells g i vs).heap.size) (wr.setCells g i vs) a n xs := by
  rw [size_setCells]
  exact h.keep fun b hb' => heap_setCells_other _ _ _ _ _ (by have := hb'.1; omega)
theorem ListAt.lo {α : Type} {S : Shape α} {lo lo' hi : Nat} {w : World} {a : Option Addr} {n : Nat} {xs : List α} (h : ListAt S (From lo hi) w a n xs) (hl : lo' ≤ lo) : ListAt S (From lo' hi) w a n xs := h.sub fun b hb => ⟨Nat.le_trans hl hb.1, hb.2⟩
theorem ListAt.under {α : Type} {S : Shape α} {lo hi : Nat} {w : World} {a : Option Addr} {n : Nat} {xs : List α} (h : ListAt S (From lo hi) w a n xs) : ListAt S (Under hi) w a n xs := h.sub fun b hb => hb.2
theorem Shape.under {α : Type} (S : Shape α) {lo hi : Nat} {w : World} {cs : List Value} {d : α} (h : S.reads (From lo hi) w cs d) : S.reads (Under hi) w cs d := S.sub h fun b hb => hb.2
end Go.Proofs.YtpnifgpmleaohaaGreatDoor

end

/-! YtpnifgpmleaohaaGreatDoorSat -/
section

namespace Go.Proofs.YtpnifgpmleaohaaGreatDoor

/-- A number taken into the range, and whether it was out of it. -/
def sat (x : Int) : Int := if 2147483647 < x then 2147483647 else if x < -2147483647 then -2147483647 else x
def satB (x : Int) : Bool := decide (2147483647 < x ∨ x < -2147483647)
theorem sat_hi {x : Int} (h : 2147483647 < x) : sat x = 2147483647 ∧ satB x = true := by simp [sat, satB, h]
theorem sat_lo {x : Int} (h : x < -2147483647) : sat x = -2147483647 ∧ satB x = true := by
  have h' : ¬ 2147483647 < x := by omega
  simp [sat, satB, h, h']
theorem sat_mid {x : Int} (h0 : -2147483647 ≤ x) (h1 : x ≤ 2147483647) : sat x = x ∧ satB x = false := by
  have h' : ¬ 2147483647 < x := by omega
  have h'' : ¬ x < -2147483647 := by omega
  simp [sat, satB, h', h'']
theorem sat_range (x : Int) : -2147483647 ≤ sat x ∧ sat x ≤ 2147483647 := by
  unfold sat
  split
  · omega
  · split <;> omega
theorem satB_false {x : Int} (h : satB x = false) : sat x = x := by
  simp only [satB, decide_eq_false_iff_not] at h
  exact (sat_mid (by omega) (by omega)).1
theorem satB_true {x : Int} (h : satB x = true) : sat x = 2147483647 ∨ sat x = -2147483647 := by
  simp only [satB, decide_eq_true_eq] at h
  rcases h with h | h
  · exact Or.inl (sat_hi h).1
  · exact Or.inr (sat_lo h).1
theorem mul_range {a b : Int} (ha0 : -2147483647 ≤ a) (ha1 : a ≤ 2147483647) (hb0 : -2147483647 ≤ b) (hb1 : b ≤ 2147483647) : -4611686014132420609 ≤ a * b ∧ a * b ≤ 4611686014132420609 := by
  have h : (a * b).natAbs ≤ 2147483647 * 2147483647 := by
    rw [Int.natAbs_mul]
    exact Nat.mul_le_mul (by omega) (by omega)
  omega
/-- Is it from lo to hi? -/
def inB (lo hi x : Int) : Bool := decide (lo ≤ x ∧ x ≤ hi)
theorem inB_yes {lo hi x : Int} (h0 : lo ≤ x) (h1 : x ≤ hi) : inB lo hi x = true := decide_eq_true ⟨h0, h1⟩
theorem inB_no {lo hi x : Int} (h : x < lo ∨ hi < x) : inB lo hi x = false := decide_eq_false (by omega)
theorem tdiv_lo {x : Int} (h : x < 0) : x.tdiv 65536 = -((-x) / 65536) := by
  have e : x = -(-x) := by omega
  have : (-(-x)).tdiv 65536 = -((-x) / 65536) := by rw [Int.neg_tdiv, Int.tdiv_eq_ediv_of_nonneg (by omega)]
  rwa [← e] at this
theorem tmod_lo {x : Int} (h : x < 0) : x.tmod 65536 = -((-x) % 65536) := by
  have e : x = -(-x) := by omega
  have : (-(-x)).tmod 65536 = -((-x) % 65536) := by rw [Int.neg_tmod, Int.tmod_eq_emod_of_nonneg (by omega)]
  rwa [← e] at this
theorem floor_eq {x : Int} (hx : x < 0) (h : x.tmod 65536 = 0) : x.tdiv 65536 = x / 65536 := by
  rw [tmod_lo hx] at h
  rw [tdiv_lo hx]
  omega
theorem floor_ne {x : Int} (hx : x < 0) (h : ¬ x.tmod 65536 = 0) : x.tdiv 65536 - 1 = x / 65536 := by
  rw [tmod_lo hx] at h
  rw [tdiv_lo hx]
  omega
/-- The four operations. -/
def addN (a b : Int) : Int := sat (sat a + sat b)
def addB (a b : Int) : Bool := satB (sat a + sat b)
def subN (a b : Int) : Int := sat (sat a - sat b)
def subB (a b : Int) : Bool := satB (sat a - sat b)
def mulN (a b : Int) : Int := sat (sat a * sat b / 65536)
def mulB (a b : Int) : Bool := satB (sat a * sat b / 65536)
end Go.Proofs.YtpnifgpmleaohaaGreatDoor

end
