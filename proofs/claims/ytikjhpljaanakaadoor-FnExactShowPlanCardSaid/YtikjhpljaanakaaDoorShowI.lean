/-
  The text of a plan: the program's.
-/
import Derived.Test.YtikjhpljaanakaaDoorShowS
import Derived.Test.YtikjhpljaanakaaDoorItoa
import Derived.Test.YtikjhpljaanakaaDoorShelf
import Derived.Deep.RegionHeld3
namespace Go.Proofs.YtikjhpljaanakaaDoor
open Go.RowKit Go.Sort
set_option linter.unusedVariables false
set_option linter.unusedSimpArgs false

theorem infoStr : (Tryd.prog.info? 9).map (fun i => (i.zero, i.size, i.bytes)) = some (some (.string ⟨#[]⟩), 1, 16) := by kernel_rfl
def scells (l : List ByteArray) : List Value := l.map Value.string
theorem scells_length (l : List ByteArray) : (scells l).length = l.length := by simp [scells]
theorem scells_get (l : List ByteArray) (j : Nat) (x : ByteArray) (h : l[j]? = some x) : (scells l)[j]? = some (.string x) := by simp [scells, h]
def wordsK (xs : List dTwo) (k : Nat) : List ByteArray := (xs.take k).map fun x => ⟨(wordL x).toArray⟩
theorem wordsK_length (xs : List dTwo) (k : Nat) (h : k ≤ xs.length) : (wordsK xs k).length = k := by simp [wordsK]; omega
theorem wordsK_step (xs : List dTwo) (k : Nat) (h : k < xs.length) : wordsK xs (k + 1) = wordsK xs k ++ [⟨(wordL (xs.getD k (0, 0))).toArray⟩] := by
  unfold wordsK
  rw [List.take_add_one, List.getElem?_eq_getElem h, List.map_append]
  simp [List.getD, h]
theorem wordsK_set (xs : List dTwo) (k m : Nat) (h : k < xs.length) : (scells (wordsK xs k ++ List.replicate (m + 1) (⟨#[]⟩ : ByteArray))).set k (.string ⟨(wordL (xs.getD k (0, 0))).toArray⟩) = scells (wordsK xs (k + 1) ++ List.replicate m (⟨#[]⟩ : ByteArray)) := by
  have hl := wordsK_length xs k (by omega)
  rw [wordsK_step xs k h]
  unfold scells
  rw [List.map_append, List.set_append_right _ _ (by rw [List.length_map, hl]; exact Nat.le_refl _), List.length_map, hl, Nat.sub_self, List.replicate_succ, List.map_cons, List.set_cons_zero, List.map_append, List.map_append, List.append_assoc]
  rfl
theorem words_join (xs : List dTwo) : Lib.join ((wordsK xs xs.length).map (·.data.toList)) (⟨#[32]⟩ : ByteArray).data.toList = showK xs xs.length := by
  unfold wordsK showK
  rw [List.take_length, List.map_map]
  rfl
theorem grown_of_below' {w w' : World} (hb : Below w.heap.size w w') : w.grownBy w' none := ⟨hb.os, hb.tape, hb.output, hb.size, fun b hb' _ => hb.block b hb'⟩
set_option maxRecDepth 100000 in
set_option maxHeartbeats 3200000 in
theorem implShowPlan_any (w : World) (a : Option Addr) (n c : Nat) (xs : List dTwo) (h : TwoIn w.heap.size w a n xs) (hw : Wide xs) (hL : LaidT w) :
    Calls Tryd.prog 7 #[.slice a n c] w fun e w' => e = .returned (.string ⟨(showK xs n).toArray⟩) ∧ Below w.heap.size w w' := by
  have hroom := h.room
  have H := Lib.hid h
  have HW := Lib.hid hw
  have HL := Lib.hid h.len
  have HT := Lib.hid hL
  have hmk := fun (w : World) => run_make_many (P := Tryd.prog) 34 9 (.string ⟨#[]⟩) 1 16 Tryd.underlying34 infoStr n (by omega) (by omega) w
  obtain ⟨Z, hZ⟩ : ∃ Z, Z = madeCells (Value.cells (.string ⟨#[]⟩)) (n * 1) := ⟨_, rfl⟩
  have hZl : Z.toList = scells (List.replicate n ⟨#[]⟩) := by
    rw [hZ]
    show (madeCells #[Value.string ⟨#[]⟩] _).toList = _
    rw [toList_madeCells_one]
    simp [scells]
  have hZs : Z.size = n := by have := congrArg List.length hZl; simpa [scells] using this
  rw [← hZ] at hmk
  have HZ := Lib.hid hZl
  have HS := Lib.hid hZs
  clear hZl hZs hZ h hw hL
  have hown : (w.alloc (.cells Z 9)).ownsRow w.heap.size 9 1 (.slice (some ⟨w.heap.size, 0, none⟩) n n) n (scells (wordsK xs 0 ++ List.replicate (n - 0) ⟨#[]⟩)) := by
    refine ⟨by simp [scells, wordsK], .inr ⟨_, _, Z, rfl, Nat.le_refl _, heap_alloc_new w _, Nat.le_refl _, by unfold maxLen; omega, by rw [HS.out]; omega, ?_⟩⟩
    rw [HZ.out]
    simp [scells, wordsK]
  have HO := Lib.hid hown
  clear hown
  go_enter Tryd.func7, Tryd.ntmps7
  go_wp2_with fail
  go_loopw [11] (fun i wr => ∃ k : Nat, k ≤ n ∧ i = .int .i64 k ∧ wr.ownsRow w.heap.size 9 1 (.slice (some ⟨w.heap.size, 0, none⟩) n n) n (scells (wordsK xs k ++ List.replicate (n - k) ⟨#[]⟩)) ∧ Below w.heap.size w wr) (fun i _ => n - (intOf i).toNat)
  case atStart => exact ⟨0, Nat.zero_le _, rfl, HO.out, (Below.refl _ _).alloc (Nat.le_refl _) _⟩
  case round =>
    obtain ⟨k, hk, rfl, hrow, hb⟩ := hrel
    have hlt2 : w.heap.size < wr.heap.size := (World.ownsRow.lt hrow w.heap.size rfl).2
    by_cases hlt : k < n
    · obtain ⟨b, o, rfl, hbB, hc0, hc1⟩ := H.out.cells k hlt
      obtain ⟨X, hX⟩ : ∃ X, xs.getD k (0, 0) = X := ⟨_, rfl⟩
      have hwx := HW.out k (by rw [HL.out]; exact hlt)
      rw [hX] at hc0 hc1 hwx
      obtain ⟨X1, X2⟩ := X
      dsimp only at hc0 hc1 hwx
      obtain ⟨A, hA⟩ : ∃ A, A = insW X1 := ⟨_, rfl⟩
      obtain ⟨B, hB⟩ : ∃ B : ByteArray, B = ⟨(Lib.itoa X2).toArray⟩ := ⟨_, rfl⟩
      have hAl : A.size ≤ 5 := by rw [hA]; exact insW_size X1
      have hBl : B.size ≤ 21 := by rw [hB]; exact Lib.itoa_length_le X2 hwx.1 hwx.2
      have hAB : A ++ B = ⟨(wordL (X1, X2)).toArray⟩ := by
        unfold wordL
        rw [← hA, hB]
        have q := bytes_append A.data.toList (Lib.itoa X2)
        rw [bytes_data] at q
        exact q
      have c0 := (hb.cell (p := ⟨b, o + k * 2, none⟩) hbB).trans hc0
      have c1 := (hb.cell (p := ⟨b, o + k * 2 + 1, none⟩) hbB).trans hc1
      go_upto_region 5 with fail
      have hal : Below wr.heap.size wr (wr.alloc (.cells #[.int .i64 X1, .int .i64 X2] 31 (0, 0))) := (Below.refl _ _).alloc (Nat.le_refl _) _
      have hra := hrow.alloc (.cells #[.int .i64 X1, .int .i64 X2] 31 (0, 0))
      have hbx := heap_alloc_new wr (.cells #[.int .i64 X1, .int .i64 X2] 31 (0, 0))
      have hba := hb.alloc hb.size (.cells #[.int .i64 X1, .int .i64 X2] 31 (0, 0))
      have hsa : (wr.alloc (.cells #[.int .i64 X1, .int .i64 X2] 31 (0, 0))).heap.size = wr.heap.size + 1 := by simp
      have hla := (HT.out.below hb).below hal
      clear c0 c1 hc0 hc1
      generalize wr.alloc (.cells #[.int .i64 X1, .int .i64 X2] 31 (0, 0)) = wa at hal hra hbx hba hsa hla ⊢
      obtain ⟨u, hu⟩ : ∃ u, wa.cell? ⟨w.heap.size, k, none⟩ = some u := by
        rw [hra.cellAt k (by omega)]
        have : k < (scells (wordsK xs k ++ List.replicate (n - k) (⟨#[]⟩ : ByteArray))).length := by rw [hra.1]; omega
        exact ⟨_, List.getElem?_eq_getElem this⟩
      have hfr := hra.frozenAt k
      have HC1 := Lib.hid fun wx : World => hA ▸ implInsWord_any wx X1
      have HC2 := Lib.hid fun (wx : World) (hx : Below wa.heap.size wa wx) => hB ▸ implDec_any X2 wx hwx.1 hwx.2 (hla.below hx)
      have KEEP := Lib.hid fun (wx : World) (hx : Below wa.heap.size wa wx) => (show wx.cell? ⟨wr.heap.size, 0, none⟩ = some (.int .i64 X1) ∧ wx.cell? ⟨wr.heap.size, 1, none⟩ = some (.int .i64 X2) ∧ wx.cell? ⟨w.heap.size, k, none⟩ = some u ∧ wx.frozen? ⟨w.heap.size, k, none⟩ = false from by
        obtain ⟨b0, b1⟩ := box2 ((hx.block wr.heap.size (by omega)).trans hbx)
        exact ⟨b0, b1, (hx.cell (p := ⟨w.heap.size, k, none⟩) (by show w.heap.size < _; omega)).trans hu, (hx.frozen (p := ⟨w.heap.size, k, none⟩) (by show w.heap.size < _; omega)).trans hfr⟩)
      have HBW := Lib.hid (Below.refl wa.heap.size wa)
      have HRA := Lib.hid hra
      have HBA := Lib.hid hba
      have HAB := Lib.hid hAB
      have HX := Lib.hid hX
      have ne1 : ¬ wr.heap.size = w.heap.size := by omega
      have ne2 : ¬ w.heap.size = wr.heap.size := by omega
      clear hal hra hbx hba hla hu hfr hA hB hX hrow hb hwx hAB
      have hsum : A.size + B.size ≤ 9223372036854775807 := by omega
      have hsum2 : ¬ 9223372036854775807 < A.size + B.size := by omega
      have DR : Hid (Below wa.heap.size wa wa.drew) := Lib.hid (Below.refl _ _).drew
      obtain ⟨y0, y1, y2, y3⟩ := KEEP.out _ DR.out
      go_region_held3 (fun w' => w'.cell? ⟨wr.heap.size, 0, none⟩ = some (.int .i64 X1) ∧ w'.cell? ⟨wr.heap.size, 1, none⟩ = some (.int .i64 X2))
        (first | go_keep | (go_split_ands; refine ⟨?_, ?_⟩ <;> with_reducible assumption))
        (first
          | (go_at_call 12; (with_reducible refine (HC1.out _).mono ?_); rintro e w5 ⟨rfl, hb5⟩; have HB5 := Lib.hid (DR.out.trans (hb5.mono DR.out.size)); obtain ⟨s1, s2, s3, s4⟩ := KEEP.out _ HB5.out; clear hb5)
          | (go_at_call 13; (with_reducible refine (HC2.out _ HB5.out).mono ?_); rintro e w6 ⟨rfl, hb6⟩; have HB6 := Lib.hid (HB5.out.trans (hb6.mono HB5.out.size)); obtain ⟨t1, t2, t3, t4⟩ := KEEP.out _ HB6.out; clear hb6))
      clear s1 s2 s3 s4 t1 t2 y0 y1 y2 y3
      have hr6 := World.ownsRow.kept HRA.out (row := none) (grown_of_below' HB6.out) (.inr (by simp [Value.ownBlock]))
      have HR6 := Lib.hid hr6
      clear hr6 t3 t4
      go_wp2_with fail
      obtain ⟨hs1, hs2⟩ := HR6.out.stored k (.string (A ++ B))
      go_roundw
      case rel =>
        refine ⟨k + 1, by omega, by go_num, ?_, (HBA.out.trans (HB6.out.mono HBA.out.size)).setCell (by exact Nat.le_refl _) _⟩
        have e := wordsK_set xs k (n - (k + 1)) (by rw [HL.out]; exact hlt)
        rw [HX.out, ← HAB.out, show n - (k + 1) + 1 = n - k by omega] at e
        rw [← e]
        exact hs1
      case measure => simp [intOf]; omega
    · obtain rfl : k = n := by omega
      rw [Nat.sub_self, List.replicate_zero, List.append_nil] at hrow
      have hwl := wordsK_length xs k (by rw [HL.out]; exact Nat.le_refl _)
      have hjl := words_join xs
      rw [HL.out] at hjl
      have hsl := showK_length xs HW.out k (by rw [HL.out]; exact Nat.le_refl _)
      have HC := Lib.hid (Tryd.strings_Join w.heap.size 0 k (wordsK xs k) ⟨#[32]⟩ wr (fun j x hx => by
        have hj : j < k := by rw [← hwl]; exact (List.getElem?_eq_some_iff.1 hx).1
        rw [Nat.zero_add, hrow.cellAt j (by omega)]
        exact scells_get _ _ _ hx) hlt2 (by omega) (by omega) (by rw [hjl]; omega))
      rw [hjl, hwl] at HC
      have HB := Lib.hid hb
      clear hrow hb hjl hsl hwl
      go_wp2_with fail
      refine HC.out.mono ?_
      rintro e w7 ⟨rfl, hb7⟩
      have HB7 := Lib.hid (HB.out.trans (hb7.mono HB.out.size))
      clear hb7
      go_wp2_with fail
      go_ret
      exact ⟨rfl, HB7.out⟩
end Go.Proofs.YtikjhpljaanakaaDoor
