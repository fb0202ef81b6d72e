/-
  Data with depth: more of the laws' types.
-/
import Derived.Test.YtcooobnaocbdjaaJoin7
import Derived.Test.YtcooobnaocbdjaaJoin10
namespace Go.Proofs.Ytcooobnaocbdjaa
open Go.RowKit Go.Sort
set_option linter.unusedVariables false
set_option linter.unusedSimpArgs false


abbrev dSaved := Int × List dRow
def shSaved : Shape dSaved := .struct (.cons Shape.int (.last (Shape.list shRow)))
theorem shSaved_size : shSaved.size = 2 := rfl
theorem shSaved_reads {I : Nat → Prop} {w : World} {cs : List Value} {d : dSaved} : shSaved.reads I w cs d ↔ ∃ a0 n0 c0, cs = [.int .i64 d.1, .slice a0 n0 c0] ∧ (n0 ≤ c0 ∧ c0 ≤ 9223372036854775807 ∧ ListAt shRow I w a0 n0 d.2) := by
  constructor
  · rintro ⟨_, _, rfl, rfl, ⟨a0, n0, c0, rfl, g0⟩⟩
    exact ⟨a0, n0, c0, rfl, g0⟩
  · rintro ⟨a0, n0, c0, rfl, g0⟩
    exact ⟨_, _, rfl, rfl, ⟨a0, n0, c0, rfl, g0⟩⟩
theorem shSaved_bulk (d : dSaved) : shSaved.bulk d = (Shape.list shRow).bulk d.2 := by
  simp only [shSaved, Shape.struct, FieldsOf.cons, FieldsOf.last, Shape.int, Shape.bool]
  try omega
def looseSavedS (xs : List dSaved) : Prop := (Shape.list shSaved).bulk xs ≤ 2097152 ∧ ∀ x ∈ xs, shSaved.bulk x ≤ 1048576
theorem looseSavedS_of {xs : List dSaved} (h : (Shape.list shSaved).bulk xs ≤ 1048576) : looseSavedS xs := ⟨by omega, fun x hx => by
  obtain ⟨j, hj⟩ := List.mem_iff_getElem?.1 hx
  have h1 := bulk_mem shSaved.bulk xs j x hj
  have h2 : (Shape.list shSaved).bulk xs = xs.length + Shape.sum shSaved.bulk xs := rfl
  omega⟩
set_option maxRecDepth 100000 in
theorem szSaved_c (w : World) (B : Nat) (es : List Value) (x : dSaved) (L : Int) (h : shSaved.reads (Under B) w es x) (hB : B ≤ w.heap.size) (h0 : 0 ≤ L) (h1 : L ≤ 1048576) :
    Calls Try.prog 109 #[.agg es.toArray, .int .i64 L] w fun e w' => e = .returned (.int .i64 (szN (shSaved.bulk x) L)) ∧ Below w.heap.size w w' := by
  obtain ⟨a0, n0, c0, rfl, ⟨p0, r0, l0⟩⟩ := shSaved_reads.1 h
  rw [shSaved_bulk]
  have ha := (Below.refl w.heap.size w).alloc (Nat.le_refl _) (.cells #[.int .i64 x.1, .slice a0 n0 c0] 149 (0, 0))
  have hb0 := heap_alloc_new w (.cells #[.int .i64 x.1, .slice a0 n0 c0] 149 (0, 0))
  have hs0 : w.heap.size < (w.alloc (.cells #[.int .i64 x.1, .slice a0 n0 c0] 149 (0, 0))).heap.size := by simp
  have H0 := fun (w1 : World) (hb : Below w.heap.size w w1) (V : Int) (g0 : 0 ≤ V) (g1 : V ≤ 1048576) => szRowS_c w1 B a0 n0 c0 _ V (l0.below hb hB) (Nat.le_trans hB hb.size) (by omega) g0 g1
  obtain ⟨u0, hu0⟩ : ∃ u, (Shape.list shRow).bulk x.2 = u := ⟨_, rfl⟩
  simp only [hu0] at H0 ⊢
  replace H0 := Lib.hid H0
  have HA := Lib.hid ha
  have HB0 := Lib.hid hb0
  have HS0 := Lib.hid hs0
  clear ha hb0 hs0 h hu0
  clear p0 r0 l0
  obtain ⟨d, hd⟩ : ∃ d, d = szN (u0) L := ⟨_, rfl⟩
  rw [← hd]
  replace HD := Lib.hid hd
  clear hd
  by_cases f0 : (u0 : Int) ≤ L
  · have q0 := H0.out _ HA.out L (by omega) (by omega)
    rw [szN_yes f0] at q0
    obtain ⟨V0, hV0⟩ : ∃ V', L - (u0 : Int) = V' := ⟨_, rfl⟩
    rw [hV0] at q0
    have t0 : decide (V0 < 0) = false := decide_eq_false (by omega)
    have hdd : V0 = d := by rw [HD.out, szN_yes (by omega)]; omega
    subst hdd
    replace q0 := Lib.hid q0
    go_enter Try.func109, Try.ntmps109
    go_wp2_with fail
    refine q0.out.mono ?_
    rintro e w1 ⟨rfl, hb0⟩
    have B0 := Lib.hid (HA.out.trans (hb0.mono HA.out.size))
    clear hb0
    go_wp2_with fail
    go_ret
    exact ⟨rfl, B0.out⟩
  · have q0 := H0.out _ HA.out L (by omega) (by omega)
    rw [szN_no f0] at q0
    have hdd : d = -1 := by rw [HD.out]; exact szN_no (by omega)
    subst hdd
    replace q0 := Lib.hid q0
    go_enter Try.func109, Try.ntmps109
    go_wp2_with fail
    refine q0.out.mono ?_
    rintro e w1 ⟨rfl, hb0⟩
    have B0 := Lib.hid (HA.out.trans (hb0.mono HA.out.size))
    clear hb0
    go_wp2_with fail
    go_ret
    exact ⟨rfl, B0.out⟩
set_option maxRecDepth 100000 in
set_option maxHeartbeats 800000 in
theorem toSaved_c (w : World) (B : Nat) (es : List Value) (x : dSaved) (h : shSaved.reads (Under B) w es x) (hB : B ≤ w.heap.size) (hb : shSaved.bulk x ≤ 1048576) :
    Calls Try.prog 114 #[.agg es.toArray] w fun e w' => ∃ es', e = .returned (.agg es'.toArray) ∧ shSaved.reads (From w.heap.size w'.heap.size) w' es' x ∧ Below w.heap.size w w' := by
  obtain ⟨a0, n0, c0, rfl, ⟨p0, r0, l0⟩⟩ := shSaved_reads.1 h
  rw [shSaved_bulk] at hb
  have m0 : n0 ≤ 1048576 := by have := bulk_list shRow l0; omega
  have H0 := Lib.hid fun (w1 : World) (hbw : Below w.heap.size w w1) => toRowS_c w1 B a0 n0 c0 _ (l0.below hbw hB) (Nat.le_trans hB hbw.size) (by omega)
  have hbx := Boxes.start w #[.int .i64 x.1, .slice a0 n0 c0] #[.int .i64 0, .slice none 0 0] #[.int .i64 x.1, .slice none 0 0] 149 122
  clear h hb l0 r0 p0
  go_enter Try.func114, Try.ntmps114
  go_wp2_with fail
  generalize ((w.alloc (.cells #[.int .i64 x.1, .slice a0 n0 c0] 149 (0, 0))).alloc (.cells #[.int .i64 0, .slice none 0 0] 122 (0, 0))).alloc (.cells #[.int .i64 x.1, .slice none 0 0] 122 (0, 0)) = v0 at hbx ⊢
  have BX0 := Lib.hid hbx
  clear hbx
  refine (H0.out v0 BX0.out.below).mono ?_
  rintro e w1 ⟨rfl, hr0, hb0⟩
  have hbx := BX0.out.call hb0
  have hlt0 := BX0.out.size
  have za0_0 : w1.cell? ⟨w.heap.size, 0, none⟩ = _ := cell_of_row _ _ _ _ _ _ hbx.a
  have za0_1 : w1.cell? ⟨w.heap.size, 1, none⟩ = _ := cell_of_row _ _ _ _ _ _ hbx.a
  have zo0_0 : w1.cell? ⟨w.heap.size + 1 + 1, 0, none⟩ = _ := cell_of_row _ _ _ _ _ _ hbx.o
  have zo0_1 : w1.cell? ⟨w.heap.size + 1 + 1, 1, none⟩ = _ := cell_of_row _ _ _ _ _ _ hbx.o
  have zr0_0 : w1.cell? ⟨w.heap.size + 1, 0, none⟩ = _ := cell_of_row _ _ _ _ _ _ hbx.z
  have zr0_1 : w1.cell? ⟨w.heap.size + 1, 1, none⟩ = _ := cell_of_row _ _ _ _ _ _ hbx.z
  have fo0_0 : w1.frozen? ⟨w.heap.size + 1 + 1, 0, none⟩ = false := frozen_of_row _ _ _ _ _ hbx.o
  have fr0_0 : w1.frozen? ⟨w.heap.size + 1, 0, none⟩ = false := frozen_of_row _ _ _ _ _ hbx.z
  have fo0_1 : w1.frozen? ⟨w.heap.size + 1 + 1, 1, none⟩ = false := frozen_of_row _ _ _ _ _ hbx.o
  have fr0_1 : w1.frozen? ⟨w.heap.size + 1, 1, none⟩ = false := frozen_of_row _ _ _ _ _ hbx.z
  simp only [List.setIfInBounds_toArray, List.set_cons_zero, List.set_cons_succ, List.getElem?_toArray, List.getElem?_cons_zero, List.getElem?_cons_succ] at za0_0 zo0_0 zr0_0 za0_1 zo0_1 zr0_1
  have N0_0 := hr0.lo (Nat.le_trans (by omega) hlt0 : w.heap.size + 3 ≤ v0.heap.size)
  have hby := (hbx.store 1 (.slice (some ⟨v0.heap.size, 0, none⟩) n0 n0))
  have O0_0 := (N0_0.stored (w.heap.size + 1 + 1) 1 (.slice (some ⟨v0.heap.size, 0, none⟩) n0 n0) (by omega))
  replace hby := Lib.hid hby
  replace O0_0 := Lib.hid O0_0
  clear N0_0
  clear hr0 hbx hb0
  go_wp2_with fail
  refine bodyPost_ret (results_cell_row rfl _ _ (w.heap.size + 1) 122 #[.int .i64 x.1, .slice (some ⟨v0.heap.size, 0, none⟩) n0 n0] (0, 0) _ rfl ?_ Try.underlying122 rfl (by kernel_rfl)) rfl ?_
  · exact hby.out.result [.int .i64 x.1, .slice (some ⟨v0.heap.size, 0, none⟩) n0 n0] rfl
  refine ⟨[.int .i64 x.1, .slice (some ⟨v0.heap.size, 0, none⟩) n0 n0], rfl, ?_, hby.out.last [.int .i64 x.1, .slice (some ⟨v0.heap.size, 0, none⟩) n0 n0]⟩
  exact shSaved_reads.2 ⟨_, _, _, rfl, ⟨Nat.le_refl _, by omega, (O0_0.out.storedAll (w.heap.size + 1) 0 [.int .i64 x.1, .slice (some ⟨v0.heap.size, 0, none⟩) n0 n0] (by omega)).lo (by omega)⟩⟩
set_option maxRecDepth 100000 in
set_option maxHeartbeats 800000 in
theorem eqSaved_c (w : World) (B B' : Nat) (es es' : List Value) (x : dSaved) (h : shSaved.reads (Under B) w es x) (h' : shSaved.reads (Under B') w es' x) (hB : B ≤ w.heap.size) (hB' : B' ≤ w.heap.size) (hb : shSaved.bulk x ≤ 1048576) :
    Calls Try.prog 118 #[.agg es.toArray, .agg es'.toArray] w fun e w' => e = .returned (.bool true) ∧ Below w.heap.size w w' := by
  obtain ⟨a0, n0, c0, rfl, ⟨-, -, l0⟩⟩ := shSaved_reads.1 h
  obtain ⟨b0, nb0, cb0, rfl, ⟨-, -, m0⟩⟩ := shSaved_reads.1 h'
  obtain rfl : nb0 = n0 := by rw [← l0.1, ← m0.1]
  rw [shSaved_bulk] at hb
  have ha := ((Below.refl w.heap.size w).alloc (Nat.le_refl _) (.cells #[.int .i64 x.1, .slice a0 nb0 c0] 122 (0, 0))).alloc (by simp) (.cells #[.int .i64 x.1, .slice b0 nb0 cb0] 122 (0, 0))
  have hA : ((w.alloc (.cells #[.int .i64 x.1, .slice a0 nb0 c0] 122 (0, 0))).alloc (.cells #[.int .i64 x.1, .slice b0 nb0 cb0] 122 (0, 0))).heap[w.heap.size]? = some (.cells #[.int .i64 x.1, .slice a0 nb0 c0] 122 (0, 0)) := by
    rw [Below.heap_alloc _ _ _ (by simp)]
    exact heap_alloc_new w _
  have hC : ((w.alloc (.cells #[.int .i64 x.1, .slice a0 nb0 c0] 122 (0, 0))).alloc (.cells #[.int .i64 x.1, .slice b0 nb0 cb0] 122 (0, 0))).heap[w.heap.size + 1]? = some (.cells #[.int .i64 x.1, .slice b0 nb0 cb0] 122 (0, 0)) := by
    have := heap_alloc_new (w.alloc (.cells #[.int .i64 x.1, .slice a0 nb0 c0] 122 (0, 0))) (.cells #[.int .i64 x.1, .slice b0 nb0 cb0] 122 (0, 0))
    simpa using this
  have hS : w.heap.size + 1 < ((w.alloc (.cells #[.int .i64 x.1, .slice a0 nb0 c0] 122 (0, 0))).alloc (.cells #[.int .i64 x.1, .slice b0 nb0 cb0] 122 (0, 0))).heap.size := by simp
  have H0 := Lib.hid fun (w1 : World) (hbw : Below w.heap.size w w1) => eqRowS_c w1 B B' a0 b0 nb0 c0 cb0 _ (l0.below hbw hB) (m0.below hbw hB') (Nat.le_trans hB hbw.size) (Nat.le_trans hB' hbw.size) (by omega)
  have HA := Lib.hid ha
  have XA := Lib.hid hA
  have XC := Lib.hid hC
  have HS := Lib.hid hS
  clear h h' hb ha hA hC hS l0 m0
  go_enter Try.func118, Try.ntmps118
  go_wp2_with fail
  refine (H0.out _ HA.out).mono ?_
  rintro e w1 ⟨rfl, hb0⟩
  have B0 := Lib.hid (HA.out.trans (hb0.mono HA.out.size))
  clear hb0
  go_wp2_with fail
  go_ret
  exact ⟨rfl, B0.out⟩
set_option maxRecDepth 100000 in
set_option maxHeartbeats 1600000 in
theorem szSavedS_c (w : World) (B : Nat) (a : Option Addr) (n c : Nat) (xs : List dSaved) (L : Int) (h : ListAt shSaved (Under B) w a n xs) (hB : B ≤ w.heap.size) (hn : n ≤ 9223372036854775807) (h0 : 0 ≤ L) (h1 : L ≤ 1048576) :
    Calls Try.prog 89 #[.slice a n c, .int .i64 L] w fun e w' => e = .returned (.int .i64 (szN ((Shape.list shSaved).bulk xs) L)) ∧ Below w.heap.size w w' := by
  obtain ⟨d, hd⟩ : ∃ d, d = szN ((Shape.list shSaved).bulk xs) L := ⟨_, rfl⟩
  rw [← hd]
  have hbk : (Shape.list shSaved).bulk xs = n + Shape.sum shSaved.bulk xs := by rw [← h.1]; rfl
  rw [hbk] at hd
  have HD := Lib.hid hd
  have HL := Lib.hid h
  clear hd hbk h
  by_cases hnL : (n : Int) ≤ L
  · have hw : wrap64 (L - n) = L - n := IntWalk.wrap64_in (L - n) (by omega)
    have hlt0 : decide (L - (n : Int) < 0) = false := decide_eq_false (by omega)
    obtain ⟨M, hM⟩ : ∃ M : Int, L - n = M := ⟨_, rfl⟩
    rw [hM] at hw hlt0
    go_enter Try.func89, Try.ntmps89
    go_wp2_with fail
    go_loopw [1, 5] (fun l i wr => ∃ (k : Nat) (V : Int), k ≤ n ∧ i = .int .i64 k ∧ l = .int .i64 V ∧ 0 ≤ V ∧ V ≤ 1048576 ∧ Hid (V = M - Shape.sum shSaved.bulk (xs.take k)) ∧ Below w.heap.size w wr) (fun _ i _ => n - (intOf i).toNat)
    case atStart => exact ⟨0, M, Nat.zero_le _, rfl, rfl, by omega, by omega, Lib.hid (by simp [Shape.sum]), Below.refl _ _⟩
    case round =>
      obtain ⟨k, V, hk, rfl, rfl, hV0, hV1, hV, hbw⟩ := hrel
      by_cases hlt : k < n
      · have hx : ∃ x, xs[k]? = some x := ⟨_, List.getElem?_eq_getElem (by rw [HL.out.1]; exact hlt)⟩
        obtain ⟨x, hx⟩ := hx
        obtain ⟨b, o, es, rfl, hbB, hr, hs⟩ := HL.out.2 k x hx
        have hsz := hbw.size
        have hrr := rangeAt_kept hr (show b < w.heap.size from Nat.lt_of_lt_of_le hbB hB) (Kept.of_below (I := Under w.heap.size) hbw fun b hb => hb)
        have HS := Lib.hid (szSaved_c wr _ es x V (shSaved.below (shSaved.le hs hB) hbw (Nat.le_refl _)) hsz hV0 hV1)
        have HST := Lib.hid (sum_take shSaved.bulk xs k x hx)
        have HTL := Lib.hid (sum_take_le shSaved.bulk xs (k + 1))
        have HBW := Lib.hid hbw
        obtain ⟨u, hu⟩ : ∃ u, shSaved.bulk x = u := ⟨_, rfl⟩
        rw [hu] at HS HST
        obtain ⟨ae0, ne0, ce0, rfl, -⟩ := shSaved_reads.1 hs
        rw [shSaved_size] at hrr
        have c0 := hrr 0 _ rfl
        have c1 := hrr 1 _ rfl
        simp only [Nat.add_zero] at c0
        try dsimp only at c0 c1 HS
        clear hr hrr hs hx hu hbw
        by_cases hfit : (u : Int) ≤ V
        · rw [szN_yes hfit] at HS
          obtain ⟨V', hV'⟩ : ∃ V', V - (u : Int) = V' := ⟨_, rfl⟩
          rw [hV'] at HS
          have hneg : decide (V' < 0) = false := decide_eq_false (by omega)
          go_wp2_with fail
          refine HS.out.mono ?_
          rintro e w' ⟨rfl, hb2⟩
          have HB2 := Lib.hid hb2
          clear hb2
          go_wp2_with fail
          go_round
          case rel => exact ⟨k + 1, V', by omega, by go_num, rfl, by omega, by omega, Lib.hid (by have e1 := HST.out; have e2 := hV.out; omega), HBW.out.trans (HB2.out.mono hsz)⟩
          case measure => simp [intOf]; omega
        · rw [szN_no hfit] at HS
          have hdd : d = -1 := by
            rw [HD.out]
            refine szN_no ?_
            have e1 := HST.out
            have e2 := HTL.out
            have e3 := hV.out
            omega
          subst hdd
          go_wp2_with fail
          refine HS.out.mono ?_
          rintro e w' ⟨rfl, hb2⟩
          have HB2 := Lib.hid hb2
          clear hb2
          go_wp2_with fail
          go_ret
          exact ⟨rfl, HBW.out.trans (HB2.out.mono hsz)⟩
      · have hkn : k = n := by omega
        subst hkn
        have hdd : V = d := by
          rw [HD.out]
          have e1 := hV.out
          have e2 : xs.take k = xs := List.take_of_length_le (by rw [HL.out.1]; exact Nat.le_refl _)
          rw [e2] at e1
          rw [szN_yes (by omega)]
          omega
        subst hdd
        have HBW := Lib.hid hbw
        clear hbw
        go_wp2_with fail
        go_ret
        exact ⟨rfl, HBW.out⟩
  · have hdd : d = -1 := by rw [HD.out]; exact szN_no (by omega)
    subst hdd
    have hw : wrap64 (L - n) = L - n := IntWalk.wrap64_in (L - n) (by omega)
    have hlt0 : decide (L - (n : Int) < 0) = true := decide_eq_true (by omega)
    obtain ⟨M, hM⟩ : ∃ M : Int, L - n = M := ⟨_, rfl⟩
    rw [hM] at hw hlt0
    go_enter Try.func89, Try.ntmps89
    go_wp2_with fail
    go_ret
    exact ⟨rfl, Below.refl _ _⟩
theorem infoAll_Saved : (Try.prog.info? 122).map (fun i => (i.zero, i.size, i.bytes)) = some (some (.agg #[.int .i64 0, .slice none 0 0]), 2, 32) := by kernel_rfl
set_option maxRecDepth 100000 in
set_option maxHeartbeats 1600000 in
theorem toSavedS_c (w : World) (B : Nat) (a : Option Addr) (n c : Nat) (xs : List dSaved) (h : ListAt shSaved (Under B) w a n xs) (hB : B ≤ w.heap.size) (hb : (Shape.list shSaved).bulk xs ≤ 1048576) :
    Calls Try.prog 96 #[.slice a n c] w fun e w' => e = .returned (.slice (some ⟨w.heap.size, 0, none⟩) n n) ∧ ListAt shSaved (From w.heap.size w'.heap.size) w' (some ⟨w.heap.size, 0, none⟩) n xs ∧ Below w.heap.size w w' := by
  have hbk : (Shape.list shSaved).bulk xs = n + Shape.sum shSaved.bulk xs := by rw [← h.1]; rfl
  rw [hbk] at hb
  have hmk := run_make_many (P := Try.prog) 57 122 _ 2 32 Try.underlying57 infoAll_Saved n (by omega) (by omega)
  have hst := Filled.start shSaved w n xs (Value.agg #[.int .i64 0, .slice none 0 0]).cells 122
  replace hst := Lib.hid hst
  have HL := Lib.hid h
  have HB := Lib.hid hb
  have hn1 : n ≤ 1048576 := by omega
  clear hbk h hb
  go_enter Try.func96, Try.ntmps96
  go_wp2_with fail
  go_loopw [4] (fun i wr => ∃ k : Nat, k ≤ n ∧ i = .int .i64 k ∧ Filled shSaved w wr n k xs) (fun i _ => n - (intOf i).toNat)
  case atStart => exact ⟨0, Nat.zero_le _, rfl, hst.out⟩
  case round =>
    obtain ⟨k, hk, rfl, hf⟩ := hrel
    by_cases hlt : k < n
    · obtain ⟨x, hx⟩ : ∃ x, xs[k]? = some x := ⟨_, List.getElem?_eq_getElem (by rw [HL.out.1]; exact hlt)⟩
      obtain ⟨b, o, es, rfl, hbB, hr, hs⟩ := HL.out.2 k x hx
      have hfb := hf.below
      have hfl := hf.lt
      have hth0 := hf.rest
      have hrr := rangeAt_kept hr (show b < w.heap.size from Nat.lt_of_lt_of_le hbB hB) (Kept.of_below (I := Under w.heap.size) hfb fun b hb => hb)
      have HS := Lib.hid (toSaved_c wr _ es x (shSaved.below (shSaved.le hs hB) hfb (Nat.le_refl _)) (Nat.le_of_lt hfl) (by have h1 := bulk_mem shSaved.bulk xs k x hx; have h2 := HB.out; omega))
      have HF := Lib.hid hf
      have HX := Lib.hid hx
      have HT := Lib.hid hth0
      obtain ⟨ae0, ne0, ce0, rfl, -⟩ := shSaved_reads.1 hs
      rw [shSaved_size] at hrr
      have c0 := hrr 0 _ rfl
      have c1 := hrr 1 _ rfl
      simp only [Nat.add_zero] at c0
      try dsimp only at c0 c1 HS
      clear hr hrr hs hx hf hth0
      go_wp2_with fail
      clear c0 c1
      refine HS.out.mono ?_
      rintro e w1 ⟨es', rfl, hs', hb1⟩
      have hn4 : 2 ≤ (n - k) * shSaved.size := by rw [shSaved_size]; omega
      have hth := there_below HT.out hb1 hfl
      have hN := HF.out.step hlt hb1 HX.out hs'
      have HN := Lib.hid hN
      have HB1 := Lib.hid hb1
      obtain ⟨af0, nf0, cf0, rfl, -⟩ := shSaved_reads.1 hs'
      obtain ⟨⟨v0, d0⟩, f0⟩ := there_cell hth 0 (by omega)
      obtain ⟨⟨v1, d1⟩, f1⟩ := there_cell hth 1 (by omega)
      rw [shSaved_size] at d0 d1 f0 f1
      simp only [Nat.add_zero] at d0 f0
      clear hs' hb1 hth hN
      go_wp2_with fail
      go_round
      case rel => exact ⟨k + 1, by omega, by go_num, HN.out⟩
      case measure => simp [intOf]; omega
    · obtain rfl : k = n := by omega
      have hz := hf.below
      have HF := Lib.hid hf
      clear hf hz
      go_wp2_with fail
      go_ret
      exact ⟨rfl, HF.out.list HL.out.1, HF.out.below⟩
set_option maxRecDepth 100000 in
set_option maxHeartbeats 1600000 in
theorem eqSavedS_c (w : World) (B B' : Nat) (a a' : Option Addr) (n c c' : Nat) (xs : List dSaved) (h : ListAt shSaved (Under B) w a n xs) (h' : ListAt shSaved (Under B') w a' n xs) (hB : B ≤ w.heap.size) (hB' : B' ≤ w.heap.size) (hbl : looseSavedS xs) :
    Calls Try.prog 103 #[.slice a n c, .slice a' n c'] w fun e w' => e = .returned (.bool true) ∧ Below w.heap.size w w' := by
  obtain ⟨hb, hbe⟩ := hbl
  have HBE := Lib.hid hbe
  clear hbe
  have hbk : (Shape.list shSaved).bulk xs = n + Shape.sum shSaved.bulk xs := by rw [← h.1]; rfl
  rw [hbk] at hb
  have hn1 : n ≤ 2097152 := by omega
  have HL := Lib.hid (h.le hB)
  have HL' := Lib.hid (h'.le hB')
  have HB := Lib.hid hb
  clear hbk h h' hb
  go_enter Try.func103, Try.ntmps103
  go_wp2_with fail
  go_loopw [5] (fun i wr => ∃ k : Nat, k ≤ n ∧ i = .int .i64 k ∧ Below w.heap.size w wr) (fun i _ => n - (intOf i).toNat)
  case atStart => exact ⟨0, Nat.zero_le _, rfl, Below.refl _ _⟩
  case round =>
    obtain ⟨k, hk, rfl, hbw⟩ := hrel
    by_cases hlt : k < n
    · obtain ⟨x, hx⟩ : ∃ x, xs[k]? = some x := ⟨_, List.getElem?_eq_getElem (by rw [HL.out.1]; exact hlt)⟩
      obtain ⟨b, o, es, rfl, hbB, hr, hs⟩ := HL.out.2 k x hx
      obtain ⟨b', o', es', rfl, hbB', hr', hs'⟩ := HL'.out.2 k x hx
      have hsz := hbw.size
      have hrr := rangeAt_kept hr (show b < w.heap.size from hbB) (Kept.of_below (I := Under w.heap.size) hbw fun b hb => hb)
      have hrr' := rangeAt_kept hr' (show b' < w.heap.size from hbB') (Kept.of_below (I := Under w.heap.size) hbw fun b hb => hb)
      have hsw := shSaved.below hs hbw (Nat.le_refl _)
      have hsw' := shSaved.below hs' hbw (Nat.le_refl _)
      have hbx : shSaved.bulk x ≤ 1048576 := HBE.out x (List.mem_of_getElem? hx)
      have HC := Lib.hid fun (w1 : World) (hb1 : Below w.heap.size wr w1) => eqSaved_c w1 _ _ es es' x (shSaved.below hsw hb1 (Nat.le_refl _)) (shSaved.below hsw' hb1 (Nat.le_refl _)) (Nat.le_trans hsz hb1.size) (Nat.le_trans hsz hb1.size) hbx
      have HBW := Lib.hid hbw
      obtain ⟨ae0, ne0, ce0, rfl, -⟩ := shSaved_reads.1 hs
      obtain ⟨af0, nf0, cf0, rfl, -⟩ := shSaved_reads.1 hs'
      rw [shSaved_size] at hrr hrr'
      have c0 := hrr 0 _ rfl
      have c1 := hrr 1 _ rfl
      have d0 := hrr' 0 _ rfl
      have d1 := hrr' 1 _ rfl
      simp only [Nat.add_zero] at c0 d0
      try dsimp only at c0 d0 c1 d1 HC
      clear hr hr' hrr hrr' hs hs' hsw hsw' hx hbw hbx
      go_upto_region 6 with fail
      have k0 := cell_regrown c0
      have l0 := cell_regrown d0
      have k1 := cell_regrown c1
      have l1 := cell_regrown d1
      have cC := fun d os => Calls.regrown_of (w := wr) (d := d) (os := os) (HC.out _ ((below_regrown wr d os).mono hsz))
      have CC := Lib.hid cC
      clear c0 d0 c1 d1 cC
      refine wp_region_quiet_below (by kernel_rfl) (by kernel_rfl) ?_
      repeat (go_big_quiet_step (with_reducible first | exact CC.out _ _))
      refine wpQuiet_nil ?_
      intro _ hw'
      obtain ⟨⟨dq, osq⟩, hw''⟩ := hw'
      subst hw''
      have hwq := below_regrown wr dq osq
      generalize grow (redrawn wr dq) osq = w1 at hwq ⊢
      have HW := Lib.hid hwq
      clear hwq k0 l0 k1 l1
      go_wp2_with fail
      go_round
      case rel => exact ⟨k + 1, by omega, by go_num, HBW.out.trans (HW.out.mono hsz)⟩
      case measure => simp [intOf]; omega
    · obtain rfl : k = n := by omega
      have HBW := Lib.hid hbw
      clear hbw
      go_wp2_with fail
      go_ret
      exact ⟨rfl, HBW.out⟩
abbrev dStage := Int × List dIns × List dOp × Bool × Bool × List dSaved × List dRow × List Int × List Int × List Int × List Int × dGrads
def shStage : Shape dStage := .struct (.cons Shape.int (.cons (Shape.list shIns) (.cons (Shape.list shOp) (.cons Shape.bool (.cons Shape.bool (.cons (Shape.list shSaved) (.cons (Shape.list shRow) (.cons (Shape.list Shape.int) (.cons (Shape.list Shape.int) (.cons (Shape.list Shape.int) (.cons (Shape.list Shape.int) (.last shGrads))))))))))))
theorem shStage_size : shStage.size = 14 := rfl
theorem shStage_reads {I : Nat → Prop} {w : World} {cs : List Value} {d : dStage} : shStage.reads I w cs d ↔ ∃ a0 n0 c0 a1 n1 c1 a2 n2 c2 a3 n3 c3 a4 n4 c4 a5 n5 c5 a6 n6 c6 a7 n7 c7 a8 n8 c8, cs = [.int .i64 d.1, .slice a0 n0 c0, .slice a1 n1 c1, .bool d.2.2.2.1, .bool d.2.2.2.2.1, .slice a2 n2 c2, .slice a3 n3 c3, .slice a4 n4 c4, .slice a5 n5 c5, .slice a6 n6 c6, .slice a7 n7 c7, .slice a8 n8 c8, .int .i64 d.2.2.2.2.2.2.2.2.2.2.2.2.1, .bool d.2.2.2.2.2.2.2.2.2.2.2.2.2] ∧ (n0 ≤ c0 ∧ c0 ≤ 9223372036854775807 ∧ ListAt shIns I w a0 n0 d.2.1) ∧ (n1 ≤ c1 ∧ c1 ≤ 9223372036854775807 ∧ ListAt shOp I w a1 n1 d.2.2.1) ∧ (n2 ≤ c2 ∧ c2 ≤ 9223372036854775807 ∧ ListAt shSaved I w a2 n2 d.2.2.2.2.2.1) ∧ (n3 ≤ c3 ∧ c3 ≤ 9223372036854775807 ∧ ListAt shRow I w a3 n3 d.2.2.2.2.2.2.1) ∧ (n4 ≤ c4 ∧ c4 ≤ 9223372036854775807 ∧ ListAt Shape.int I w a4 n4 d.2.2.2.2.2.2.2.1) ∧ (n5 ≤ c5 ∧ c5 ≤ 9223372036854775807 ∧ ListAt Shape.int I w a5 n5 d.2.2.2.2.2.2.2.2.1) ∧ (n6 ≤ c6 ∧ c6 ≤ 9223372036854775807 ∧ ListAt Shape.int I w a6 n6 d.2.2.2.2.2.2.2.2.2.1) ∧ (n7 ≤ c7 ∧ c7 ≤ 9223372036854775807 ∧ ListAt Shape.int I w a7 n7 d.2.2.2.2.2.2.2.2.2.2.1) ∧ (n8 ≤ c8 ∧ c8 ≤ 9223372036854775807 ∧ ListAt shRow I w a8 n8 d.2.2.2.2.2.2.2.2.2.2.2.1) := by
  constructor
  · rintro ⟨_, _, rfl, rfl, _, _, rfl, ⟨a0, n0, c0, rfl, g0⟩, _, _, rfl, ⟨a1, n1, c1, rfl, g1⟩, _, _, rfl, rfl, _, _, rfl, rfl, _, _, rfl, ⟨a2, n2, c2, rfl, g2⟩, _, _, rfl, ⟨a3, n3, c3, rfl, g3⟩, _, _, rfl, ⟨a4, n4, c4, rfl, g4⟩, _, _, rfl, ⟨a5, n5, c5, rfl, g5⟩, _, _, rfl, ⟨a6, n6, c6, rfl, g6⟩, _, _, rfl, ⟨a7, n7, c7, rfl, g7⟩, ⟨_, _, rfl, ⟨a8, n8, c8, rfl, g8⟩, _, _, rfl, rfl, rfl⟩⟩
    exact ⟨a0, n0, c0, a1, n1, c1, a2, n2, c2, a3, n3, c3, a4, n4, c4, a5, n5, c5, a6, n6, c6, a7, n7, c7, a8, n8, c8, rfl, g0, g1, g2, g3, g4, g5, g6, g7, g8⟩
  · rintro ⟨a0, n0, c0, a1, n1, c1, a2, n2, c2, a3, n3, c3, a4, n4, c4, a5, n5, c5, a6, n6, c6, a7, n7, c7, a8, n8, c8, rfl, g0, g1, g2, g3, g4, g5, g6, g7, g8⟩
    exact ⟨_, _, rfl, rfl, _, _, rfl, ⟨a0, n0, c0, rfl, g0⟩, _, _, rfl, ⟨a1, n1, c1, rfl, g1⟩, _, _, rfl, rfl, _, _, rfl, rfl, _, _, rfl, ⟨a2, n2, c2, rfl, g2⟩, _, _, rfl, ⟨a3, n3, c3, rfl, g3⟩, _, _, rfl, ⟨a4, n4, c4, rfl, g4⟩, _, _, rfl, ⟨a5, n5, c5, rfl, g5⟩, _, _, rfl, ⟨a6, n6, c6, rfl, g6⟩, _, _, rfl, ⟨a7, n7, c7, rfl, g7⟩, ⟨_, _, rfl, ⟨a8, n8, c8, rfl, g8⟩, _, _, rfl, rfl, rfl⟩⟩
theorem shStage_bulk (d : dStage) : shStage.bulk d = (Shape.list shIns).bulk d.2.1 + (Shape.list shOp).bulk d.2.2.1 + (Shape.list shSaved).bulk d.2.2.2.2.2.1 + (Shape.list shRow).bulk d.2.2.2.2.2.2.1 + (Shape.list Shape.int).bulk d.2.2.2.2.2.2.2.1 + (Shape.list Shape.int).bulk d.2.2.2.2.2.2.2.2.1 + (Shape.list Shape.int).bulk d.2.2.2.2.2.2.2.2.2.1 + (Shape.list Shape.int).bulk d.2.2.2.2.2.2.2.2.2.2.1 + (Shape.list shRow).bulk d.2.2.2.2.2.2.2.2.2.2.2.1 := by
  simp only [shStage, Shape.struct, FieldsOf.cons, FieldsOf.last, Shape.int, Shape.bool, shGrads]
  try omega
def smallStage (d : dStage) : Prop := (Shape.list shIns).bulk d.2.1 ≤ 1048576 ∧ (Shape.list shOp).bulk d.2.2.1 ≤ 1048576 ∧ looseSavedS d.2.2.2.2.2.1 ∧ (Shape.list shRow).bulk d.2.2.2.2.2.2.1 ≤ 1048576 ∧ (Shape.list Shape.int).bulk d.2.2.2.2.2.2.2.1 ≤ 1048576 ∧ (Shape.list Shape.int).bulk d.2.2.2.2.2.2.2.2.1 ≤ 1048576 ∧ (Shape.list Shape.int).bulk d.2.2.2.2.2.2.2.2.2.1 ≤ 1048576 ∧ (Shape.list Shape.int).bulk d.2.2.2.2.2.2.2.2.2.2.1 ≤ 1048576 ∧ (Shape.list shRow).bulk d.2.2.2.2.2.2.2.2.2.2.2.1 ≤ 1048576
theorem smallStage_of {d : dStage} (h : shStage.bulk d ≤ 1048576) : smallStage d := by
  rw [shStage_bulk] at h
  exact ⟨by omega, by omega, looseSavedS_of (by omega), by omega, by omega, by omega, by omega, by omega, by omega⟩
def looseStageS (xs : List dStage) : Prop := xs.length ≤ 1048576 ∧ ∀ x ∈ xs, smallStage x
theorem looseStageS_of {xs : List dStage} (h : (Shape.list shStage).bulk xs ≤ 1048576) : looseStageS xs := by
  have h2 : (Shape.list shStage).bulk xs = xs.length + Shape.sum shStage.bulk xs := rfl
  refine ⟨by omega, fun x hx => ?_⟩
  obtain ⟨j, hj⟩ := List.mem_iff_getElem?.1 hx
  have h1 := bulk_mem shStage.bulk xs j x hj
  exact smallStage_of (by omega)
set_option maxRecDepth 100000 in
set_option maxHeartbeats 3200000 in
theorem szStage_c (w : World) (B : Nat) (es : List Value) (x : dStage) (L : Int) (h : shStage.reads (Under B) w es x) (hB : B ≤ w.heap.size) (h0 : 0 ≤ L) (h1 : L ≤ 1048576) :
    Calls Try.prog 57 #[.agg es.toArray, .int .i64 L] w fun e w' => e = .returned (.int .i64 (szN (shStage.bulk x) L)) ∧ Below w.heap.size w w' := by
  obtain ⟨a0, n0, c0, a1, n1, c1, a2, n2, c2, a3, n3, c3, a4, n4, c4, a5, n5, c5, a6, n6, c6, a7, n7, c7, a8, n8, c8, rfl, ⟨p0, r0, l0⟩, ⟨p1, r1, l1⟩, ⟨p2, r2, l2⟩, ⟨p3, r3, l3⟩, ⟨p4, r4, l4⟩, ⟨p5, r5, l5⟩, ⟨p6, r6, l6⟩, ⟨p7, r7, l7⟩, ⟨p8, r8, l8⟩⟩ := shStage_reads.1 h
  rw [shStage_bulk]
  have ha := (Below.refl w.heap.size w).alloc (Nat.le_refl _) (.cells #[.int .i64 x.1, .slice a0 n0 c0, .slice a1 n1 c1, .bool x.2.2.2.1, .bool x.2.2.2.2.1, .slice a2 n2 c2, .slice a3 n3 c3, .slice a4 n4 c4, .slice a5 n5 c5, .slice a6 n6 c6, .slice a7 n7 c7, .slice a8 n8 c8, .int .i64 x.2.2.2.2.2.2.2.2.2.2.2.2.1, .bool x.2.2.2.2.2.2.2.2.2.2.2.2.2] 101 (0, 0))
  have hb0 := heap_alloc_new w (.cells #[.int .i64 x.1, .slice a0 n0 c0, .slice a1 n1 c1, .bool x.2.2.2.1, .bool x.2.2.2.2.1, .slice a2 n2 c2, .slice a3 n3 c3, .slice a4 n4 c4, .slice a5 n5 c5, .slice a6 n6 c6, .slice a7 n7 c7, .slice a8 n8 c8, .int .i64 x.2.2.2.2.2.2.2.2.2.2.2.2.1, .bool x.2.2.2.2.2.2.2.2.2.2.2.2.2] 101 (0, 0))
  have hs0 : w.heap.size < (w.alloc (.cells #[.int .i64 x.1, .slice a0 n0 c0, .slice a1 n1 c1, .bool x.2.2.2.1, .bool x.2.2.2.2.1, .slice a2 n2 c2, .slice a3 n3 c3, .slice a4 n4 c4, .slice a5 n5 c5, .slice a6 n6 c6, .slice a7 n7 c7, .slice a8 n8 c8, .int .i64 x.2.2.2.2.2.2.2.2.2.2.2.2.1, .bool x.2.2.2.2.2.2.2.2.2.2.2.2.2] 101 (0, 0))).heap.size := by simp
  have H0 := fun (w1 : World) (hb : Below w.heap.size w w1) (V : Int) (g0 : 0 ≤ V) (g1 : V ≤ 1048576) => szInsS_c w1 B a0 n0 c0 _ V (l0.below hb hB) (Nat.le_trans hB hb.size) (by omega) g0 g1
  obtain ⟨u0, hu0⟩ : ∃ u, (Shape.list shIns).bulk x.2.1 = u := ⟨_, rfl⟩
  simp only [hu0] at H0 ⊢
  have H1 := fun (w1 : World) (hb : Below w.heap.size w w1) (V : Int) (g0 : 0 ≤ V) (g1 : V ≤ 1048576) => szOpS_c w1 B a1 n1 c1 _ V (l1.below hb hB) (Nat.le_trans hB hb.size) (by omega) g0 g1
  obtain ⟨u1, hu1⟩ : ∃ u, (Shape.list shOp).bulk x.2.2.1 = u := ⟨_, rfl⟩
  simp only [hu1] at H1 ⊢
  have H2 := fun (w1 : World) (hb : Below w.heap.size w w1) (V : Int) (g0 : 0 ≤ V) (g1 : V ≤ 1048576) => szSavedS_c w1 B a2 n2 c2 _ V (l2.below hb hB) (Nat.le_trans hB hb.size) (by omega) g0 g1
  obtain ⟨u2, hu2⟩ : ∃ u, (Shape.list shSaved).bulk x.2.2.2.2.2.1 = u := ⟨_, rfl⟩
  simp only [hu2] at H2 ⊢
  have H3 := fun (w1 : World) (hb : Below w.heap.size w w1) (V : Int) (g0 : 0 ≤ V) (g1 : V ≤ 1048576) => szRowS_c w1 B a3 n3 c3 _ V (l3.below hb hB) (Nat.le_trans hB hb.size) (by omega) g0 g1
  obtain ⟨u3, hu3⟩ : ∃ u, (Shape.list shRow).bulk x.2.2.2.2.2.2.1 = u := ⟨_, rfl⟩
  simp only [hu3] at H3 ⊢
  have H4 := fun (w1 : World) (hb : Below w.heap.size w w1) (V : Int) (g0 : 0 ≤ V) (g1 : V ≤ 1048576) => szIntS_c w1 B a4 n4 c4 _ V (l4.below hb hB) (Nat.le_trans hB hb.size) (by omega) g0 g1
  obtain ⟨u4, hu4⟩ : ∃ u, (Shape.list Shape.int).bulk x.2.2.2.2.2.2.2.1 = u := ⟨_, rfl⟩
  simp only [hu4] at H4 ⊢
  have H5 := fun (w1 : World) (hb : Below w.heap.size w w1) (V : Int) (g0 : 0 ≤ V) (g1 : V ≤ 1048576) => szIntS_c w1 B a5 n5 c5 _ V (l5.below hb hB) (Nat.le_trans hB hb.size) (by omega) g0 g1
  obtain ⟨u5, hu5⟩ : ∃ u, (Shape.list Shape.int).bulk x.2.2.2.2.2.2.2.2.1 = u := ⟨_, rfl⟩
  simp only [hu5] at H5 ⊢
  have H6 := fun (w1 : World) (hb : Below w.heap.size w w1) (V : Int) (g0 : 0 ≤ V) (g1 : V ≤ 1048576) => szIntS_c w1 B a6 n6 c6 _ V (l6.below hb hB) (Nat.le_trans hB hb.size) (by omega) g0 g1
  obtain ⟨u6, hu6⟩ : ∃ u, (Shape.list Shape.int).bulk x.2.2.2.2.2.2.2.2.2.1 = u := ⟨_, rfl⟩
  simp only [hu6] at H6 ⊢
  have H7 := fun (w1 : World) (hb : Below w.heap.size w w1) (V : Int) (g0 : 0 ≤ V) (g1 : V ≤ 1048576) => szIntS_c w1 B a7 n7 c7 _ V (l7.below hb hB) (Nat.le_trans hB hb.size) (by omega) g0 g1
  obtain ⟨u7, hu7⟩ : ∃ u, (Shape.list Shape.int).bulk x.2.2.2.2.2.2.2.2.2.2.1 = u := ⟨_, rfl⟩
  simp only [hu7] at H7 ⊢
  have H8 := fun (w1 : World) (hb : Below w.heap.size w w1) (V : Int) (g0 : 0 ≤ V) (g1 : V ≤ 1048576) => szGrads_c w1 B [.slice a8 n8 c8, .int .i64 x.2.2.2.2.2.2.2.2.2.2.2.2.1, .bool x.2.2.2.2.2.2.2.2.2.2.2.2.2] x.2.2.2.2.2.2.2.2.2.2.2 V (shGrads_reads.2 ⟨_, _, _, rfl, p8, r8, l8.below hb hB⟩) (Nat.le_trans hB hb.size) g0 g1
  simp only [shGrads_bulk] at H8
  obtain ⟨u8, hu8⟩ : ∃ u, (Shape.list shRow).bulk x.2.2.2.2.2.2.2.2.2.2.2.1 = u := ⟨_, rfl⟩
  simp only [hu8] at H8 ⊢
  replace H0 := Lib.hid H0
  replace H1 := Lib.hid H1
  replace H2 := Lib.hid H2
  replace H3 := Lib.hid H3
  replace H4 := Lib.hid H4
  replace H5 := Lib.hid H5
  replace H6 := Lib.hid H6
  replace H7 := Lib.hid H7
  replace H8 := Lib.hid H8
  have HA := Lib.hid ha
  have HB0 := Lib.hid hb0
  have HS0 := Lib.hid hs0
  clear ha hb0 hs0 h hu0 hu1 hu2 hu3 hu4 hu5 hu6 hu7 hu8
  clear p0 r0 l0 p1 r1 l1 p2 r2 l2 p3 r3 l3 p4 r4 l4 p5 r5 l5 p6 r6 l6 p7 r7 l7 p8 r8 l8
  obtain ⟨d, hd⟩ : ∃ d, d = szN (u0 + u1 + u2 + u3 + u4 + u5 + u6 + u7 + u8) L := ⟨_, rfl⟩
  rw [← hd]
  replace HD := Lib.hid hd
  clear hd
  by_cases f0 : (u0 : Int) ≤ L
  · have q0 := H0.out _ HA.out L (by omega) (by omega)
    rw [szN_yes f0] at q0
    obtain ⟨V0, hV0⟩ : ∃ V', L - (u0 : Int) = V' := ⟨_, rfl⟩
    rw [hV0] at q0
    have t0 : decide (V0 < 0) = false := decide_eq_false (by omega)
    replace q0 := Lib.hid q0
    go_enter Try.func57, Try.ntmps57
    go_wp2_with fail
    refine q0.out.mono ?_
    rintro e w1 ⟨rfl, hb0⟩
    have B0 := Lib.hid (HA.out.trans (hb0.mono HA.out.size))
    have X0 := Lib.hid ((hb0.block w.heap.size HS0.out).trans HB0.out)
    have S0 := Lib.hid (hb0.size)
    clear hb0
    have z0_2 : w1.cell? ⟨w.heap.size, 2, none⟩ = _ := cell_of_row _ _ _ _ _ _ X0.out
    simp only [List.getElem?_toArray, List.getElem?_cons_zero, List.getElem?_cons_succ] at z0_2
    by_cases f1 : (u1 : Int) ≤ V0
    · have q1 := H1.out _ B0.out V0 (by omega) (by omega)
      rw [szN_yes f1] at q1
      obtain ⟨V1, hV1⟩ : ∃ V', V0 - (u1 : Int) = V' := ⟨_, rfl⟩
      rw [hV1] at q1
      have t1 : decide (V1 < 0) = false := decide_eq_false (by omega)
      replace q1 := Lib.hid q1
      go_wp2_with fail
      refine q1.out.mono ?_
      rintro e w2 ⟨rfl, hb1⟩
      have B1 := Lib.hid (B0.out.trans (hb1.mono B0.out.size))
      have X1 := Lib.hid ((hb1.block w.heap.size (Nat.lt_of_lt_of_le HS0.out S0.out)).trans X0.out)
      have S1 := Lib.hid (Nat.le_trans S0.out hb1.size)
      clear hb1
      have z1_5 : w2.cell? ⟨w.heap.size, 5, none⟩ = _ := cell_of_row _ _ _ _ _ _ X1.out
      simp only [List.getElem?_toArray, List.getElem?_cons_zero, List.getElem?_cons_succ] at z1_5
      by_cases f2 : (u2 : Int) ≤ V1
      · have q2 := H2.out _ B1.out V1 (by omega) (by omega)
        rw [szN_yes f2] at q2
        obtain ⟨V2, hV2⟩ : ∃ V', V1 - (u2 : Int) = V' := ⟨_, rfl⟩
        rw [hV2] at q2
        have t2 : decide (V2 < 0) = false := decide_eq_false (by omega)
        replace q2 := Lib.hid q2
        go_wp2_with fail
        refine q2.out.mono ?_
        rintro e w3 ⟨rfl, hb2⟩
        have B2 := Lib.hid (B1.out.trans (hb2.mono B1.out.size))
        have X2 := Lib.hid ((hb2.block w.heap.size (Nat.lt_of_lt_of_le HS0.out S1.out)).trans X1.out)
        have S2 := Lib.hid (Nat.le_trans S1.out hb2.size)
        clear hb2
        have z2_6 : w3.cell? ⟨w.heap.size, 6, none⟩ = _ := cell_of_row _ _ _ _ _ _ X2.out
        simp only [List.getElem?_toArray, List.getElem?_cons_zero, List.getElem?_cons_succ] at z2_6
        by_cases f3 : (u3 : Int) ≤ V2
        · have q3 := H3.out _ B2.out V2 (by omega) (by omega)
          rw [szN_yes f3] at q3
          obtain ⟨V3, hV3⟩ : ∃ V', V2 - (u3 : Int) = V' := ⟨_, rfl⟩
          rw [hV3] at q3
          have t3 : decide (V3 < 0) = false := decide_eq_false (by omega)
          replace q3 := Lib.hid q3
          go_wp2_with fail
          refine q3.out.mono ?_
          rintro e w4 ⟨rfl, hb3⟩
          have B3 := Lib.hid (B2.out.trans (hb3.mono B2.out.size))
          have X3 := Lib.hid ((hb3.block w.heap.size (Nat.lt_of_lt_of_le HS0.out S2.out)).trans X2.out)
          have S3 := Lib.hid (Nat.le_trans S2.out hb3.size)
          clear hb3
          have z3_7 : w4.cell? ⟨w.heap.size, 7, none⟩ = _ := cell_of_row _ _ _ _ _ _ X3.out
          simp only [List.getElem?_toArray, List.getElem?_cons_zero, List.getElem?_cons_succ] at z3_7
          by_cases f4 : (u4 : Int) ≤ V3
          · have q4 := H4.out _ B3.out V3 (by omega) (by omega)
            rw [szN_yes f4] at q4
            obtain ⟨V4, hV4⟩ : ∃ V', V3 - (u4 : Int) = V' := ⟨_, rfl⟩
            rw [hV4] at q4
            have t4 : decide (V4 < 0) = false := decide_eq_false (by omega)
            replace q4 := Lib.hid q4
            go_wp2_with fail
            refine q4.out.mono ?_
            rintro e w5 ⟨rfl, hb4⟩
            have B4 := Lib.hid (B3.out.trans (hb4.mono B3.out.size))
            have X4 := Lib.hid ((hb4.block w.heap.size (Nat.lt_of_lt_of_le HS0.out S3.out)).trans X3.out)
            have S4 := Lib.hid (Nat.le_trans S3.out hb4.size)
            clear hb4
            have z4_8 : w5.cell? ⟨w.heap.size, 8, none⟩ = _ := cell_of_row _ _ _ _ _ _ X4.out
            simp only [List.getElem?_toArray, List.getElem?_cons_zero, List.getElem?_cons_succ] at z4_8
            by_cases f5 : (u5 : Int) ≤ V4
            · have q5 := H5.out _ B4.out V4 (by omega) (by omega)
              rw [szN_yes f5] at q5
              obtain ⟨V5, hV5⟩ : ∃ V', V4 - (u5 : Int) = V' := ⟨_, rfl⟩
              rw [hV5] at q5
              have t5 : decide (V5 < 0) = false := decide_eq_false (by omega)
              replace q5 := Lib.hid q5
              go_wp2_with fail
              refine q5.out.mono ?_
              rintro e w6 ⟨rfl, hb5⟩
              have B5 := Lib.hid (B4.out.trans (hb5.mono B4.out.size))
              have X5 := Lib.hid ((hb5.block w.heap.size (Nat.lt_of_lt_of_le HS0.out S4.out)).trans X4.out)
              have S5 := Lib.hid (Nat.le_trans S4.out hb5.size)
              clear hb5
              have z5_9 : w6.cell? ⟨w.heap.size, 9, none⟩ = _ := cell_of_row _ _ _ _ _ _ X5.out
              simp only [List.getElem?_toArray, List.getElem?_cons_zero, List.getElem?_cons_succ] at z5_9
              by_cases f6 : (u6 : Int) ≤ V5
              · have q6 := H6.out _ B5.out V5 (by omega) (by omega)
                rw [szN_yes f6] at q6
                obtain ⟨V6, hV6⟩ : ∃ V', V5 - (u6 : Int) = V' := ⟨_, rfl⟩
                rw [hV6] at q6
                have t6 : decide (V6 < 0) = false := decide_eq_false (by omega)
                replace q6 := Lib.hid q6
                go_wp2_with fail
                refine q6.out.mono ?_
                rintro e w7 ⟨rfl, hb6⟩
                have B6 := Lib.hid (B5.out.trans (hb6.mono B5.out.size))
                have X6 := Lib.hid ((hb6.block w.heap.size (Nat.lt_of_lt_of_le HS0.out S5.out)).trans X5.out)
                have S6 := Lib.hid (Nat.le_trans S5.out hb6.size)
                clear hb6
                have z6_10 : w7.cell? ⟨w.heap.size, 10, none⟩ = _ := cell_of_row _ _ _ _ _ _ X6.out
                simp only [List.getElem?_toArray, List.getElem?_cons_zero, List.getElem?_cons_succ] at z6_10
                by_cases f7 : (u7 : Int) ≤ V6
                · have q7 := H7.out _ B6.out V6 (by omega) (by omega)
                  rw [szN_yes f7] at q7
                  obtain ⟨V7, hV7⟩ : ∃ V', V6 - (u7 : Int) = V' := ⟨_, rfl⟩
                  rw [hV7] at q7
                  have t7 : decide (V7 < 0) = false := decide_eq_false (by omega)
                  replace q7 := Lib.hid q7
                  go_wp2_with fail
                  refine q7.out.mono ?_
                  rintro e w8 ⟨rfl, hb7⟩
                  have B7 := Lib.hid (B6.out.trans (hb7.mono B6.out.size))
                  have X7 := Lib.hid ((hb7.block w.heap.size (Nat.lt_of_lt_of_le HS0.out S6.out)).trans X6.out)
                  have S7 := Lib.hid (Nat.le_trans S6.out hb7.size)
                  clear hb7
                  have z7_11 : w8.cell? ⟨w.heap.size, 11, none⟩ = _ := cell_of_row _ _ _ _ _ _ X7.out
                  have z7_12 : w8.cell? ⟨w.heap.size, 12, none⟩ = _ := cell_of_row _ _ _ _ _ _ X7.out
                  have z7_13 : w8.cell? ⟨w.heap.size, 13, none⟩ = _ := cell_of_row _ _ _ _ _ _ X7.out
                  simp only [List.getElem?_toArray, List.getElem?_cons_zero, List.getElem?_cons_succ] at z7_11 z7_12 z7_13
                  by_cases f8 : (u8 : Int) ≤ V7
                  · have q8 := H8.out _ B7.out V7 (by omega) (by omega)
                    rw [szN_yes f8] at q8
                    obtain ⟨V8, hV8⟩ : ∃ V', V7 - (u8 : Int) = V' := ⟨_, rfl⟩
                    rw [hV8] at q8
                    have t8 : decide (V8 < 0) = false := decide_eq_false (by omega)
                    have hdd : V8 = d := by rw [HD.out, szN_yes (by omega)]; omega
                    subst hdd
                    replace q8 := Lib.hid q8
                    go_wp2_with fail
                    refine q8.out.mono ?_
                    rintro e w9 ⟨rfl, hb8⟩
                    have B8 := Lib.hid (B7.out.trans (hb8.mono B7.out.size))
                    clear hb8
                    go_wp2_with fail
                    go_ret
                    exact ⟨rfl, B8.out⟩
                  · have q8 := H8.out _ B7.out V7 (by omega) (by omega)
                    rw [szN_no f8] at q8
                    have hdd : d = -1 := by rw [HD.out]; exact szN_no (by omega)
                    subst hdd
                    replace q8 := Lib.hid q8
                    go_wp2_with fail
                    refine q8.out.mono ?_
                    rintro e w9 ⟨rfl, hb8⟩
                    have B8 := Lib.hid (B7.out.trans (hb8.mono B7.out.size))
                    clear hb8
                    go_wp2_with fail
                    go_ret
                    exact ⟨rfl, B8.out⟩
                · have q7 := H7.out _ B6.out V6 (by omega) (by omega)
                  rw [szN_no f7] at q7
                  have hdd : d = -1 := by rw [HD.out]; exact szN_no (by omega)
                  subst hdd
                  replace q7 := Lib.hid q7
                  go_wp2_with fail
                  refine q7.out.mono ?_
                  rintro e w8 ⟨rfl, hb7⟩
                  have B7 := Lib.hid (B6.out.trans (hb7.mono B6.out.size))
                  clear hb7
                  go_wp2_with fail
                  go_ret
                  exact ⟨rfl, B7.out⟩
              · have q6 := H6.out _ B5.out V5 (by omega) (by omega)
                rw [szN_no f6] at q6
                have hdd : d = -1 := by rw [HD.out]; exact szN_no (by omega)
                subst hdd
                replace q6 := Lib.hid q6
                go_wp2_with fail
                refine q6.out.mono ?_
                rintro e w7 ⟨rfl, hb6⟩
                have B6 := Lib.hid (B5.out.trans (hb6.mono B5.out.size))
                clear hb6
                go_wp2_with fail
                go_ret
                exact ⟨rfl, B6.out⟩
            · have q5 := H5.out _ B4.out V4 (by omega) (by omega)
              rw [szN_no f5] at q5
              have hdd : d = -1 := by rw [HD.out]; exact szN_no (by omega)
              subst hdd
              replace q5 := Lib.hid q5
              go_wp2_with fail
              refine q5.out.mono ?_
              rintro e w6 ⟨rfl, hb5⟩
              have B5 := Lib.hid (B4.out.trans (hb5.mono B4.out.size))
              clear hb5
              go_wp2_with fail
              go_ret
              exact ⟨rfl, B5.out⟩
          · have q4 := H4.out _ B3.out V3 (by omega) (by omega)
            rw [szN_no f4] at q4
            have hdd : d = -1 := by rw [HD.out]; exact szN_no (by omega)
            subst hdd
            replace q4 := Lib.hid q4
            go_wp2_with fail
            refine q4.out.mono ?_
            rintro e w5 ⟨rfl, hb4⟩
            have B4 := Lib.hid (B3.out.trans (hb4.mono B3.out.size))
            clear hb4
            go_wp2_with fail
            go_ret
            exact ⟨rfl, B4.out⟩
        · have q3 := H3.out _ B2.out V2 (by omega) (by omega)
          rw [szN_no f3] at q3
          have hdd : d = -1 := by rw [HD.out]; exact szN_no (by omega)
          subst hdd
          replace q3 := Lib.hid q3
          go_wp2_with fail
          refine q3.out.mono ?_
          rintro e w4 ⟨rfl, hb3⟩
          have B3 := Lib.hid (B2.out.trans (hb3.mono B2.out.size))
          clear hb3
          go_wp2_with fail
          go_ret
          exact ⟨rfl, B3.out⟩
      · have q2 := H2.out _ B1.out V1 (by omega) (by omega)
        rw [szN_no f2] at q2
        have hdd : d = -1 := by rw [HD.out]; exact szN_no (by omega)
        subst hdd
        replace q2 := Lib.hid q2
        go_wp2_with fail
        refine q2.out.mono ?_
        rintro e w3 ⟨rfl, hb2⟩
        have B2 := Lib.hid (B1.out.trans (hb2.mono B1.out.size))
        clear hb2
        go_wp2_with fail
        go_ret
        exact ⟨rfl, B2.out⟩
    · have q1 := H1.out _ B0.out V0 (by omega) (by omega)
      rw [szN_no f1] at q1
      have hdd : d = -1 := by rw [HD.out]; exact szN_no (by omega)
      subst hdd
      replace q1 := Lib.hid q1
      go_wp2_with fail
      refine q1.out.mono ?_
      rintro e w2 ⟨rfl, hb1⟩
      have B1 := Lib.hid (B0.out.trans (hb1.mono B0.out.size))
      clear hb1
      go_wp2_with fail
      go_ret
      exact ⟨rfl, B1.out⟩
  · have q0 := H0.out _ HA.out L (by omega) (by omega)
    rw [szN_no f0] at q0
    have hdd : d = -1 := by rw [HD.out]; exact szN_no (by omega)
    subst hdd
    replace q0 := Lib.hid q0
    go_enter Try.func57, Try.ntmps57
    go_wp2_with fail
    refine q0.out.mono ?_
    rintro e w1 ⟨rfl, hb0⟩
    have B0 := Lib.hid (HA.out.trans (hb0.mono HA.out.size))
    clear hb0
    go_wp2_with fail
    go_ret
    exact ⟨rfl, B0.out⟩
set_option maxRecDepth 100000 in
set_option maxHeartbeats 800000 in
theorem toStage_c (w : World) (B : Nat) (es : List Value) (x : dStage) (h : shStage.reads (Under B) w es x) (hB : B ≤ w.heap.size) (hb : shStage.bulk x ≤ 1048576) :
    Calls Try.prog 60 #[.agg es.toArray] w fun e w' => ∃ es', e = .returned (.agg es'.toArray) ∧ shStage.reads (From w.heap.size w'.heap.size) w' es' x ∧ Below w.heap.size w w' := by
  obtain ⟨a0, n0, c0, a1, n1, c1, a2, n2, c2, a3, n3, c3, a4, n4, c4, a5, n5, c5, a6, n6, c6, a7, n7, c7, a8, n8, c8, rfl, ⟨p0, r0, l0⟩, ⟨p1, r1, l1⟩, ⟨p2, r2, l2⟩, ⟨p3, r3, l3⟩, ⟨p4, r4, l4⟩, ⟨p5, r5, l5⟩, ⟨p6, r6, l6⟩, ⟨p7, r7, l7⟩, ⟨p8, r8, l8⟩⟩ := shStage_reads.1 h
  rw [shStage_bulk] at hb
  have m0 : n0 ≤ 1048576 := by have := bulk_list shIns l0; omega
  have H0 := Lib.hid fun (w1 : World) (hbw : Below w.heap.size w w1) => toInsS_c w1 B a0 n0 c0 _ (l0.below hbw hB) (Nat.le_trans hB hbw.size) (by omega)
  have m1 : n1 ≤ 1048576 := by have := bulk_list shOp l1; omega
  have H1 := Lib.hid fun (w1 : World) (hbw : Below w.heap.size w w1) => toOpS_c w1 B a1 n1 c1 _ (l1.below hbw hB) (Nat.le_trans hB hbw.size) (by omega)
  have m2 : n2 ≤ 1048576 := by have := bulk_list shSaved l2; omega
  have H2 := Lib.hid fun (w1 : World) (hbw : Below w.heap.size w w1) => toSavedS_c w1 B a2 n2 c2 _ (l2.below hbw hB) (Nat.le_trans hB hbw.size) (by omega)
  have m3 : n3 ≤ 1048576 := by have := bulk_list shRow l3; omega
  have H3 := Lib.hid fun (w1 : World) (hbw : Below w.heap.size w w1) => toRowS_c w1 B a3 n3 c3 _ (l3.below hbw hB) (Nat.le_trans hB hbw.size) (by omega)
  have m4 : n4 ≤ 1048576 := by have := bulk_list Shape.int l4; omega
  have H4 := Lib.hid fun (w1 : World) (hbw : Below w.heap.size w w1) => toIntS_c w1 B a4 n4 c4 _ (l4.below hbw hB) (Nat.le_trans hB hbw.size) (by omega)
  have m5 : n5 ≤ 1048576 := by have := bulk_list Shape.int l5; omega
  have H5 := Lib.hid fun (w1 : World) (hbw : Below w.heap.size w w1) => toIntS_c w1 B a5 n5 c5 _ (l5.below hbw hB) (Nat.le_trans hB hbw.size) (by omega)
  have m6 : n6 ≤ 1048576 := by have := bulk_list Shape.int l6; omega
  have H6 := Lib.hid fun (w1 : World) (hbw : Below w.heap.size w w1) => toIntS_c w1 B a6 n6 c6 _ (l6.below hbw hB) (Nat.le_trans hB hbw.size) (by omega)
  have m7 : n7 ≤ 1048576 := by have := bulk_list Shape.int l7; omega
  have H7 := Lib.hid fun (w1 : World) (hbw : Below w.heap.size w w1) => toIntS_c w1 B a7 n7 c7 _ (l7.below hbw hB) (Nat.le_trans hB hbw.size) (by omega)
  have m8 : n8 ≤ 1048576 := by have := bulk_list shRow l8; omega
  have H8 := Lib.hid fun (w1 : World) (hbw : Below w.heap.size w w1) => toGrads_c w1 B [.slice a8 n8 c8, .int .i64 x.2.2.2.2.2.2.2.2.2.2.2.2.1, .bool x.2.2.2.2.2.2.2.2.2.2.2.2.2] x.2.2.2.2.2.2.2.2.2.2.2 (shGrads_reads.2 ⟨_, _, _, rfl, p8, r8, l8.below hbw hB⟩) (Nat.le_trans hB hbw.size) (by rw [shGrads_bulk]; omega)
  have hbx := Boxes.start w #[.int .i64 x.1, .slice a0 n0 c0, .slice a1 n1 c1, .bool x.2.2.2.1, .bool x.2.2.2.2.1, .slice a2 n2 c2, .slice a3 n3 c3, .slice a4 n4 c4, .slice a5 n5 c5, .slice a6 n6 c6, .slice a7 n7 c7, .slice a8 n8 c8, .int .i64 x.2.2.2.2.2.2.2.2.2.2.2.2.1, .bool x.2.2.2.2.2.2.2.2.2.2.2.2.2] #[.int .i64 0, .slice none 0 0, .slice none 0 0, .bool false, .bool false, .slice none 0 0, .slice none 0 0, .slice none 0 0, .slice none 0 0, .slice none 0 0, .slice none 0 0, .slice none 0 0, .int .i64 0, .bool false] #[.int .i64 x.1, .slice none 0 0, .slice none 0 0, .bool false, .bool false, .slice none 0 0, .slice none 0 0, .slice none 0 0, .slice none 0 0, .slice none 0 0, .slice none 0 0, .slice none 0 0, .int .i64 0, .bool false] 101 60
  clear h hb l0 r0 p0 l1 r1 p1 l2 r2 p2 l3 r3 p3 l4 r4 p4 l5 r5 p5 l6 r6 p6 l7 r7 p7 l8 r8 p8
  go_enter Try.func60, Try.ntmps60
  go_wp2_with fail
  generalize ((w.alloc (.cells #[.int .i64 x.1, .slice a0 n0 c0, .slice a1 n1 c1, .bool x.2.2.2.1, .bool x.2.2.2.2.1, .slice a2 n2 c2, .slice a3 n3 c3, .slice a4 n4 c4, .slice a5 n5 c5, .slice a6 n6 c6, .slice a7 n7 c7, .slice a8 n8 c8, .int .i64 x.2.2.2.2.2.2.2.2.2.2.2.2.1, .bool x.2.2.2.2.2.2.2.2.2.2.2.2.2] 101 (0, 0))).alloc (.cells #[.int .i64 0, .slice none 0 0, .slice none 0 0, .bool false, .bool false, .slice none 0 0, .slice none 0 0, .slice none 0 0, .slice none 0 0, .slice none 0 0, .slice none 0 0, .slice none 0 0, .int .i64 0, .bool false] 60 (0, 0))).alloc (.cells #[.int .i64 x.1, .slice none 0 0, .slice none 0 0, .bool false, .bool false, .slice none 0 0, .slice none 0 0, .slice none 0 0, .slice none 0 0, .slice none 0 0, .slice none 0 0, .slice none 0 0, .int .i64 0, .bool false] 60 (0, 0)) = v0 at hbx ⊢
  have BX0 := Lib.hid hbx
  clear hbx
  refine (H0.out v0 BX0.out.below).mono ?_
  rintro e w1 ⟨rfl, hr0, hb0⟩
  have hbx := BX0.out.call hb0
  have hlt0 := BX0.out.size
  have za0_2 : w1.cell? ⟨w.heap.size, 2, none⟩ = _ := cell_of_row _ _ _ _ _ _ hbx.a
  have zo0_1 : w1.cell? ⟨w.heap.size + 1 + 1, 1, none⟩ = _ := cell_of_row _ _ _ _ _ _ hbx.o
  have fo0_1 : w1.frozen? ⟨w.heap.size + 1 + 1, 1, none⟩ = false := frozen_of_row _ _ _ _ _ hbx.o
  simp only [List.setIfInBounds_toArray, List.set_cons_zero, List.set_cons_succ, List.getElem?_toArray, List.getElem?_cons_zero, List.getElem?_cons_succ] at za0_2 zo0_1
  have N0_0 := hr0.lo (Nat.le_trans (by omega) hlt0 : w.heap.size + 3 ≤ v0.heap.size)
  have hby := (hbx.store 1 (.slice (some ⟨v0.heap.size, 0, none⟩) n0 n0))
  have O0_0 := (N0_0.stored (w.heap.size + 1 + 1) 1 (.slice (some ⟨v0.heap.size, 0, none⟩) n0 n0) (by omega))
  replace hb0 := Lib.hid hb0
  replace hby := Lib.hid hby
  replace O0_0 := Lib.hid O0_0
  clear N0_0
  clear hr0 hbx
  go_wp2_with fail
  clear za0_2 zo0_1 fo0_1
  generalize (w1.setCell ⟨w.heap.size + 1 + 1, 1, none⟩ (.slice (some ⟨v0.heap.size, 0, none⟩) n0 n0)) = v1 at hby O0_0 ⊢
  have BX1 := hby
  have M0_0 := O0_0
  clear O0_0 hby
  refine (H1.out v1 BX1.out.below).mono ?_
  rintro e w2 ⟨rfl, hr1, hb1⟩
  have hbx := BX1.out.call hb1
  have hlt1 := BX1.out.size
  have za1_3 : w2.cell? ⟨w.heap.size, 3, none⟩ = _ := cell_of_row _ _ _ _ _ _ hbx.a
  have za1_4 : w2.cell? ⟨w.heap.size, 4, none⟩ = _ := cell_of_row _ _ _ _ _ _ hbx.a
  have za1_5 : w2.cell? ⟨w.heap.size, 5, none⟩ = _ := cell_of_row _ _ _ _ _ _ hbx.a
  have zo1_2 : w2.cell? ⟨w.heap.size + 1 + 1, 2, none⟩ = _ := cell_of_row _ _ _ _ _ _ hbx.o
  have zo1_3 : w2.cell? ⟨w.heap.size + 1 + 1, 3, none⟩ = _ := cell_of_row _ _ _ _ _ _ hbx.o
  have zo1_4 : w2.cell? ⟨w.heap.size + 1 + 1, 4, none⟩ = _ := cell_of_row _ _ _ _ _ _ hbx.o
  have fo1_2 : w2.frozen? ⟨w.heap.size + 1 + 1, 2, none⟩ = false := frozen_of_row _ _ _ _ _ hbx.o
  have fo1_3 : w2.frozen? ⟨w.heap.size + 1 + 1, 3, none⟩ = false := frozen_of_row _ _ _ _ _ hbx.o
  have fo1_4 : w2.frozen? ⟨w.heap.size + 1 + 1, 4, none⟩ = false := frozen_of_row _ _ _ _ _ hbx.o
  simp only [List.setIfInBounds_toArray, List.set_cons_zero, List.set_cons_succ, List.getElem?_toArray, List.getElem?_cons_zero, List.getElem?_cons_succ] at za1_3 za1_4 za1_5 zo1_2 zo1_3 zo1_4
  have N0_1 := M0_0.out.called hb1
  have N1_1 := hr1.lo (Nat.le_trans (by omega) hlt1 : w.heap.size + 3 ≤ v1.heap.size)
  have hby := (((hbx.store 2 (.slice (some ⟨v1.heap.size, 0, none⟩) n1 n1)).store 3 (.bool x.2.2.2.1)).store 4 (.bool x.2.2.2.2.1))
  have O0_1 := (((N0_1.stored (w.heap.size + 1 + 1) 2 (.slice (some ⟨v1.heap.size, 0, none⟩) n1 n1) (by omega)).stored (w.heap.size + 1 + 1) 3 (.bool x.2.2.2.1) (by omega)).stored (w.heap.size + 1 + 1) 4 (.bool x.2.2.2.2.1) (by omega))
  have O1_1 := (((N1_1.stored (w.heap.size + 1 + 1) 2 (.slice (some ⟨v1.heap.size, 0, none⟩) n1 n1) (by omega)).stored (w.heap.size + 1 + 1) 3 (.bool x.2.2.2.1) (by omega)).stored (w.heap.size + 1 + 1) 4 (.bool x.2.2.2.2.1) (by omega))
  replace hb1 := Lib.hid hb1
  replace hby := Lib.hid hby
  replace O0_1 := Lib.hid O0_1
  clear N0_1
  replace O1_1 := Lib.hid O1_1
  clear N1_1
  clear hr1 hbx
  go_wp2_with fail
  clear za1_3 za1_4 za1_5 zo1_2 fo1_2 zo1_3 fo1_3 zo1_4 fo1_4
  generalize (((w2.setCell ⟨w.heap.size + 1 + 1, 2, none⟩ (.slice (some ⟨v1.heap.size, 0, none⟩) n1 n1)).setCell ⟨w.heap.size + 1 + 1, 3, none⟩ (.bool x.2.2.2.1)).setCell ⟨w.heap.size + 1 + 1, 4, none⟩ (.bool x.2.2.2.2.1)) = v2 at hby O0_1 O1_1 ⊢
  have BX2 := hby
  have M0_1 := O0_1
  have M1_1 := O1_1
  clear O0_1 O1_1 hby
  refine (H2.out v2 BX2.out.below).mono ?_
  rintro e w3 ⟨rfl, hr2, hb2⟩
  have hbx := BX2.out.call hb2
  have hlt2 := BX2.out.size
  have za2_6 : w3.cell? ⟨w.heap.size, 6, none⟩ = _ := cell_of_row _ _ _ _ _ _ hbx.a
  have zo2_5 : w3.cell? ⟨w.heap.size + 1 + 1, 5, none⟩ = _ := cell_of_row _ _ _ _ _ _ hbx.o
  have fo2_5 : w3.frozen? ⟨w.heap.size + 1 + 1, 5, none⟩ = false := frozen_of_row _ _ _ _ _ hbx.o
  simp only [List.setIfInBounds_toArray, List.set_cons_zero, List.set_cons_succ, List.getElem?_toArray, List.getElem?_cons_zero, List.getElem?_cons_succ] at za2_6 zo2_5
  have N0_2 := M0_1.out.called hb2
  have N1_2 := M1_1.out.called hb2
  have N2_2 := hr2.lo (Nat.le_trans (by omega) hlt2 : w.heap.size + 3 ≤ v2.heap.size)
  have hby := (hbx.store 5 (.slice (some ⟨v2.heap.size, 0, none⟩) n2 n2))
  have O0_2 := (N0_2.stored (w.heap.size + 1 + 1) 5 (.slice (some ⟨v2.heap.size, 0, none⟩) n2 n2) (by omega))
  have O1_2 := (N1_2.stored (w.heap.size + 1 + 1) 5 (.slice (some ⟨v2.heap.size, 0, none⟩) n2 n2) (by omega))
  have O2_2 := (N2_2.stored (w.heap.size + 1 + 1) 5 (.slice (some ⟨v2.heap.size, 0, none⟩) n2 n2) (by omega))
  replace hb2 := Lib.hid hb2
  replace hby := Lib.hid hby
  replace O0_2 := Lib.hid O0_2
  clear N0_2
  replace O1_2 := Lib.hid O1_2
  clear N1_2
  replace O2_2 := Lib.hid O2_2
  clear N2_2
  clear hr2 hbx
  go_wp2_with fail
  clear za2_6 zo2_5 fo2_5
  generalize (w3.setCell ⟨w.heap.size + 1 + 1, 5, none⟩ (.slice (some ⟨v2.heap.size, 0, none⟩) n2 n2)) = v3 at hby O0_2 O1_2 O2_2 ⊢
  have BX3 := hby
  have M0_2 := O0_2
  have M1_2 := O1_2
  have M2_2 := O2_2
  clear O0_2 O1_2 O2_2 hby
  refine (H3.out v3 BX3.out.below).mono ?_
  rintro e w4 ⟨rfl, hr3, hb3⟩
  have hbx := BX3.out.call hb3
  have hlt3 := BX3.out.size
  have za3_7 : w4.cell? ⟨w.heap.size, 7, none⟩ = _ := cell_of_row _ _ _ _ _ _ hbx.a
  have zo3_6 : w4.cell? ⟨w.heap.size + 1 + 1, 6, none⟩ = _ := cell_of_row _ _ _ _ _ _ hbx.o
  have fo3_6 : w4.frozen? ⟨w.heap.size + 1 + 1, 6, none⟩ = false := frozen_of_row _ _ _ _ _ hbx.o
  simp only [List.setIfInBounds_toArray, List.set_cons_zero, List.set_cons_succ, List.getElem?_toArray, List.getElem?_cons_zero, List.getElem?_cons_succ] at za3_7 zo3_6
  have N0_3 := M0_2.out.called hb3
  have N1_3 := M1_2.out.called hb3
  have N2_3 := M2_2.out.called hb3
  have N3_3 := hr3.lo (Nat.le_trans (by omega) hlt3 : w.heap.size + 3 ≤ v3.heap.size)
  have hby := (hbx.store 6 (.slice (some ⟨v3.heap.size, 0, none⟩) n3 n3))
  have O0_3 := (N0_3.stored (w.heap.size + 1 + 1) 6 (.slice (some ⟨v3.heap.size, 0, none⟩) n3 n3) (by omega))
  have O1_3 := (N1_3.stored (w.heap.size + 1 + 1) 6 (.slice (some ⟨v3.heap.size, 0, none⟩) n3 n3) (by omega))
  have O2_3 := (N2_3.stored (w.heap.size + 1 + 1) 6 (.slice (some ⟨v3.heap.size, 0, none⟩) n3 n3) (by omega))
  have O3_3 := (N3_3.stored (w.heap.size + 1 + 1) 6 (.slice (some ⟨v3.heap.size, 0, none⟩) n3 n3) (by omega))
  replace hb3 := Lib.hid hb3
  replace hby := Lib.hid hby
  replace O0_3 := Lib.hid O0_3
  clear N0_3
  replace O1_3 := Lib.hid O1_3
  clear N1_3
  replace O2_3 := Lib.hid O2_3
  clear N2_3
  replace O3_3 := Lib.hid O3_3
  clear N3_3
  clear hr3 hbx
  go_wp2_with fail
  clear za3_7 zo3_6 fo3_6
  generalize (w4.setCell ⟨w.heap.size + 1 + 1, 6, none⟩ (.slice (some ⟨v3.heap.size, 0, none⟩) n3 n3)) = v4 at hby O0_3 O1_3 O2_3 O3_3 ⊢
  have BX4 := hby
  have M0_3 := O0_3
  have M1_3 := O1_3
  have M2_3 := O2_3
  have M3_3 := O3_3
  clear O0_3 O1_3 O2_3 O3_3 hby
  refine (H4.out v4 BX4.out.below).mono ?_
  rintro e w5 ⟨rfl, hr4, hb4⟩
  have hbx := BX4.out.call hb4
  have hlt4 := BX4.out.size
  have za4_8 : w5.cell? ⟨w.heap.size, 8, none⟩ = _ := cell_of_row _ _ _ _ _ _ hbx.a
  have zo4_7 : w5.cell? ⟨w.heap.size + 1 + 1, 7, none⟩ = _ := cell_of_row _ _ _ _ _ _ hbx.o
  have fo4_7 : w5.frozen? ⟨w.heap.size + 1 + 1, 7, none⟩ = false := frozen_of_row _ _ _ _ _ hbx.o
  simp only [List.setIfInBounds_toArray, List.set_cons_zero, List.set_cons_succ, List.getElem?_toArray, List.getElem?_cons_zero, List.getElem?_cons_succ] at za4_8 zo4_7
  have N0_4 := M0_3.out.called hb4
  have N1_4 := M1_3.out.called hb4
  have N2_4 := M2_3.out.called hb4
  have N3_4 := M3_3.out.called hb4
  have N4_4 := hr4.lo (Nat.le_trans (by omega) hlt4 : w.heap.size + 3 ≤ v4.heap.size)
  have hby := (hbx.store 7 (.slice (some ⟨v4.heap.size, 0, none⟩) n4 n4))
  have O0_4 := (N0_4.stored (w.heap.size + 1 + 1) 7 (.slice (some ⟨v4.heap.size, 0, none⟩) n4 n4) (by omega))
  have O1_4 := (N1_4.stored (w.heap.size + 1 + 1) 7 (.slice (some ⟨v4.heap.size, 0, none⟩) n4 n4) (by omega))
  have O2_4 := (N2_4.stored (w.heap.size + 1 + 1) 7 (.slice (some ⟨v4.heap.size, 0, none⟩) n4 n4) (by omega))
  have O3_4 := (N3_4.stored (w.heap.size + 1 + 1) 7 (.slice (some ⟨v4.heap.size, 0, none⟩) n4 n4) (by omega))
  have O4_4 := (N4_4.stored (w.heap.size + 1 + 1) 7 (.slice (some ⟨v4.heap.size, 0, none⟩) n4 n4) (by omega))
  replace hb4 := Lib.hid hb4
  replace hby := Lib.hid hby
  replace O0_4 := Lib.hid O0_4
  clear N0_4
  replace O1_4 := Lib.hid O1_4
  clear N1_4
  replace O2_4 := Lib.hid O2_4
  clear N2_4
  replace O3_4 := Lib.hid O3_4
  clear N3_4
  replace O4_4 := Lib.hid O4_4
  clear N4_4
  clear hr4 hbx
  go_wp2_with fail
  clear za4_8 zo4_7 fo4_7
  generalize (w5.setCell ⟨w.heap.size + 1 + 1, 7, none⟩ (.slice (some ⟨v4.heap.size, 0, none⟩) n4 n4)) = v5 at hby O0_4 O1_4 O2_4 O3_4 O4_4 ⊢
  have BX5 := hby
  have M0_4 := O0_4
  have M1_4 := O1_4
  have M2_4 := O2_4
  have M3_4 := O3_4
  have M4_4 := O4_4
  clear O0_4 O1_4 O2_4 O3_4 O4_4 hby
  refine (H5.out v5 BX5.out.below).mono ?_
  rintro e w6 ⟨rfl, hr5, hb5⟩
  have hbx := BX5.out.call hb5
  have hlt5 := BX5.out.size
  have za5_9 : w6.cell? ⟨w.heap.size, 9, none⟩ = _ := cell_of_row _ _ _ _ _ _ hbx.a
  have zo5_8 : w6.cell? ⟨w.heap.size + 1 + 1, 8, none⟩ = _ := cell_of_row _ _ _ _ _ _ hbx.o
  have fo5_8 : w6.frozen? ⟨w.heap.size + 1 + 1, 8, none⟩ = false := frozen_of_row _ _ _ _ _ hbx.o
  simp only [List.setIfInBounds_toArray, List.set_cons_zero, List.set_cons_succ, List.getElem?_toArray, List.getElem?_cons_zero, List.getElem?_cons_succ] at za5_9 zo5_8
  have N0_5 := M0_4.out.called hb5
  have N1_5 := M1_4.out.called hb5
  have N2_5 := M2_4.out.called hb5
  have N3_5 := M3_4.out.called hb5
  have N4_5 := M4_4.out.called hb5
  have N5_5 := hr5.lo (Nat.le_trans (by omega) hlt5 : w.heap.size + 3 ≤ v5.heap.size)
  have hby := (hbx.store 8 (.slice (some ⟨v5.heap.size, 0, none⟩) n5 n5))
  have O0_5 := (N0_5.stored (w.heap.size + 1 + 1) 8 (.slice (some ⟨v5.heap.size, 0, none⟩) n5 n5) (by omega))
  have O1_5 := (N1_5.stored (w.heap.size + 1 + 1) 8 (.slice (some ⟨v5.heap.size, 0, none⟩) n5 n5) (by omega))
  have O2_5 := (N2_5.stored (w.heap.size + 1 + 1) 8 (.slice (some ⟨v5.heap.size, 0, none⟩) n5 n5) (by omega))
  have O3_5 := (N3_5.stored (w.heap.size + 1 + 1) 8 (.slice (some ⟨v5.heap.size, 0, none⟩) n5 n5) (by omega))
  have O4_5 := (N4_5.stored (w.heap.size + 1 + 1) 8 (.slice (some ⟨v5.heap.size, 0, none⟩) n5 n5) (by omega))
  have O5_5 := (N5_5.stored (w.heap.size + 1 + 1) 8 (.slice (some ⟨v5.heap.size, 0, none⟩) n5 n5) (by omega))
  replace hb5 := Lib.hid hb5
  replace hby := Lib.hid hby
  replace O0_5 := Lib.hid O0_5
  clear N0_5
  replace O1_5 := Lib.hid O1_5
  clear N1_5
  replace O2_5 := Lib.hid O2_5
  clear N2_5
  replace O3_5 := Lib.hid O3_5
  clear N3_5
  replace O4_5 := Lib.hid O4_5
  clear N4_5
  replace O5_5 := Lib.hid O5_5
  clear N5_5
  clear hr5 hbx
  go_wp2_with fail
  clear za5_9 zo5_8 fo5_8
  generalize (w6.setCell ⟨w.heap.size + 1 + 1, 8, none⟩ (.slice (some ⟨v5.heap.size, 0, none⟩) n5 n5)) = v6 at hby O0_5 O1_5 O2_5 O3_5 O4_5 O5_5 ⊢
  have BX6 := hby
  have M0_5 := O0_5
  have M1_5 := O1_5
  have M2_5 := O2_5
  have M3_5 := O3_5
  have M4_5 := O4_5
  have M5_5 := O5_5
  clear O0_5 O1_5 O2_5 O3_5 O4_5 O5_5 hby
  refine (H6.out v6 BX6.out.below).mono ?_
  rintro e w7 ⟨rfl, hr6, hb6⟩
  have hbx := BX6.out.call hb6
  have hlt6 := BX6.out.size
  have za6_10 : w7.cell? ⟨w.heap.size, 10, none⟩ = _ := cell_of_row _ _ _ _ _ _ hbx.a
  have zo6_9 : w7.cell? ⟨w.heap.size + 1 + 1, 9, none⟩ = _ := cell_of_row _ _ _ _ _ _ hbx.o
  have fo6_9 : w7.frozen? ⟨w.heap.size + 1 + 1, 9, none⟩ = false := frozen_of_row _ _ _ _ _ hbx.o
  simp only [List.setIfInBounds_toArray, List.set_cons_zero, List.set_cons_succ, List.getElem?_toArray, List.getElem?_cons_zero, List.getElem?_cons_succ] at za6_10 zo6_9
  have N0_6 := M0_5.out.called hb6
  have N1_6 := M1_5.out.called hb6
  have N2_6 := M2_5.out.called hb6
  have N3_6 := M3_5.out.called hb6
  have N4_6 := M4_5.out.called hb6
  have N5_6 := M5_5.out.called hb6
  have N6_6 := hr6.lo (Nat.le_trans (by omega) hlt6 : w.heap.size + 3 ≤ v6.heap.size)
  have hby := (hbx.store 9 (.slice (some ⟨v6.heap.size, 0, none⟩) n6 n6))
  have O0_6 := (N0_6.stored (w.heap.size + 1 + 1) 9 (.slice (some ⟨v6.heap.size, 0, none⟩) n6 n6) (by omega))
  have O1_6 := (N1_6.stored (w.heap.size + 1 + 1) 9 (.slice (some ⟨v6.heap.size, 0, none⟩) n6 n6) (by omega))
  have O2_6 := (N2_6.stored (w.heap.size + 1 + 1) 9 (.slice (some ⟨v6.heap.size, 0, none⟩) n6 n6) (by omega))
  have O3_6 := (N3_6.stored (w.heap.size + 1 + 1) 9 (.slice (some ⟨v6.heap.size, 0, none⟩) n6 n6) (by omega))
  have O4_6 := (N4_6.stored (w.heap.size + 1 + 1) 9 (.slice (some ⟨v6.heap.size, 0, none⟩) n6 n6) (by omega))
  have O5_6 := (N5_6.stored (w.heap.size + 1 + 1) 9 (.slice (some ⟨v6.heap.size, 0, none⟩) n6 n6) (by omega))
  have O6_6 := (N6_6.stored (w.heap.size + 1 + 1) 9 (.slice (some ⟨v6.heap.size, 0, none⟩) n6 n6) (by omega))
  replace hb6 := Lib.hid hb6
  replace hby := Lib.hid hby
  replace O0_6 := Lib.hid O0_6
  clear N0_6
  replace O1_6 := Lib.hid O1_6
  clear N1_6
  replace O2_6 := Lib.hid O2_6
  clear N2_6
  replace O3_6 := Lib.hid O3_6
  clear N3_6
  replace O4_6 := Lib.hid O4_6
  clear N4_6
  replace O5_6 := Lib.hid O5_6
  clear N5_6
  replace O6_6 := Lib.hid O6_6
  clear N6_6
  clear hr6 hbx
  go_wp2_with fail
  clear za6_10 zo6_9 fo6_9
  generalize (w7.setCell ⟨w.heap.size + 1 + 1, 9, none⟩ (.slice (some ⟨v6.heap.size, 0, none⟩) n6 n6)) = v7 at hby O0_6 O1_6 O2_6 O3_6 O4_6 O5_6 O6_6 ⊢
  have BX7 := hby
  have M0_6 := O0_6
  have M1_6 := O1_6
  have M2_6 := O2_6
  have M3_6 := O3_6
  have M4_6 := O4_6
  have M5_6 := O5_6
  have M6_6 := O6_6
  clear O0_6 O1_6 O2_6 O3_6 O4_6 O5_6 O6_6 hby
  refine (H7.out v7 BX7.out.below).mono ?_
  rintro e w8 ⟨rfl, hr7, hb7⟩
  have hbx := BX7.out.call hb7
  have hlt7 := BX7.out.size
  have za7_11 : w8.cell? ⟨w.heap.size, 11, none⟩ = _ := cell_of_row _ _ _ _ _ _ hbx.a
  have za7_12 : w8.cell? ⟨w.heap.size, 12, none⟩ = _ := cell_of_row _ _ _ _ _ _ hbx.a
  have za7_13 : w8.cell? ⟨w.heap.size, 13, none⟩ = _ := cell_of_row _ _ _ _ _ _ hbx.a
  have zo7_10 : w8.cell? ⟨w.heap.size + 1 + 1, 10, none⟩ = _ := cell_of_row _ _ _ _ _ _ hbx.o
  have fo7_10 : w8.frozen? ⟨w.heap.size + 1 + 1, 10, none⟩ = false := frozen_of_row _ _ _ _ _ hbx.o
  simp only [List.setIfInBounds_toArray, List.set_cons_zero, List.set_cons_succ, List.getElem?_toArray, List.getElem?_cons_zero, List.getElem?_cons_succ] at za7_11 za7_12 za7_13 zo7_10
  have N0_7 := M0_6.out.called hb7
  have N1_7 := M1_6.out.called hb7
  have N2_7 := M2_6.out.called hb7
  have N3_7 := M3_6.out.called hb7
  have N4_7 := M4_6.out.called hb7
  have N5_7 := M5_6.out.called hb7
  have N6_7 := M6_6.out.called hb7
  have N7_7 := hr7.lo (Nat.le_trans (by omega) hlt7 : w.heap.size + 3 ≤ v7.heap.size)
  have hby := (hbx.store 10 (.slice (some ⟨v7.heap.size, 0, none⟩) n7 n7))
  have O0_7 := (N0_7.stored (w.heap.size + 1 + 1) 10 (.slice (some ⟨v7.heap.size, 0, none⟩) n7 n7) (by omega))
  have O1_7 := (N1_7.stored (w.heap.size + 1 + 1) 10 (.slice (some ⟨v7.heap.size, 0, none⟩) n7 n7) (by omega))
  have O2_7 := (N2_7.stored (w.heap.size + 1 + 1) 10 (.slice (some ⟨v7.heap.size, 0, none⟩) n7 n7) (by omega))
  have O3_7 := (N3_7.stored (w.heap.size + 1 + 1) 10 (.slice (some ⟨v7.heap.size, 0, none⟩) n7 n7) (by omega))
  have O4_7 := (N4_7.stored (w.heap.size + 1 + 1) 10 (.slice (some ⟨v7.heap.size, 0, none⟩) n7 n7) (by omega))
  have O5_7 := (N5_7.stored (w.heap.size + 1 + 1) 10 (.slice (some ⟨v7.heap.size, 0, none⟩) n7 n7) (by omega))
  have O6_7 := (N6_7.stored (w.heap.size + 1 + 1) 10 (.slice (some ⟨v7.heap.size, 0, none⟩) n7 n7) (by omega))
  have O7_7 := (N7_7.stored (w.heap.size + 1 + 1) 10 (.slice (some ⟨v7.heap.size, 0, none⟩) n7 n7) (by omega))
  replace hb7 := Lib.hid hb7
  replace hby := Lib.hid hby
  replace O0_7 := Lib.hid O0_7
  clear N0_7
  replace O1_7 := Lib.hid O1_7
  clear N1_7
  replace O2_7 := Lib.hid O2_7
  clear N2_7
  replace O3_7 := Lib.hid O3_7
  clear N3_7
  replace O4_7 := Lib.hid O4_7
  clear N4_7
  replace O5_7 := Lib.hid O5_7
  clear N5_7
  replace O6_7 := Lib.hid O6_7
  clear N6_7
  replace O7_7 := Lib.hid O7_7
  clear N7_7
  clear hr7 hbx
  go_wp2_with fail
  clear za7_11 za7_12 za7_13 zo7_10 fo7_10
  generalize (w8.setCell ⟨w.heap.size + 1 + 1, 10, none⟩ (.slice (some ⟨v7.heap.size, 0, none⟩) n7 n7)) = v8 at hby O0_7 O1_7 O2_7 O3_7 O4_7 O5_7 O6_7 O7_7 ⊢
  have BX8 := hby
  have M0_7 := O0_7
  have M1_7 := O1_7
  have M2_7 := O2_7
  have M3_7 := O3_7
  have M4_7 := O4_7
  have M5_7 := O5_7
  have M6_7 := O6_7
  have M7_7 := O7_7
  clear O0_7 O1_7 O2_7 O3_7 O4_7 O5_7 O6_7 O7_7 hby
  refine (H8.out v8 BX8.out.below).mono ?_
  rintro e w9 ⟨es', rfl, hr', hb8⟩
  obtain ⟨a8', n8', c8', rfl, p8', r8', hr8⟩ := shGrads_reads.1 hr'
  clear hr'
  have hbx := BX8.out.call hb8
  have hlt8 := BX8.out.size
  have zo8_0 : w9.cell? ⟨w.heap.size + 1 + 1, 0, none⟩ = _ := cell_of_row _ _ _ _ _ _ hbx.o
  have zo8_1 : w9.cell? ⟨w.heap.size + 1 + 1, 1, none⟩ = _ := cell_of_row _ _ _ _ _ _ hbx.o
  have zo8_2 : w9.cell? ⟨w.heap.size + 1 + 1, 2, none⟩ = _ := cell_of_row _ _ _ _ _ _ hbx.o
  have zo8_3 : w9.cell? ⟨w.heap.size + 1 + 1, 3, none⟩ = _ := cell_of_row _ _ _ _ _ _ hbx.o
  have zo8_4 : w9.cell? ⟨w.heap.size + 1 + 1, 4, none⟩ = _ := cell_of_row _ _ _ _ _ _ hbx.o
  have zo8_5 : w9.cell? ⟨w.heap.size + 1 + 1, 5, none⟩ = _ := cell_of_row _ _ _ _ _ _ hbx.o
  have zo8_6 : w9.cell? ⟨w.heap.size + 1 + 1, 6, none⟩ = _ := cell_of_row _ _ _ _ _ _ hbx.o
  have zo8_7 : w9.cell? ⟨w.heap.size + 1 + 1, 7, none⟩ = _ := cell_of_row _ _ _ _ _ _ hbx.o
  have zo8_8 : w9.cell? ⟨w.heap.size + 1 + 1, 8, none⟩ = _ := cell_of_row _ _ _ _ _ _ hbx.o
  have zo8_9 : w9.cell? ⟨w.heap.size + 1 + 1, 9, none⟩ = _ := cell_of_row _ _ _ _ _ _ hbx.o
  have zo8_10 : w9.cell? ⟨w.heap.size + 1 + 1, 10, none⟩ = _ := cell_of_row _ _ _ _ _ _ hbx.o
  have zo8_11 : w9.cell? ⟨w.heap.size + 1 + 1, 11, none⟩ = _ := cell_of_row _ _ _ _ _ _ hbx.o
  have zo8_12 : w9.cell? ⟨w.heap.size + 1 + 1, 12, none⟩ = _ := cell_of_row _ _ _ _ _ _ hbx.o
  have zo8_13 : w9.cell? ⟨w.heap.size + 1 + 1, 13, none⟩ = _ := cell_of_row _ _ _ _ _ _ hbx.o
  have zr8_0 : w9.cell? ⟨w.heap.size + 1, 0, none⟩ = _ := cell_of_row _ _ _ _ _ _ hbx.z
  have zr8_1 : w9.cell? ⟨w.heap.size + 1, 1, none⟩ = _ := cell_of_row _ _ _ _ _ _ hbx.z
  have zr8_2 : w9.cell? ⟨w.heap.size + 1, 2, none⟩ = _ := cell_of_row _ _ _ _ _ _ hbx.z
  have zr8_3 : w9.cell? ⟨w.heap.size + 1, 3, none⟩ = _ := cell_of_row _ _ _ _ _ _ hbx.z
  have zr8_4 : w9.cell? ⟨w.heap.size + 1, 4, none⟩ = _ := cell_of_row _ _ _ _ _ _ hbx.z
  have zr8_5 : w9.cell? ⟨w.heap.size + 1, 5, none⟩ = _ := cell_of_row _ _ _ _ _ _ hbx.z
  have zr8_6 : w9.cell? ⟨w.heap.size + 1, 6, none⟩ = _ := cell_of_row _ _ _ _ _ _ hbx.z
  have zr8_7 : w9.cell? ⟨w.heap.size + 1, 7, none⟩ = _ := cell_of_row _ _ _ _ _ _ hbx.z
  have zr8_8 : w9.cell? ⟨w.heap.size + 1, 8, none⟩ = _ := cell_of_row _ _ _ _ _ _ hbx.z
  have zr8_9 : w9.cell? ⟨w.heap.size + 1, 9, none⟩ = _ := cell_of_row _ _ _ _ _ _ hbx.z
  have zr8_10 : w9.cell? ⟨w.heap.size + 1, 10, none⟩ = _ := cell_of_row _ _ _ _ _ _ hbx.z
  have zr8_11 : w9.cell? ⟨w.heap.size + 1, 11, none⟩ = _ := cell_of_row _ _ _ _ _ _ hbx.z
  have zr8_12 : w9.cell? ⟨w.heap.size + 1, 12, none⟩ = _ := cell_of_row _ _ _ _ _ _ hbx.z
  have zr8_13 : w9.cell? ⟨w.heap.size + 1, 13, none⟩ = _ := cell_of_row _ _ _ _ _ _ hbx.z
  have fo8_0 : w9.frozen? ⟨w.heap.size + 1 + 1, 0, none⟩ = false := frozen_of_row _ _ _ _ _ hbx.o
  have fo8_1 : w9.frozen? ⟨w.heap.size + 1 + 1, 1, none⟩ = false := frozen_of_row _ _ _ _ _ hbx.o
  have fo8_2 : w9.frozen? ⟨w.heap.size + 1 + 1, 2, none⟩ = false := frozen_of_row _ _ _ _ _ hbx.o
  have fo8_3 : w9.frozen? ⟨w.heap.size + 1 + 1, 3, none⟩ = false := frozen_of_row _ _ _ _ _ hbx.o
  have fo8_4 : w9.frozen? ⟨w.heap.size + 1 + 1, 4, none⟩ = false := frozen_of_row _ _ _ _ _ hbx.o
  have fo8_5 : w9.frozen? ⟨w.heap.size + 1 + 1, 5, none⟩ = false := frozen_of_row _ _ _ _ _ hbx.o
  have fo8_6 : w9.frozen? ⟨w.heap.size + 1 + 1, 6, none⟩ = false := frozen_of_row _ _ _ _ _ hbx.o
  have fo8_7 : w9.frozen? ⟨w.heap.size + 1 + 1, 7, none⟩ = false := frozen_of_row _ _ _ _ _ hbx.o
  have fo8_8 : w9.frozen? ⟨w.heap.size + 1 + 1, 8, none⟩ = false := frozen_of_row _ _ _ _ _ hbx.o
  have fo8_9 : w9.frozen? ⟨w.heap.size + 1 + 1, 9, none⟩ = false := frozen_of_row _ _ _ _ _ hbx.o
  have fo8_10 : w9.frozen? ⟨w.heap.size + 1 + 1, 10, none⟩ = false := frozen_of_row _ _ _ _ _ hbx.o
  have fo8_11 : w9.frozen? ⟨w.heap.size + 1 + 1, 11, none⟩ = false := frozen_of_row _ _ _ _ _ hbx.o
  have fo8_12 : w9.frozen? ⟨w.heap.size + 1 + 1, 12, none⟩ = false := frozen_of_row _ _ _ _ _ hbx.o
  have fo8_13 : w9.frozen? ⟨w.heap.size + 1 + 1, 13, none⟩ = false := frozen_of_row _ _ _ _ _ hbx.o
  have fr8_0 : w9.frozen? ⟨w.heap.size + 1, 0, none⟩ = false := frozen_of_row _ _ _ _ _ hbx.z
  have fr8_1 : w9.frozen? ⟨w.heap.size + 1, 1, none⟩ = false := frozen_of_row _ _ _ _ _ hbx.z
  have fr8_2 : w9.frozen? ⟨w.heap.size + 1, 2, none⟩ = false := frozen_of_row _ _ _ _ _ hbx.z
  have fr8_3 : w9.frozen? ⟨w.heap.size + 1, 3, none⟩ = false := frozen_of_row _ _ _ _ _ hbx.z
  have fr8_4 : w9.frozen? ⟨w.heap.size + 1, 4, none⟩ = false := frozen_of_row _ _ _ _ _ hbx.z
  have fr8_5 : w9.frozen? ⟨w.heap.size + 1, 5, none⟩ = false := frozen_of_row _ _ _ _ _ hbx.z
  have fr8_6 : w9.frozen? ⟨w.heap.size + 1, 6, none⟩ = false := frozen_of_row _ _ _ _ _ hbx.z
  have fr8_7 : w9.frozen? ⟨w.heap.size + 1, 7, none⟩ = false := frozen_of_row _ _ _ _ _ hbx.z
  have fr8_8 : w9.frozen? ⟨w.heap.size + 1, 8, none⟩ = false := frozen_of_row _ _ _ _ _ hbx.z
  have fr8_9 : w9.frozen? ⟨w.heap.size + 1, 9, none⟩ = false := frozen_of_row _ _ _ _ _ hbx.z
  have fr8_10 : w9.frozen? ⟨w.heap.size + 1, 10, none⟩ = false := frozen_of_row _ _ _ _ _ hbx.z
  have fr8_11 : w9.frozen? ⟨w.heap.size + 1, 11, none⟩ = false := frozen_of_row _ _ _ _ _ hbx.z
  have fr8_12 : w9.frozen? ⟨w.heap.size + 1, 12, none⟩ = false := frozen_of_row _ _ _ _ _ hbx.z
  have fr8_13 : w9.frozen? ⟨w.heap.size + 1, 13, none⟩ = false := frozen_of_row _ _ _ _ _ hbx.z
  simp only [List.setIfInBounds_toArray, List.set_cons_zero, List.set_cons_succ, List.getElem?_toArray, List.getElem?_cons_zero, List.getElem?_cons_succ] at zo8_0 zo8_1 zo8_2 zo8_3 zo8_4 zo8_5 zo8_6 zo8_7 zo8_8 zo8_9 zo8_10 zo8_11 zo8_12 zo8_13 zr8_0 zr8_1 zr8_2 zr8_3 zr8_4 zr8_5 zr8_6 zr8_7 zr8_8 zr8_9 zr8_10 zr8_11 zr8_12 zr8_13
  have N0_8 := M0_7.out.called hb8
  have N1_8 := M1_7.out.called hb8
  have N2_8 := M2_7.out.called hb8
  have N3_8 := M3_7.out.called hb8
  have N4_8 := M4_7.out.called hb8
  have N5_8 := M5_7.out.called hb8
  have N6_8 := M6_7.out.called hb8
  have N7_8 := M7_7.out.called hb8
  have N8_8 := hr8.lo (Nat.le_trans (by omega) hlt8 : w.heap.size + 3 ≤ v8.heap.size)
  have hby := (((hbx.store 11 (.slice a8' n8' c8')).store 12 (.int .i64 x.2.2.2.2.2.2.2.2.2.2.2.2.1)).store 13 (.bool x.2.2.2.2.2.2.2.2.2.2.2.2.2))
  have O0_8 := (((N0_8.stored (w.heap.size + 1 + 1) 11 (.slice a8' n8' c8') (by omega)).stored (w.heap.size + 1 + 1) 12 (.int .i64 x.2.2.2.2.2.2.2.2.2.2.2.2.1) (by omega)).stored (w.heap.size + 1 + 1) 13 (.bool x.2.2.2.2.2.2.2.2.2.2.2.2.2) (by omega))
  have O1_8 := (((N1_8.stored (w.heap.size + 1 + 1) 11 (.slice a8' n8' c8') (by omega)).stored (w.heap.size + 1 + 1) 12 (.int .i64 x.2.2.2.2.2.2.2.2.2.2.2.2.1) (by omega)).stored (w.heap.size + 1 + 1) 13 (.bool x.2.2.2.2.2.2.2.2.2.2.2.2.2) (by omega))
  have O2_8 := (((N2_8.stored (w.heap.size + 1 + 1) 11 (.slice a8' n8' c8') (by omega)).stored (w.heap.size + 1 + 1) 12 (.int .i64 x.2.2.2.2.2.2.2.2.2.2.2.2.1) (by omega)).stored (w.heap.size + 1 + 1) 13 (.bool x.2.2.2.2.2.2.2.2.2.2.2.2.2) (by omega))
  have O3_8 := (((N3_8.stored (w.heap.size + 1 + 1) 11 (.slice a8' n8' c8') (by omega)).stored (w.heap.size + 1 + 1) 12 (.int .i64 x.2.2.2.2.2.2.2.2.2.2.2.2.1) (by omega)).stored (w.heap.size + 1 + 1) 13 (.bool x.2.2.2.2.2.2.2.2.2.2.2.2.2) (by omega))
  have O4_8 := (((N4_8.stored (w.heap.size + 1 + 1) 11 (.slice a8' n8' c8') (by omega)).stored (w.heap.size + 1 + 1) 12 (.int .i64 x.2.2.2.2.2.2.2.2.2.2.2.2.1) (by omega)).stored (w.heap.size + 1 + 1) 13 (.bool x.2.2.2.2.2.2.2.2.2.2.2.2.2) (by omega))
  have O5_8 := (((N5_8.stored (w.heap.size + 1 + 1) 11 (.slice a8' n8' c8') (by omega)).stored (w.heap.size + 1 + 1) 12 (.int .i64 x.2.2.2.2.2.2.2.2.2.2.2.2.1) (by omega)).stored (w.heap.size + 1 + 1) 13 (.bool x.2.2.2.2.2.2.2.2.2.2.2.2.2) (by omega))
  have O6_8 := (((N6_8.stored (w.heap.size + 1 + 1) 11 (.slice a8' n8' c8') (by omega)).stored (w.heap.size + 1 + 1) 12 (.int .i64 x.2.2.2.2.2.2.2.2.2.2.2.2.1) (by omega)).stored (w.heap.size + 1 + 1) 13 (.bool x.2.2.2.2.2.2.2.2.2.2.2.2.2) (by omega))
  have O7_8 := (((N7_8.stored (w.heap.size + 1 + 1) 11 (.slice a8' n8' c8') (by omega)).stored (w.heap.size + 1 + 1) 12 (.int .i64 x.2.2.2.2.2.2.2.2.2.2.2.2.1) (by omega)).stored (w.heap.size + 1 + 1) 13 (.bool x.2.2.2.2.2.2.2.2.2.2.2.2.2) (by omega))
  have O8_8 := (((N8_8.stored (w.heap.size + 1 + 1) 11 (.slice a8' n8' c8') (by omega)).stored (w.heap.size + 1 + 1) 12 (.int .i64 x.2.2.2.2.2.2.2.2.2.2.2.2.1) (by omega)).stored (w.heap.size + 1 + 1) 13 (.bool x.2.2.2.2.2.2.2.2.2.2.2.2.2) (by omega))
  replace hby := Lib.hid hby
  replace O0_8 := Lib.hid O0_8
  clear N0_8
  replace O1_8 := Lib.hid O1_8
  clear N1_8
  replace O2_8 := Lib.hid O2_8
  clear N2_8
  replace O3_8 := Lib.hid O3_8
  clear N3_8
  replace O4_8 := Lib.hid O4_8
  clear N4_8
  replace O5_8 := Lib.hid O5_8
  clear N5_8
  replace O6_8 := Lib.hid O6_8
  clear N6_8
  replace O7_8 := Lib.hid O7_8
  clear N7_8
  replace O8_8 := Lib.hid O8_8
  clear N8_8
  clear hr8 hbx hb8
  go_wp2_with fail
  refine bodyPost_ret (results_cell_row rfl _ _ (w.heap.size + 1) 60 #[.int .i64 x.1, .slice (some ⟨v0.heap.size, 0, none⟩) n0 n0, .slice (some ⟨v1.heap.size, 0, none⟩) n1 n1, .bool x.2.2.2.1, .bool x.2.2.2.2.1, .slice (some ⟨v2.heap.size, 0, none⟩) n2 n2, .slice (some ⟨v3.heap.size, 0, none⟩) n3 n3, .slice (some ⟨v4.heap.size, 0, none⟩) n4 n4, .slice (some ⟨v5.heap.size, 0, none⟩) n5 n5, .slice (some ⟨v6.heap.size, 0, none⟩) n6 n6, .slice (some ⟨v7.heap.size, 0, none⟩) n7 n7, .slice a8' n8' c8', .int .i64 x.2.2.2.2.2.2.2.2.2.2.2.2.1, .bool x.2.2.2.2.2.2.2.2.2.2.2.2.2] (0, 0) _ rfl ?_ Try.underlying60 rfl (by kernel_rfl)) rfl ?_
  · exact hby.out.result [.int .i64 x.1, .slice (some ⟨v0.heap.size, 0, none⟩) n0 n0, .slice (some ⟨v1.heap.size, 0, none⟩) n1 n1, .bool x.2.2.2.1, .bool x.2.2.2.2.1, .slice (some ⟨v2.heap.size, 0, none⟩) n2 n2, .slice (some ⟨v3.heap.size, 0, none⟩) n3 n3, .slice (some ⟨v4.heap.size, 0, none⟩) n4 n4, .slice (some ⟨v5.heap.size, 0, none⟩) n5 n5, .slice (some ⟨v6.heap.size, 0, none⟩) n6 n6, .slice (some ⟨v7.heap.size, 0, none⟩) n7 n7, .slice a8' n8' c8', .int .i64 x.2.2.2.2.2.2.2.2.2.2.2.2.1, .bool x.2.2.2.2.2.2.2.2.2.2.2.2.2] rfl
  refine ⟨[.int .i64 x.1, .slice (some ⟨v0.heap.size, 0, none⟩) n0 n0, .slice (some ⟨v1.heap.size, 0, none⟩) n1 n1, .bool x.2.2.2.1, .bool x.2.2.2.2.1, .slice (some ⟨v2.heap.size, 0, none⟩) n2 n2, .slice (some ⟨v3.heap.size, 0, none⟩) n3 n3, .slice (some ⟨v4.heap.size, 0, none⟩) n4 n4, .slice (some ⟨v5.heap.size, 0, none⟩) n5 n5, .slice (some ⟨v6.heap.size, 0, none⟩) n6 n6, .slice (some ⟨v7.heap.size, 0, none⟩) n7 n7, .slice a8' n8' c8', .int .i64 x.2.2.2.2.2.2.2.2.2.2.2.2.1, .bool x.2.2.2.2.2.2.2.2.2.2.2.2.2], rfl, ?_, hby.out.last [.int .i64 x.1, .slice (some ⟨v0.heap.size, 0, none⟩) n0 n0, .slice (some ⟨v1.heap.size, 0, none⟩) n1 n1, .bool x.2.2.2.1, .bool x.2.2.2.2.1, .slice (some ⟨v2.heap.size, 0, none⟩) n2 n2, .slice (some ⟨v3.heap.size, 0, none⟩) n3 n3, .slice (some ⟨v4.heap.size, 0, none⟩) n4 n4, .slice (some ⟨v5.heap.size, 0, none⟩) n5 n5, .slice (some ⟨v6.heap.size, 0, none⟩) n6 n6, .slice (some ⟨v7.heap.size, 0, none⟩) n7 n7, .slice a8' n8' c8', .int .i64 x.2.2.2.2.2.2.2.2.2.2.2.2.1, .bool x.2.2.2.2.2.2.2.2.2.2.2.2.2]⟩
  exact shStage_reads.2 ⟨_, _, _, _, _, _, _, _, _, _, _, _, _, _, _, _, _, _, _, _, _, _, _, _, _, _, _, rfl, ⟨Nat.le_refl _, by omega, (O0_8.out.storedAll (w.heap.size + 1) 0 [.int .i64 x.1, .slice (some ⟨v0.heap.size, 0, none⟩) n0 n0, .slice (some ⟨v1.heap.size, 0, none⟩) n1 n1, .bool x.2.2.2.1, .bool x.2.2.2.2.1, .slice (some ⟨v2.heap.size, 0, none⟩) n2 n2, .slice (some ⟨v3.heap.size, 0, none⟩) n3 n3, .slice (some ⟨v4.heap.size, 0, none⟩) n4 n4, .slice (some ⟨v5.heap.size, 0, none⟩) n5 n5, .slice (some ⟨v6.heap.size, 0, none⟩) n6 n6, .slice (some ⟨v7.heap.size, 0, none⟩) n7 n7, .slice a8' n8' c8', .int .i64 x.2.2.2.2.2.2.2.2.2.2.2.2.1, .bool x.2.2.2.2.2.2.2.2.2.2.2.2.2] (by omega)).lo (by omega)⟩, ⟨Nat.le_refl _, by omega, (O1_8.out.storedAll (w.heap.size + 1) 0 [.int .i64 x.1, .slice (some ⟨v0.heap.size, 0, none⟩) n0 n0, .slice (some ⟨v1.heap.size, 0, none⟩) n1 n1, .bool x.2.2.2.1, .bool x.2.2.2.2.1, .slice (some ⟨v2.heap.size, 0, none⟩) n2 n2, .slice (some ⟨v3.heap.size, 0, none⟩) n3 n3, .slice (some ⟨v4.heap.size, 0, none⟩) n4 n4, .slice (some ⟨v5.heap.size, 0, none⟩) n5 n5, .slice (some ⟨v6.heap.size, 0, none⟩) n6 n6, .slice (some ⟨v7.heap.size, 0, none⟩) n7 n7, .slice a8' n8' c8', .int .i64 x.2.2.2.2.2.2.2.2.2.2.2.2.1, .bool x.2.2.2.2.2.2.2.2.2.2.2.2.2] (by omega)).lo (by omega)⟩, ⟨Nat.le_refl _, by omega, (O2_8.out.storedAll (w.heap.size + 1) 0 [.int .i64 x.1, .slice (some ⟨v0.heap.size, 0, none⟩) n0 n0, .slice (some ⟨v1.heap.size, 0, none⟩) n1 n1, .bool x.2.2.2.1, .bool x.2.2.2.2.1, .slice (some ⟨v2.heap.size, 0, none⟩) n2 n2, .slice (some ⟨v3.heap.size, 0, none⟩) n3 n3, .slice (some ⟨v4.heap.size, 0, none⟩) n4 n4, .slice (some ⟨v5.heap.size, 0, none⟩) n5 n5, .slice (some ⟨v6.heap.size, 0, none⟩) n6 n6, .slice (some ⟨v7.heap.size, 0, none⟩) n7 n7, .slice a8' n8' c8', .int .i64 x.2.2.2.2.2.2.2.2.2.2.2.2.1, .bool x.2.2.2.2.2.2.2.2.2.2.2.2.2] (by omega)).lo (by omega)⟩, ⟨Nat.le_refl _, by omega, (O3_8.out.storedAll (w.heap.size + 1) 0 [.int .i64 x.1, .slice (some ⟨v0.heap.size, 0, none⟩) n0 n0, .slice (some ⟨v1.heap.size, 0, none⟩) n1 n1, .bool x.2.2.2.1, .bool x.2.2.2.2.1, .slice (some ⟨v2.heap.size, 0, none⟩) n2 n2, .slice (some ⟨v3.heap.size, 0, none⟩) n3 n3, .slice (some ⟨v4.heap.size, 0, none⟩) n4 n4, .slice (some ⟨v5.heap.size, 0, none⟩) n5 n5, .slice (some ⟨v6.heap.size, 0, none⟩) n6 n6, .slice (some ⟨v7.heap.size, 0, none⟩) n7 n7, .slice a8' n8' c8', .int .i64 x.2.2.2.2.2.2.2.2.2.2.2.2.1, .bool x.2.2.2.2.2.2.2.2.2.2.2.2.2] (by omega)).lo (by omega)⟩, ⟨Nat.le_refl _, by omega, (O4_8.out.storedAll (w.heap.size + 1) 0 [.int .i64 x.1, .slice (some ⟨v0.heap.size, 0, none⟩) n0 n0, .slice (some ⟨v1.heap.size, 0, none⟩) n1 n1, .bool x.2.2.2.1, .bool x.2.2.2.2.1, .slice (some ⟨v2.heap.size, 0, none⟩) n2 n2, .slice (some ⟨v3.heap.size, 0, none⟩) n3 n3, .slice (some ⟨v4.heap.size, 0, none⟩) n4 n4, .slice (some ⟨v5.heap.size, 0, none⟩) n5 n5, .slice (some ⟨v6.heap.size, 0, none⟩) n6 n6, .slice (some ⟨v7.heap.size, 0, none⟩) n7 n7, .slice a8' n8' c8', .int .i64 x.2.2.2.2.2.2.2.2.2.2.2.2.1, .bool x.2.2.2.2.2.2.2.2.2.2.2.2.2] (by omega)).lo (by omega)⟩, ⟨Nat.le_refl _, by omega, (O5_8.out.storedAll (w.heap.size + 1) 0 [.int .i64 x.1, .slice (some ⟨v0.heap.size, 0, none⟩) n0 n0, .slice (some ⟨v1.heap.size, 0, none⟩) n1 n1, .bool x.2.2.2.1, .bool x.2.2.2.2.1, .slice (some ⟨v2.heap.size, 0, none⟩) n2 n2, .slice (some ⟨v3.heap.size, 0, none⟩) n3 n3, .slice (some ⟨v4.heap.size, 0, none⟩) n4 n4, .slice (some ⟨v5.heap.size, 0, none⟩) n5 n5, .slice (some ⟨v6.heap.size, 0, none⟩) n6 n6, .slice (some ⟨v7.heap.size, 0, none⟩) n7 n7, .slice a8' n8' c8', .int .i64 x.2.2.2.2.2.2.2.2.2.2.2.2.1, .bool x.2.2.2.2.2.2.2.2.2.2.2.2.2] (by omega)).lo (by omega)⟩, ⟨Nat.le_refl _, by omega, (O6_8.out.storedAll (w.heap.size + 1) 0 [.int .i64 x.1, .slice (some ⟨v0.heap.size, 0, none⟩) n0 n0, .slice (some ⟨v1.heap.size, 0, none⟩) n1 n1, .bool x.2.2.2.1, .bool x.2.2.2.2.1, .slice (some ⟨v2.heap.size, 0, none⟩) n2 n2, .slice (some ⟨v3.heap.size, 0, none⟩) n3 n3, .slice (some ⟨v4.heap.size, 0, none⟩) n4 n4, .slice (some ⟨v5.heap.size, 0, none⟩) n5 n5, .slice (some ⟨v6.heap.size, 0, none⟩) n6 n6, .slice (some ⟨v7.heap.size, 0, none⟩) n7 n7, .slice a8' n8' c8', .int .i64 x.2.2.2.2.2.2.2.2.2.2.2.2.1, .bool x.2.2.2.2.2.2.2.2.2.2.2.2.2] (by omega)).lo (by omega)⟩, ⟨Nat.le_refl _, by omega, (O7_8.out.storedAll (w.heap.size + 1) 0 [.int .i64 x.1, .slice (some ⟨v0.heap.size, 0, none⟩) n0 n0, .slice (some ⟨v1.heap.size, 0, none⟩) n1 n1, .bool x.2.2.2.1, .bool x.2.2.2.2.1, .slice (some ⟨v2.heap.size, 0, none⟩) n2 n2, .slice (some ⟨v3.heap.size, 0, none⟩) n3 n3, .slice (some ⟨v4.heap.size, 0, none⟩) n4 n4, .slice (some ⟨v5.heap.size, 0, none⟩) n5 n5, .slice (some ⟨v6.heap.size, 0, none⟩) n6 n6, .slice (some ⟨v7.heap.size, 0, none⟩) n7 n7, .slice a8' n8' c8', .int .i64 x.2.2.2.2.2.2.2.2.2.2.2.2.1, .bool x.2.2.2.2.2.2.2.2.2.2.2.2.2] (by omega)).lo (by omega)⟩, ⟨p8', r8', (O8_8.out.storedAll (w.heap.size + 1) 0 [.int .i64 x.1, .slice (some ⟨v0.heap.size, 0, none⟩) n0 n0, .slice (some ⟨v1.heap.size, 0, none⟩) n1 n1, .bool x.2.2.2.1, .bool x.2.2.2.2.1, .slice (some ⟨v2.heap.size, 0, none⟩) n2 n2, .slice (some ⟨v3.heap.size, 0, none⟩) n3 n3, .slice (some ⟨v4.heap.size, 0, none⟩) n4 n4, .slice (some ⟨v5.heap.size, 0, none⟩) n5 n5, .slice (some ⟨v6.heap.size, 0, none⟩) n6 n6, .slice (some ⟨v7.heap.size, 0, none⟩) n7 n7, .slice a8' n8' c8', .int .i64 x.2.2.2.2.2.2.2.2.2.2.2.2.1, .bool x.2.2.2.2.2.2.2.2.2.2.2.2.2] (by omega)).lo (by omega)⟩⟩
set_option maxRecDepth 100000 in
set_option maxHeartbeats 800000 in
theorem eqStage_c (w : World) (B B' : Nat) (es es' : List Value) (x : dStage) (h : shStage.reads (Under B) w es x) (h' : shStage.reads (Under B') w es' x) (hB : B ≤ w.heap.size) (hB' : B' ≤ w.heap.size) (hb : smallStage x) :
    Calls Try.prog 63 #[.agg es.toArray, .agg es'.toArray] w fun e w' => e = .returned (.bool true) ∧ Below w.heap.size w w' := by
  obtain ⟨a0, n0, c0, a1, n1, c1, a2, n2, c2, a3, n3, c3, a4, n4, c4, a5, n5, c5, a6, n6, c6, a7, n7, c7, a8, n8, c8, rfl, ⟨-, -, l0⟩, ⟨-, -, l1⟩, ⟨-, -, l2⟩, ⟨-, -, l3⟩, ⟨-, -, l4⟩, ⟨-, -, l5⟩, ⟨-, -, l6⟩, ⟨-, -, l7⟩, ⟨p8, r8, l8⟩⟩ := shStage_reads.1 h
  obtain ⟨b0, nb0, cb0, b1, nb1, cb1, b2, nb2, cb2, b3, nb3, cb3, b4, nb4, cb4, b5, nb5, cb5, b6, nb6, cb6, b7, nb7, cb7, b8, nb8, cb8, rfl, ⟨-, -, m0⟩, ⟨-, -, m1⟩, ⟨-, -, m2⟩, ⟨-, -, m3⟩, ⟨-, -, m4⟩, ⟨-, -, m5⟩, ⟨-, -, m6⟩, ⟨-, -, m7⟩, ⟨p8', r8', m8⟩⟩ := shStage_reads.1 h'
  obtain rfl : nb0 = n0 := by rw [← l0.1, ← m0.1]
  obtain rfl : nb1 = n1 := by rw [← l1.1, ← m1.1]
  obtain rfl : nb2 = n2 := by rw [← l2.1, ← m2.1]
  obtain rfl : nb3 = n3 := by rw [← l3.1, ← m3.1]
  obtain rfl : nb4 = n4 := by rw [← l4.1, ← m4.1]
  obtain rfl : nb5 = n5 := by rw [← l5.1, ← m5.1]
  obtain rfl : nb6 = n6 := by rw [← l6.1, ← m6.1]
  obtain rfl : nb7 = n7 := by rw [← l7.1, ← m7.1]
  obtain rfl : nb8 = n8 := by rw [← l8.1, ← m8.1]
  obtain ⟨hb0, hb1, hb2, hb3, hb4, hb5, hb6, hb7, hb8⟩ := hb
  have ha := ((Below.refl w.heap.size w).alloc (Nat.le_refl _) (.cells #[.int .i64 x.1, .slice a0 nb0 c0, .slice a1 nb1 c1, .bool x.2.2.2.1, .bool x.2.2.2.2.1, .slice a2 nb2 c2, .slice a3 nb3 c3, .slice a4 nb4 c4, .slice a5 nb5 c5, .slice a6 nb6 c6, .slice a7 nb7 c7, .slice a8 nb8 c8, .int .i64 x.2.2.2.2.2.2.2.2.2.2.2.2.1, .bool x.2.2.2.2.2.2.2.2.2.2.2.2.2] 60 (0, 0))).alloc (by simp) (.cells #[.int .i64 x.1, .slice b0 nb0 cb0, .slice b1 nb1 cb1, .bool x.2.2.2.1, .bool x.2.2.2.2.1, .slice b2 nb2 cb2, .slice b3 nb3 cb3, .slice b4 nb4 cb4, .slice b5 nb5 cb5, .slice b6 nb6 cb6, .slice b7 nb7 cb7, .slice b8 nb8 cb8, .int .i64 x.2.2.2.2.2.2.2.2.2.2.2.2.1, .bool x.2.2.2.2.2.2.2.2.2.2.2.2.2] 60 (0, 0))
  have hA : ((w.alloc (.cells #[.int .i64 x.1, .slice a0 nb0 c0, .slice a1 nb1 c1, .bool x.2.2.2.1, .bool x.2.2.2.2.1, .slice a2 nb2 c2, .slice a3 nb3 c3, .slice a4 nb4 c4, .slice a5 nb5 c5, .slice a6 nb6 c6, .slice a7 nb7 c7, .slice a8 nb8 c8, .int .i64 x.2.2.2.2.2.2.2.2.2.2.2.2.1, .bool x.2.2.2.2.2.2.2.2.2.2.2.2.2] 60 (0, 0))).alloc (.cells #[.int .i64 x.1, .slice b0 nb0 cb0, .slice b1 nb1 cb1, .bool x.2.2.2.1, .bool x.2.2.2.2.1, .slice b2 nb2 cb2, .slice b3 nb3 cb3, .slice b4 nb4 cb4, .slice b5 nb5 cb5, .slice b6 nb6 cb6, .slice b7 nb7 cb7, .slice b8 nb8 cb8, .int .i64 x.2.2.2.2.2.2.2.2.2.2.2.2.1, .bool x.2.2.2.2.2.2.2.2.2.2.2.2.2] 60 (0, 0))).heap[w.heap.size]? = some (.cells #[.int .i64 x.1, .slice a0 nb0 c0, .slice a1 nb1 c1, .bool x.2.2.2.1, .bool x.2.2.2.2.1, .slice a2 nb2 c2, .slice a3 nb3 c3, .slice a4 nb4 c4, .slice a5 nb5 c5, .slice a6 nb6 c6, .slice a7 nb7 c7, .slice a8 nb8 c8, .int .i64 x.2.2.2.2.2.2.2.2.2.2.2.2.1, .bool x.2.2.2.2.2.2.2.2.2.2.2.2.2] 60 (0, 0)) := by
    rw [Below.heap_alloc _ _ _ (by simp)]
    exact heap_alloc_new w _
  have hC : ((w.alloc (.cells #[.int .i64 x.1, .slice a0 nb0 c0, .slice a1 nb1 c1, .bool x.2.2.2.1, .bool x.2.2.2.2.1, .slice a2 nb2 c2, .slice a3 nb3 c3, .slice a4 nb4 c4, .slice a5 nb5 c5, .slice a6 nb6 c6, .slice a7 nb7 c7, .slice a8 nb8 c8, .int .i64 x.2.2.2.2.2.2.2.2.2.2.2.2.1, .bool x.2.2.2.2.2.2.2.2.2.2.2.2.2] 60 (0, 0))).alloc (.cells #[.int .i64 x.1, .slice b0 nb0 cb0, .slice b1 nb1 cb1, .bool x.2.2.2.1, .bool x.2.2.2.2.1, .slice b2 nb2 cb2, .slice b3 nb3 cb3, .slice b4 nb4 cb4, .slice b5 nb5 cb5, .slice b6 nb6 cb6, .slice b7 nb7 cb7, .slice b8 nb8 cb8, .int .i64 x.2.2.2.2.2.2.2.2.2.2.2.2.1, .bool x.2.2.2.2.2.2.2.2.2.2.2.2.2] 60 (0, 0))).heap[w.heap.size + 1]? = some (.cells #[.int .i64 x.1, .slice b0 nb0 cb0, .slice b1 nb1 cb1, .bool x.2.2.2.1, .bool x.2.2.2.2.1, .slice b2 nb2 cb2, .slice b3 nb3 cb3, .slice b4 nb4 cb4, .slice b5 nb5 cb5, .slice b6 nb6 cb6, .slice b7 nb7 cb7, .slice b8 nb8 cb8, .int .i64 x.2.2.2.2.2.2.2.2.2.2.2.2.1, .bool x.2.2.2.2.2.2.2.2.2.2.2.2.2] 60 (0, 0)) := by
    have := heap_alloc_new (w.alloc (.cells #[.int .i64 x.1, .slice a0 nb0 c0, .slice a1 nb1 c1, .bool x.2.2.2.1, .bool x.2.2.2.2.1, .slice a2 nb2 c2, .slice a3 nb3 c3, .slice a4 nb4 c4, .slice a5 nb5 c5, .slice a6 nb6 c6, .slice a7 nb7 c7, .slice a8 nb8 c8, .int .i64 x.2.2.2.2.2.2.2.2.2.2.2.2.1, .bool x.2.2.2.2.2.2.2.2.2.2.2.2.2] 60 (0, 0))) (.cells #[.int .i64 x.1, .slice b0 nb0 cb0, .slice b1 nb1 cb1, .bool x.2.2.2.1, .bool x.2.2.2.2.1, .slice b2 nb2 cb2, .slice b3 nb3 cb3, .slice b4 nb4 cb4, .slice b5 nb5 cb5, .slice b6 nb6 cb6, .slice b7 nb7 cb7, .slice b8 nb8 cb8, .int .i64 x.2.2.2.2.2.2.2.2.2.2.2.2.1, .bool x.2.2.2.2.2.2.2.2.2.2.2.2.2] 60 (0, 0))
    simpa using this
  have hS : w.heap.size + 1 < ((w.alloc (.cells #[.int .i64 x.1, .slice a0 nb0 c0, .slice a1 nb1 c1, .bool x.2.2.2.1, .bool x.2.2.2.2.1, .slice a2 nb2 c2, .slice a3 nb3 c3, .slice a4 nb4 c4, .slice a5 nb5 c5, .slice a6 nb6 c6, .slice a7 nb7 c7, .slice a8 nb8 c8, .int .i64 x.2.2.2.2.2.2.2.2.2.2.2.2.1, .bool x.2.2.2.2.2.2.2.2.2.2.2.2.2] 60 (0, 0))).alloc (.cells #[.int .i64 x.1, .slice b0 nb0 cb0, .slice b1 nb1 cb1, .bool x.2.2.2.1, .bool x.2.2.2.2.1, .slice b2 nb2 cb2, .slice b3 nb3 cb3, .slice b4 nb4 cb4, .slice b5 nb5 cb5, .slice b6 nb6 cb6, .slice b7 nb7 cb7, .slice b8 nb8 cb8, .int .i64 x.2.2.2.2.2.2.2.2.2.2.2.2.1, .bool x.2.2.2.2.2.2.2.2.2.2.2.2.2] 60 (0, 0))).heap.size := by simp
  have H0 := Lib.hid fun (w1 : World) (hbw : Below w.heap.size w w1) => eqInsS_c w1 B B' a0 b0 nb0 c0 cb0 _ (l0.below hbw hB) (m0.below hbw hB') (Nat.le_trans hB hbw.size) (Nat.le_trans hB' hbw.size) hb0
  have H1 := Lib.hid fun (w1 : World) (hbw : Below w.heap.size w w1) => eqOpS_c w1 B B' a1 b1 nb1 c1 cb1 _ (l1.below hbw hB) (m1.below hbw hB') (Nat.le_trans hB hbw.size) (Nat.le_trans hB' hbw.size) hb1
  have H2 := Lib.hid fun (w1 : World) (hbw : Below w.heap.size w w1) => eqSavedS_c w1 B B' a2 b2 nb2 c2 cb2 _ (l2.below hbw hB) (m2.below hbw hB') (Nat.le_trans hB hbw.size) (Nat.le_trans hB' hbw.size) hb2
  have H3 := Lib.hid fun (w1 : World) (hbw : Below w.heap.size w w1) => eqRowS_c w1 B B' a3 b3 nb3 c3 cb3 _ (l3.below hbw hB) (m3.below hbw hB') (Nat.le_trans hB hbw.size) (Nat.le_trans hB' hbw.size) hb3
  have H4 := Lib.hid fun (w1 : World) (hbw : Below w.heap.size w w1) => eqIntS_c w1 B B' a4 b4 nb4 c4 cb4 _ (l4.below hbw hB) (m4.below hbw hB') (Nat.le_trans hB hbw.size) (Nat.le_trans hB' hbw.size) hb4
  have H5 := Lib.hid fun (w1 : World) (hbw : Below w.heap.size w w1) => eqIntS_c w1 B B' a5 b5 nb5 c5 cb5 _ (l5.below hbw hB) (m5.below hbw hB') (Nat.le_trans hB hbw.size) (Nat.le_trans hB' hbw.size) hb5
  have H6 := Lib.hid fun (w1 : World) (hbw : Below w.heap.size w w1) => eqIntS_c w1 B B' a6 b6 nb6 c6 cb6 _ (l6.below hbw hB) (m6.below hbw hB') (Nat.le_trans hB hbw.size) (Nat.le_trans hB' hbw.size) hb6
  have H7 := Lib.hid fun (w1 : World) (hbw : Below w.heap.size w w1) => eqIntS_c w1 B B' a7 b7 nb7 c7 cb7 _ (l7.below hbw hB) (m7.below hbw hB') (Nat.le_trans hB hbw.size) (Nat.le_trans hB' hbw.size) hb7
  have H8 := Lib.hid fun (w1 : World) (hbw : Below w.heap.size w w1) => eqGrads_c w1 B B' [.slice a8 nb8 c8, .int .i64 x.2.2.2.2.2.2.2.2.2.2.2.2.1, .bool x.2.2.2.2.2.2.2.2.2.2.2.2.2] [.slice b8 nb8 cb8, .int .i64 x.2.2.2.2.2.2.2.2.2.2.2.2.1, .bool x.2.2.2.2.2.2.2.2.2.2.2.2.2] x.2.2.2.2.2.2.2.2.2.2.2 (shGrads_reads.2 ⟨_, _, _, rfl, p8, r8, l8.below hbw hB⟩) (shGrads_reads.2 ⟨_, _, _, rfl, p8', r8', m8.below hbw hB'⟩) (Nat.le_trans hB hbw.size) (Nat.le_trans hB' hbw.size) (by rw [shGrads_bulk]; exact hb8)
  have HA := Lib.hid ha
  have XA := Lib.hid hA
  have XC := Lib.hid hC
  have HS := Lib.hid hS
  clear h h' hb0 hb1 hb2 hb3 hb4 hb5 hb6 hb7 hb8 ha hA hC hS l0 m0 l1 m1 l2 m2 l3 m3 l4 m4 l5 m5 l6 m6 l7 m7 l8 m8
  go_enter Try.func63, Try.ntmps63
  go_wp2_with fail
  refine (H0.out _ HA.out).mono ?_
  rintro e w1 ⟨rfl, hb0⟩
  have B0 := Lib.hid (HA.out.trans (hb0.mono HA.out.size))
  have XA0 := Lib.hid ((hb0.block w.heap.size (by have := HS.out; omega)).trans XA.out)
  have XC0 := Lib.hid ((hb0.block (w.heap.size + 1) HS.out).trans XC.out)
  have HS0 := Lib.hid (Nat.lt_of_lt_of_le HS.out hb0.size)
  have za0_2 : w1.cell? ⟨w.heap.size, 2, none⟩ = _ := cell_of_row _ _ _ _ _ _ XA0.out
  have zc0_2 : w1.cell? ⟨w.heap.size + 1, 2, none⟩ = _ := cell_of_row _ _ _ _ _ _ XC0.out
  simp only [List.getElem?_toArray, List.getElem?_cons_zero, List.getElem?_cons_succ] at za0_2 zc0_2
  clear hb0
  go_wp2_with fail
  refine (H1.out _ B0.out).mono ?_
  rintro e w2 ⟨rfl, hb1⟩
  have B1 := Lib.hid (B0.out.trans (hb1.mono B0.out.size))
  have XA1 := Lib.hid ((hb1.block w.heap.size (by have := HS0.out; omega)).trans XA0.out)
  have XC1 := Lib.hid ((hb1.block (w.heap.size + 1) HS0.out).trans XC0.out)
  have HS1 := Lib.hid (Nat.lt_of_lt_of_le HS0.out hb1.size)
  clear za0_2 zc0_2
  have za1_3 : w2.cell? ⟨w.heap.size, 3, none⟩ = _ := cell_of_row _ _ _ _ _ _ XA1.out
  have zc1_3 : w2.cell? ⟨w.heap.size + 1, 3, none⟩ = _ := cell_of_row _ _ _ _ _ _ XC1.out
  have za1_4 : w2.cell? ⟨w.heap.size, 4, none⟩ = _ := cell_of_row _ _ _ _ _ _ XA1.out
  have zc1_4 : w2.cell? ⟨w.heap.size + 1, 4, none⟩ = _ := cell_of_row _ _ _ _ _ _ XC1.out
  have za1_5 : w2.cell? ⟨w.heap.size, 5, none⟩ = _ := cell_of_row _ _ _ _ _ _ XA1.out
  have zc1_5 : w2.cell? ⟨w.heap.size + 1, 5, none⟩ = _ := cell_of_row _ _ _ _ _ _ XC1.out
  simp only [List.getElem?_toArray, List.getElem?_cons_zero, List.getElem?_cons_succ] at za1_3 zc1_3 za1_4 zc1_4 za1_5 zc1_5
  clear hb1
  go_wp2_with fail
  refine (H2.out _ B1.out).mono ?_
  rintro e w3 ⟨rfl, hb2⟩
  have B2 := Lib.hid (B1.out.trans (hb2.mono B1.out.size))
  have XA2 := Lib.hid ((hb2.block w.heap.size (by have := HS1.out; omega)).trans XA1.out)
  have XC2 := Lib.hid ((hb2.block (w.heap.size + 1) HS1.out).trans XC1.out)
  have HS2 := Lib.hid (Nat.lt_of_lt_of_le HS1.out hb2.size)
  clear za1_3 zc1_3 za1_4 zc1_4 za1_5 zc1_5
  have za2_6 : w3.cell? ⟨w.heap.size, 6, none⟩ = _ := cell_of_row _ _ _ _ _ _ XA2.out
  have zc2_6 : w3.cell? ⟨w.heap.size + 1, 6, none⟩ = _ := cell_of_row _ _ _ _ _ _ XC2.out
  simp only [List.getElem?_toArray, List.getElem?_cons_zero, List.getElem?_cons_succ] at za2_6 zc2_6
  clear hb2
  go_wp2_with fail
  refine (H3.out _ B2.out).mono ?_
  rintro e w4 ⟨rfl, hb3⟩
  have B3 := Lib.hid (B2.out.trans (hb3.mono B2.out.size))
  have XA3 := Lib.hid ((hb3.block w.heap.size (by have := HS2.out; omega)).trans XA2.out)
  have XC3 := Lib.hid ((hb3.block (w.heap.size + 1) HS2.out).trans XC2.out)
  have HS3 := Lib.hid (Nat.lt_of_lt_of_le HS2.out hb3.size)
  clear za2_6 zc2_6
  have za3_7 : w4.cell? ⟨w.heap.size, 7, none⟩ = _ := cell_of_row _ _ _ _ _ _ XA3.out
  have zc3_7 : w4.cell? ⟨w.heap.size + 1, 7, none⟩ = _ := cell_of_row _ _ _ _ _ _ XC3.out
  simp only [List.getElem?_toArray, List.getElem?_cons_zero, List.getElem?_cons_succ] at za3_7 zc3_7
  clear hb3
  go_wp2_with fail
  refine (H4.out _ B3.out).mono ?_
  rintro e w5 ⟨rfl, hb4⟩
  have B4 := Lib.hid (B3.out.trans (hb4.mono B3.out.size))
  have XA4 := Lib.hid ((hb4.block w.heap.size (by have := HS3.out; omega)).trans XA3.out)
  have XC4 := Lib.hid ((hb4.block (w.heap.size + 1) HS3.out).trans XC3.out)
  have HS4 := Lib.hid (Nat.lt_of_lt_of_le HS3.out hb4.size)
  clear za3_7 zc3_7
  have za4_8 : w5.cell? ⟨w.heap.size, 8, none⟩ = _ := cell_of_row _ _ _ _ _ _ XA4.out
  have zc4_8 : w5.cell? ⟨w.heap.size + 1, 8, none⟩ = _ := cell_of_row _ _ _ _ _ _ XC4.out
  simp only [List.getElem?_toArray, List.getElem?_cons_zero, List.getElem?_cons_succ] at za4_8 zc4_8
  clear hb4
  go_wp2_with fail
  refine (H5.out _ B4.out).mono ?_
  rintro e w6 ⟨rfl, hb5⟩
  have B5 := Lib.hid (B4.out.trans (hb5.mono B4.out.size))
  have XA5 := Lib.hid ((hb5.block w.heap.size (by have := HS4.out; omega)).trans XA4.out)
  have XC5 := Lib.hid ((hb5.block (w.heap.size + 1) HS4.out).trans XC4.out)
  have HS5 := Lib.hid (Nat.lt_of_lt_of_le HS4.out hb5.size)
  clear za4_8 zc4_8
  have za5_9 : w6.cell? ⟨w.heap.size, 9, none⟩ = _ := cell_of_row _ _ _ _ _ _ XA5.out
  have zc5_9 : w6.cell? ⟨w.heap.size + 1, 9, none⟩ = _ := cell_of_row _ _ _ _ _ _ XC5.out
  simp only [List.getElem?_toArray, List.getElem?_cons_zero, List.getElem?_cons_succ] at za5_9 zc5_9
  clear hb5
  go_wp2_with fail
  refine (H6.out _ B5.out).mono ?_
  rintro e w7 ⟨rfl, hb6⟩
  have B6 := Lib.hid (B5.out.trans (hb6.mono B5.out.size))
  have XA6 := Lib.hid ((hb6.block w.heap.size (by have := HS5.out; omega)).trans XA5.out)
  have XC6 := Lib.hid ((hb6.block (w.heap.size + 1) HS5.out).trans XC5.out)
  have HS6 := Lib.hid (Nat.lt_of_lt_of_le HS5.out hb6.size)
  clear za5_9 zc5_9
  have za6_10 : w7.cell? ⟨w.heap.size, 10, none⟩ = _ := cell_of_row _ _ _ _ _ _ XA6.out
  have zc6_10 : w7.cell? ⟨w.heap.size + 1, 10, none⟩ = _ := cell_of_row _ _ _ _ _ _ XC6.out
  simp only [List.getElem?_toArray, List.getElem?_cons_zero, List.getElem?_cons_succ] at za6_10 zc6_10
  clear hb6
  go_wp2_with fail
  refine (H7.out _ B6.out).mono ?_
  rintro e w8 ⟨rfl, hb7⟩
  have B7 := Lib.hid (B6.out.trans (hb7.mono B6.out.size))
  have XA7 := Lib.hid ((hb7.block w.heap.size (by have := HS6.out; omega)).trans XA6.out)
  have XC7 := Lib.hid ((hb7.block (w.heap.size + 1) HS6.out).trans XC6.out)
  have HS7 := Lib.hid (Nat.lt_of_lt_of_le HS6.out hb7.size)
  clear za6_10 zc6_10
  have za7_11 : w8.cell? ⟨w.heap.size, 11, none⟩ = _ := cell_of_row _ _ _ _ _ _ XA7.out
  have zc7_11 : w8.cell? ⟨w.heap.size + 1, 11, none⟩ = _ := cell_of_row _ _ _ _ _ _ XC7.out
  have za7_12 : w8.cell? ⟨w.heap.size, 12, none⟩ = _ := cell_of_row _ _ _ _ _ _ XA7.out
  have zc7_12 : w8.cell? ⟨w.heap.size + 1, 12, none⟩ = _ := cell_of_row _ _ _ _ _ _ XC7.out
  have za7_13 : w8.cell? ⟨w.heap.size, 13, none⟩ = _ := cell_of_row _ _ _ _ _ _ XA7.out
  have zc7_13 : w8.cell? ⟨w.heap.size + 1, 13, none⟩ = _ := cell_of_row _ _ _ _ _ _ XC7.out
  simp only [List.getElem?_toArray, List.getElem?_cons_zero, List.getElem?_cons_succ] at za7_11 zc7_11 za7_12 zc7_12 za7_13 zc7_13
  clear hb7
  go_wp2_with fail
  refine (H8.out _ B7.out).mono ?_
  rintro e w9 ⟨rfl, hb8⟩
  have B8 := Lib.hid (B7.out.trans (hb8.mono B7.out.size))
  have XA8 := Lib.hid ((hb8.block w.heap.size (by have := HS7.out; omega)).trans XA7.out)
  have XC8 := Lib.hid ((hb8.block (w.heap.size + 1) HS7.out).trans XC7.out)
  have HS8 := Lib.hid (Nat.lt_of_lt_of_le HS7.out hb8.size)
  clear za7_11 zc7_11 za7_12 zc7_12 za7_13 zc7_13
  clear hb8
  go_wp2_with fail
  go_ret
  exact ⟨rfl, B8.out⟩
set_option maxRecDepth 100000 in
set_option maxHeartbeats 1600000 in
theorem szStageS_c (w : World) (B : Nat) (a : Option Addr) (n c : Nat) (xs : List dStage) (L : Int) (h : ListAt shStage (Under B) w a n xs) (hB : B ≤ w.heap.size) (hn : n ≤ 9223372036854775807) (h0 : 0 ≤ L) (h1 : L ≤ 1048576) :
    Calls Try.prog 27 #[.slice a n c, .int .i64 L] w fun e w' => e = .returned (.int .i64 (szN ((Shape.list shStage).bulk xs) L)) ∧ Below w.heap.size w w' := by
  obtain ⟨d, hd⟩ : ∃ d, d = szN ((Shape.list shStage).bulk xs) L := ⟨_, rfl⟩
  rw [← hd]
  have hbk : (Shape.list shStage).bulk xs = n + Shape.sum shStage.bulk xs := by rw [← h.1]; rfl
  rw [hbk] at hd
  have HD := Lib.hid hd
  have HL := Lib.hid h
  clear hd hbk h
  by_cases hnL : (n : Int) ≤ L
  · have hw : wrap64 (L - n) = L - n := IntWalk.wrap64_in (L - n) (by omega)
    have hlt0 : decide (L - (n : Int) < 0) = false := decide_eq_false (by omega)
    obtain ⟨M, hM⟩ : ∃ M : Int, L - n = M := ⟨_, rfl⟩
    rw [hM] at hw hlt0
    go_enter Try.func27, Try.ntmps27
    go_wp2_with fail
    go_loopw [1, 5] (fun l i wr => ∃ (k : Nat) (V : Int), k ≤ n ∧ i = .int .i64 k ∧ l = .int .i64 V ∧ 0 ≤ V ∧ V ≤ 1048576 ∧ Hid (V = M - Shape.sum shStage.bulk (xs.take k)) ∧ Below w.heap.size w wr) (fun _ i _ => n - (intOf i).toNat)
    case atStart => exact ⟨0, M, Nat.zero_le _, rfl, rfl, by omega, by omega, Lib.hid (by simp [Shape.sum]), Below.refl _ _⟩
    case round =>
      obtain ⟨k, V, hk, rfl, rfl, hV0, hV1, hV, hbw⟩ := hrel
      by_cases hlt : k < n
      · have hx : ∃ x, xs[k]? = some x := ⟨_, List.getElem?_eq_getElem (by rw [HL.out.1]; exact hlt)⟩
        obtain ⟨x, hx⟩ := hx
        obtain ⟨b, o, es, rfl, hbB, hr, hs⟩ := HL.out.2 k x hx
        have hsz := hbw.size
        have hrr := rangeAt_kept hr (show b < w.heap.size from Nat.lt_of_lt_of_le hbB hB) (Kept.of_below (I := Under w.heap.size) hbw fun b hb => hb)
        have HS := Lib.hid (szStage_c wr _ es x V (shStage.below (shStage.le hs hB) hbw (Nat.le_refl _)) hsz hV0 hV1)
        have HST := Lib.hid (sum_take shStage.bulk xs k x hx)
        have HTL := Lib.hid (sum_take_le shStage.bulk xs (k + 1))
        have HBW := Lib.hid hbw
        obtain ⟨u, hu⟩ : ∃ u, shStage.bulk x = u := ⟨_, rfl⟩
        rw [hu] at HS HST
        obtain ⟨ae0, ne0, ce0, ae1, ne1, ce1, ae2, ne2, ce2, ae3, ne3, ce3, ae4, ne4, ce4, ae5, ne5, ce5, ae6, ne6, ce6, ae7, ne7, ce7, ae8, ne8, ce8, rfl, -⟩ := shStage_reads.1 hs
        rw [shStage_size] at hrr
        have c0 := hrr 0 _ rfl
        have c1 := hrr 1 _ rfl
        have c2 := hrr 2 _ rfl
        have c3 := hrr 3 _ rfl
        have c4 := hrr 4 _ rfl
        have c5 := hrr 5 _ rfl
        have c6 := hrr 6 _ rfl
        have c7 := hrr 7 _ rfl
        have c8 := hrr 8 _ rfl
        have c9 := hrr 9 _ rfl
        have c10 := hrr 10 _ rfl
        have c11 := hrr 11 _ rfl
        have c12 := hrr 12 _ rfl
        have c13 := hrr 13 _ rfl
        simp only [Nat.add_zero] at c0
        try dsimp only at c0 c1 c2 c3 c4 c5 c6 c7 c8 c9 c10 c11 c12 c13 HS
        clear hr hrr hs hx hu hbw
        by_cases hfit : (u : Int) ≤ V
        · rw [szN_yes hfit] at HS
          obtain ⟨V', hV'⟩ : ∃ V', V - (u : Int) = V' := ⟨_, rfl⟩
          rw [hV'] at HS
          have hneg : decide (V' < 0) = false := decide_eq_false (by omega)
          go_wp2_with fail
          refine HS.out.mono ?_
          rintro e w' ⟨rfl, hb2⟩
          have HB2 := Lib.hid hb2
          clear hb2
          go_wp2_with fail
          go_round
          case rel => exact ⟨k + 1, V', by omega, by go_num, rfl, by omega, by omega, Lib.hid (by have e1 := HST.out; have e2 := hV.out; omega), HBW.out.trans (HB2.out.mono hsz)⟩
          case measure => simp [intOf]; omega
        · rw [szN_no hfit] at HS
          have hdd : d = -1 := by
            rw [HD.out]
            refine szN_no ?_
            have e1 := HST.out
            have e2 := HTL.out
            have e3 := hV.out
            omega
          subst hdd
          go_wp2_with fail
          refine HS.out.mono ?_
          rintro e w' ⟨rfl, hb2⟩
          have HB2 := Lib.hid hb2
          clear hb2
          go_wp2_with fail
          go_ret
          exact ⟨rfl, HBW.out.trans (HB2.out.mono hsz)⟩
      · have hkn : k = n := by omega
        subst hkn
        have hdd : V = d := by
          rw [HD.out]
          have e1 := hV.out
          have e2 : xs.take k = xs := List.take_of_length_le (by rw [HL.out.1]; exact Nat.le_refl _)
          rw [e2] at e1
          rw [szN_yes (by omega)]
          omega
        subst hdd
        have HBW := Lib.hid hbw
        clear hbw
        go_wp2_with fail
        go_ret
        exact ⟨rfl, HBW.out⟩
  · have hdd : d = -1 := by rw [HD.out]; exact szN_no (by omega)
    subst hdd
    have hw : wrap64 (L - n) = L - n := IntWalk.wrap64_in (L - n) (by omega)
    have hlt0 : decide (L - (n : Int) < 0) = true := decide_eq_true (by omega)
    obtain ⟨M, hM⟩ : ∃ M : Int, L - n = M := ⟨_, rfl⟩
    rw [hM] at hw hlt0
    go_enter Try.func27, Try.ntmps27
    go_wp2_with fail
    go_ret
    exact ⟨rfl, Below.refl _ _⟩
theorem infoAll_Stage : (Try.prog.info? 60).map (fun i => (i.zero, i.size, i.bytes)) = some (some (.agg #[.int .i64 0, .slice none 0 0, .slice none 0 0, .bool false, .bool false, .slice none 0 0, .slice none 0 0, .slice none 0 0, .slice none 0 0, .slice none 0 0, .slice none 0 0, .slice none 0 0, .int .i64 0, .bool false]), 14, 248) := by kernel_rfl
set_option maxRecDepth 100000 in
set_option maxHeartbeats 1600000 in
theorem toStageS_c (w : World) (B : Nat) (a : Option Addr) (n c : Nat) (xs : List dStage) (h : ListAt shStage (Under B) w a n xs) (hB : B ≤ w.heap.size) (hb : (Shape.list shStage).bulk xs ≤ 1048576) :
    Calls Try.prog 31 #[.slice a n c] w fun e w' => e = .returned (.slice (some ⟨w.heap.size, 0, none⟩) n n) ∧ ListAt shStage (From w.heap.size w'.heap.size) w' (some ⟨w.heap.size, 0, none⟩) n xs ∧ Below w.heap.size w w' := by
  have hbk : (Shape.list shStage).bulk xs = n + Shape.sum shStage.bulk xs := by rw [← h.1]; rfl
  rw [hbk] at hb
  have hmk := run_make_many (P := Try.prog) 32 60 _ 14 248 Try.underlying32 infoAll_Stage n (by omega) (by omega)
  have hst := Filled.start shStage w n xs (Value.agg #[.int .i64 0, .slice none 0 0, .slice none 0 0, .bool false, .bool false, .slice none 0 0, .slice none 0 0, .slice none 0 0, .slice none 0 0, .slice none 0 0, .slice none 0 0, .slice none 0 0, .int .i64 0, .bool false]).cells 60
  replace hst := Lib.hid hst
  have HL := Lib.hid h
  have HB := Lib.hid hb
  have hn1 : n ≤ 1048576 := by omega
  clear hbk h hb
  go_enter Try.func31, Try.ntmps31
  go_wp2_with fail
  go_loopw [4] (fun i wr => ∃ k : Nat, k ≤ n ∧ i = .int .i64 k ∧ Filled shStage w wr n k xs) (fun i _ => n - (intOf i).toNat)
  case atStart => exact ⟨0, Nat.zero_le _, rfl, hst.out⟩
  case round =>
    obtain ⟨k, hk, rfl, hf⟩ := hrel
    by_cases hlt : k < n
    · obtain ⟨x, hx⟩ : ∃ x, xs[k]? = some x := ⟨_, List.getElem?_eq_getElem (by rw [HL.out.1]; exact hlt)⟩
      obtain ⟨b, o, es, rfl, hbB, hr, hs⟩ := HL.out.2 k x hx
      have hfb := hf.below
      have hfl := hf.lt
      have hth0 := hf.rest
      have hrr := rangeAt_kept hr (show b < w.heap.size from Nat.lt_of_lt_of_le hbB hB) (Kept.of_below (I := Under w.heap.size) hfb fun b hb => hb)
      have HS := Lib.hid (toStage_c wr _ es x (shStage.below (shStage.le hs hB) hfb (Nat.le_refl _)) (Nat.le_of_lt hfl) (by have h1 := bulk_mem shStage.bulk xs k x hx; have h2 := HB.out; omega))
      have HF := Lib.hid hf
      have HX := Lib.hid hx
      have HT := Lib.hid hth0
      obtain ⟨ae0, ne0, ce0, ae1, ne1, ce1, ae2, ne2, ce2, ae3, ne3, ce3, ae4, ne4, ce4, ae5, ne5, ce5, ae6, ne6, ce6, ae7, ne7, ce7, ae8, ne8, ce8, rfl, -⟩ := shStage_reads.1 hs
      rw [shStage_size] at hrr
      have c0 := hrr 0 _ rfl
      have c1 := hrr 1 _ rfl
      have c2 := hrr 2 _ rfl
      have c3 := hrr 3 _ rfl
      have c4 := hrr 4 _ rfl
      have c5 := hrr 5 _ rfl
      have c6 := hrr 6 _ rfl
      have c7 := hrr 7 _ rfl
      have c8 := hrr 8 _ rfl
      have c9 := hrr 9 _ rfl
      have c10 := hrr 10 _ rfl
      have c11 := hrr 11 _ rfl
      have c12 := hrr 12 _ rfl
      have c13 := hrr 13 _ rfl
      simp only [Nat.add_zero] at c0
      try dsimp only at c0 c1 c2 c3 c4 c5 c6 c7 c8 c9 c10 c11 c12 c13 HS
      clear hr hrr hs hx hf hth0
      go_wp2_with fail
      clear c0 c1 c2 c3 c4 c5 c6 c7 c8 c9 c10 c11 c12 c13
      refine HS.out.mono ?_
      rintro e w1 ⟨es', rfl, hs', hb1⟩
      have hn4 : 14 ≤ (n - k) * shStage.size := by rw [shStage_size]; omega
      have hth := there_below HT.out hb1 hfl
      have hN := HF.out.step hlt hb1 HX.out hs'
      have HN := Lib.hid hN
      have HB1 := Lib.hid hb1
      obtain ⟨af0, nf0, cf0, af1, nf1, cf1, af2, nf2, cf2, af3, nf3, cf3, af4, nf4, cf4, af5, nf5, cf5, af6, nf6, cf6, af7, nf7, cf7, af8, nf8, cf8, rfl, -⟩ := shStage_reads.1 hs'
      obtain ⟨⟨v0, d0⟩, f0⟩ := there_cell hth 0 (by omega)
      obtain ⟨⟨v1, d1⟩, f1⟩ := there_cell hth 1 (by omega)
      obtain ⟨⟨v2, d2⟩, f2⟩ := there_cell hth 2 (by omega)
      obtain ⟨⟨v3, d3⟩, f3⟩ := there_cell hth 3 (by omega)
      obtain ⟨⟨v4, d4⟩, f4⟩ := there_cell hth 4 (by omega)
      obtain ⟨⟨v5, d5⟩, f5⟩ := there_cell hth 5 (by omega)
      obtain ⟨⟨v6, d6⟩, f6⟩ := there_cell hth 6 (by omega)
      obtain ⟨⟨v7, d7⟩, f7⟩ := there_cell hth 7 (by omega)
      obtain ⟨⟨v8, d8⟩, f8⟩ := there_cell hth 8 (by omega)
      obtain ⟨⟨v9, d9⟩, f9⟩ := there_cell hth 9 (by omega)
      obtain ⟨⟨v10, d10⟩, f10⟩ := there_cell hth 10 (by omega)
      obtain ⟨⟨v11, d11⟩, f11⟩ := there_cell hth 11 (by omega)
      obtain ⟨⟨v12, d12⟩, f12⟩ := there_cell hth 12 (by omega)
      obtain ⟨⟨v13, d13⟩, f13⟩ := there_cell hth 13 (by omega)
      rw [shStage_size] at d0 d1 d2 d3 d4 d5 d6 d7 d8 d9 d10 d11 d12 d13 f0 f1 f2 f3 f4 f5 f6 f7 f8 f9 f10 f11 f12 f13
      simp only [Nat.add_zero] at d0 f0
      clear hs' hb1 hth hN
      go_wp2_with fail
      go_round
      case rel => exact ⟨k + 1, by omega, by go_num, HN.out⟩
      case measure => simp [intOf]; omega
    · obtain rfl : k = n := by omega
      have hz := hf.below
      have HF := Lib.hid hf
      clear hf hz
      go_wp2_with fail
      go_ret
      exact ⟨rfl, HF.out.list HL.out.1, HF.out.below⟩
set_option maxRecDepth 100000 in
set_option maxHeartbeats 1600000 in
theorem eqStageS_c (w : World) (B B' : Nat) (a a' : Option Addr) (n c c' : Nat) (xs : List dStage) (h : ListAt shStage (Under B) w a n xs) (h' : ListAt shStage (Under B') w a' n xs) (hB : B ≤ w.heap.size) (hB' : B' ≤ w.heap.size) (hbl : looseStageS xs) :
    Calls Try.prog 35 #[.slice a n c, .slice a' n c'] w fun e w' => e = .returned (.bool true) ∧ Below w.heap.size w w' := by
  have hn1 : n ≤ 1048576 := by rw [← h.1]; exact hbl.1
  have HL := Lib.hid (h.le hB)
  have HL' := Lib.hid (h'.le hB')
  have HB := Lib.hid hbl.2
  clear h h' hbl
  go_enter Try.func35, Try.ntmps35
  go_wp2_with fail
  go_loopw [5] (fun i wr => ∃ k : Nat, k ≤ n ∧ i = .int .i64 k ∧ Below w.heap.size w wr) (fun i _ => n - (intOf i).toNat)
  case atStart => exact ⟨0, Nat.zero_le _, rfl, Below.refl _ _⟩
  case round =>
    obtain ⟨k, hk, rfl, hbw⟩ := hrel
    by_cases hlt : k < n
    · obtain ⟨x, hx⟩ : ∃ x, xs[k]? = some x := ⟨_, List.getElem?_eq_getElem (by rw [HL.out.1]; exact hlt)⟩
      obtain ⟨b, o, es, rfl, hbB, hr, hs⟩ := HL.out.2 k x hx
      obtain ⟨b', o', es', rfl, hbB', hr', hs'⟩ := HL'.out.2 k x hx
      have hsz := hbw.size
      have hrr := rangeAt_kept hr (show b < w.heap.size from hbB) (Kept.of_below (I := Under w.heap.size) hbw fun b hb => hb)
      have hrr' := rangeAt_kept hr' (show b' < w.heap.size from hbB') (Kept.of_below (I := Under w.heap.size) hbw fun b hb => hb)
      have hsw := shStage.below hs hbw (Nat.le_refl _)
      have hsw' := shStage.below hs' hbw (Nat.le_refl _)
      have hbx : smallStage x := HB.out x (List.mem_of_getElem? hx)
      have HC := Lib.hid fun (w1 : World) (hb1 : Below w.heap.size wr w1) => eqStage_c w1 _ _ es es' x (shStage.below hsw hb1 (Nat.le_refl _)) (shStage.below hsw' hb1 (Nat.le_refl _)) (Nat.le_trans hsz hb1.size) (Nat.le_trans hsz hb1.size) hbx
      have HBW := Lib.hid hbw
      obtain ⟨ae0, ne0, ce0, ae1, ne1, ce1, ae2, ne2, ce2, ae3, ne3, ce3, ae4, ne4, ce4, ae5, ne5, ce5, ae6, ne6, ce6, ae7, ne7, ce7, ae8, ne8, ce8, rfl, -⟩ := shStage_reads.1 hs
      obtain ⟨af0, nf0, cf0, af1, nf1, cf1, af2, nf2, cf2, af3, nf3, cf3, af4, nf4, cf4, af5, nf5, cf5, af6, nf6, cf6, af7, nf7, cf7, af8, nf8, cf8, rfl, -⟩ := shStage_reads.1 hs'
      rw [shStage_size] at hrr hrr'
      have c0 := hrr 0 _ rfl
      have c1 := hrr 1 _ rfl
      have c2 := hrr 2 _ rfl
      have c3 := hrr 3 _ rfl
      have c4 := hrr 4 _ rfl
      have c5 := hrr 5 _ rfl
      have c6 := hrr 6 _ rfl
      have c7 := hrr 7 _ rfl
      have c8 := hrr 8 _ rfl
      have c9 := hrr 9 _ rfl
      have c10 := hrr 10 _ rfl
      have c11 := hrr 11 _ rfl
      have c12 := hrr 12 _ rfl
      have c13 := hrr 13 _ rfl
      have d0 := hrr' 0 _ rfl
      have d1 := hrr' 1 _ rfl
      have d2 := hrr' 2 _ rfl
      have d3 := hrr' 3 _ rfl
      have d4 := hrr' 4 _ rfl
      have d5 := hrr' 5 _ rfl
      have d6 := hrr' 6 _ rfl
      have d7 := hrr' 7 _ rfl
      have d8 := hrr' 8 _ rfl
      have d9 := hrr' 9 _ rfl
      have d10 := hrr' 10 _ rfl
      have d11 := hrr' 11 _ rfl
      have d12 := hrr' 12 _ rfl
      have d13 := hrr' 13 _ rfl
      simp only [Nat.add_zero] at c0 d0
      try dsimp only at c0 d0 c1 d1 c2 d2 c3 d3 c4 d4 c5 d5 c6 d6 c7 d7 c8 d8 c9 d9 c10 d10 c11 d11 c12 d12 c13 d13 HC
      clear hr hr' hrr hrr' hs hs' hsw hsw' hx hbw hbx
      go_upto_region 6 with fail
      have k0 := cell_regrown c0
      have l0 := cell_regrown d0
      have k1 := cell_regrown c1
      have l1 := cell_regrown d1
      have k2 := cell_regrown c2
      have l2 := cell_regrown d2
      have k3 := cell_regrown c3
      have l3 := cell_regrown d3
      have k4 := cell_regrown c4
      have l4 := cell_regrown d4
      have k5 := cell_regrown c5
      have l5 := cell_regrown d5
      have k6 := cell_regrown c6
      have l6 := cell_regrown d6
      have k7 := cell_regrown c7
      have l7 := cell_regrown d7
      have k8 := cell_regrown c8
      have l8 := cell_regrown d8
      have k9 := cell_regrown c9
      have l9 := cell_regrown d9
      have k10 := cell_regrown c10
      have l10 := cell_regrown d10
      have k11 := cell_regrown c11
      have l11 := cell_regrown d11
      have k12 := cell_regrown c12
      have l12 := cell_regrown d12
      have k13 := cell_regrown c13
      have l13 := cell_regrown d13
      have cC := fun d os => Calls.regrown_of (w := wr) (d := d) (os := os) (HC.out _ ((below_regrown wr d os).mono hsz))
      have CC := Lib.hid cC
      clear c0 d0 c1 d1 c2 d2 c3 d3 c4 d4 c5 d5 c6 d6 c7 d7 c8 d8 c9 d9 c10 d10 c11 d11 c12 d12 c13 d13 cC
      refine wp_region_quiet_below (by kernel_rfl) (by kernel_rfl) ?_
      repeat (go_big_quiet_step (with_reducible first | exact CC.out _ _))
      refine wpQuiet_nil ?_
      intro _ hw'
      obtain ⟨⟨dq, osq⟩, hw''⟩ := hw'
      subst hw''
      have hwq := below_regrown wr dq osq
      generalize grow (redrawn wr dq) osq = w1 at hwq ⊢
      have HW := Lib.hid hwq
      clear hwq k0 l0 k1 l1 k2 l2 k3 l3 k4 l4 k5 l5 k6 l6 k7 l7 k8 l8 k9 l9 k10 l10 k11 l11 k12 l12 k13 l13
      go_wp2_with fail
      go_round
      case rel => exact ⟨k + 1, by omega, by go_num, HBW.out.trans (HW.out.mono hsz)⟩
      case measure => simp [intOf]; omega
    · obtain rfl : k = n := by omega
      have HBW := Lib.hid hbw
      clear hbw
      go_wp2_with fail
      go_ret
      exact ⟨rfl, HBW.out⟩
end Go.Proofs.Ytcooobnaocbdjaa
