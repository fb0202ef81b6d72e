/-
  Data with depth: more of the laws' types.
-/
import Derived.Test.YtcooobnaocbdjaaJoin7
namespace Go.Proofs.Ytcooobnaocbdjaa
open Go.RowKit Go.Sort
set_option linter.unusedVariables false
set_option linter.unusedSimpArgs false


abbrev dItem := Int × List Int
def shItem : Shape dItem := .struct (.cons Shape.int (.last (Shape.list Shape.int)))
theorem shItem_size : shItem.size = 2 := rfl
theorem shItem_reads {I : Nat → Prop} {w : World} {cs : List Value} {d : dItem} : shItem.reads I w cs d ↔ ∃ a0 n0 c0, cs = [.int .i64 d.1, .slice a0 n0 c0] ∧ (n0 ≤ c0 ∧ c0 ≤ 9223372036854775807 ∧ ListAt Shape.int I w a0 n0 d.2) := by
  constructor
  · rintro ⟨_, _, rfl, rfl, ⟨a0, n0, c0, rfl, g0⟩⟩
    exact ⟨a0, n0, c0, rfl, g0⟩
  · rintro ⟨a0, n0, c0, rfl, g0⟩
    exact ⟨_, _, rfl, rfl, ⟨a0, n0, c0, rfl, g0⟩⟩
theorem shItem_bulk (d : dItem) : shItem.bulk d = (Shape.list Shape.int).bulk d.2 := by
  simp only [shItem, Shape.struct, FieldsOf.cons, FieldsOf.last, Shape.int, Shape.bool]
  try omega
set_option maxRecDepth 100000 in
theorem szItem_c (w : World) (B : Nat) (es : List Value) (x : dItem) (L : Int) (h : shItem.reads (Under B) w es x) (hB : B ≤ w.heap.size) (h0 : 0 ≤ L) (h1 : L ≤ 1048576) :
    Calls Try.prog 111 #[.agg es.toArray, .int .i64 L] w fun e w' => e = .returned (.int .i64 (szN (shItem.bulk x) L)) ∧ Below w.heap.size w w' := by
  obtain ⟨a0, n0, c0, rfl, ⟨p0, r0, l0⟩⟩ := shItem_reads.1 h
  rw [shItem_bulk]
  have ha := (Below.refl w.heap.size w).alloc (Nat.le_refl _) (.cells #[.int .i64 x.1, .slice a0 n0 c0] 153 (0, 0))
  have hb0 := heap_alloc_new w (.cells #[.int .i64 x.1, .slice a0 n0 c0] 153 (0, 0))
  have hs0 : w.heap.size < (w.alloc (.cells #[.int .i64 x.1, .slice a0 n0 c0] 153 (0, 0))).heap.size := by simp
  have H0 := fun (w1 : World) (hb : Below w.heap.size w w1) (V : Int) (g0 : 0 ≤ V) (g1 : V ≤ 1048576) => szIntS_c w1 B a0 n0 c0 _ V (l0.below hb hB) (Nat.le_trans hB hb.size) (by omega) g0 g1
  obtain ⟨u0, hu0⟩ : ∃ u, (Shape.list Shape.int).bulk x.2 = u := ⟨_, rfl⟩
  simp only [hu0] at H0 ⊢
  replace H0 := Lib.hid H0
  have HA := Lib.hid ha
  have HB0 := Lib.hid hb0
  have HS0 := Lib.hid hs0
  clear ha hb0 hs0 h hu0
  clear p0 r0 l0
  obtain ⟨d, hd⟩ : ∃ d, d = szN (u0) L := ⟨_, rfl⟩
  rw [← hd]
  replace HD := Lib.hid hd
  clear hd
  by_cases f0 : (u0 : Int) ≤ L
  · have q0 := H0.out _ HA.out L (by omega) (by omega)
    rw [szN_yes f0] at q0
    obtain ⟨V0, hV0⟩ : ∃ V', L - (u0 : Int) = V' := ⟨_, rfl⟩
    rw [hV0] at q0
    have t0 : decide (V0 < 0) = false := decide_eq_false (by omega)
    have hdd : V0 = d := by rw [HD.out, szN_yes (by omega)]; omega
    subst hdd
    replace q0 := Lib.hid q0
    go_enter Try.func111, Try.ntmps111
    go_wp2_with fail
    refine q0.out.mono ?_
    rintro e w1 ⟨rfl, hb0⟩
    have B0 := Lib.hid (HA.out.trans (hb0.mono HA.out.size))
    clear hb0
    go_wp2_with fail
    go_ret
    exact ⟨rfl, B0.out⟩
  · have q0 := H0.out _ HA.out L (by omega) (by omega)
    rw [szN_no f0] at q0
    have hdd : d = -1 := by rw [HD.out]; exact szN_no (by omega)
    subst hdd
    replace q0 := Lib.hid q0
    go_enter Try.func111, Try.ntmps111
    go_wp2_with fail
    refine q0.out.mono ?_
    rintro e w1 ⟨rfl, hb0⟩
    have B0 := Lib.hid (HA.out.trans (hb0.mono HA.out.size))
    clear hb0
    go_wp2_with fail
    go_ret
    exact ⟨rfl, B0.out⟩
set_option maxRecDepth 100000 in
set_option maxHeartbeats 800000 in
theorem toItem_c (w : World) (B : Nat) (es : List Value) (x : dItem) (h : shItem.reads (Under B) w es x) (hB : B ≤ w.heap.size) (hb : shItem.bulk x ≤ 1048576) :
    Calls Try.prog 116 #[.agg es.toArray] w fun e w' => ∃ es', e = .returned (.agg es'.toArray) ∧ shItem.reads (From w.heap.size w'.heap.size) w' es' x ∧ Below w.heap.size w w' := by
  obtain ⟨a0, n0, c0, rfl, ⟨p0, r0, l0⟩⟩ := shItem_reads.1 h
  rw [shItem_bulk] at hb
  have m0 : n0 ≤ 1048576 := by have := bulk_list Shape.int l0; omega
  have H0 := Lib.hid fun (w1 : World) (hbw : Below w.heap.size w w1) => toIntS_c w1 B a0 n0 c0 _ (l0.below hbw hB) (Nat.le_trans hB hbw.size) (by omega)
  have hbx := Boxes.start w #[.int .i64 x.1, .slice a0 n0 c0] #[.int .i64 0, .slice none 0 0] #[.int .i64 x.1, .slice none 0 0] 153 117
  clear h hb l0 r0 p0
  go_enter Try.func116, Try.ntmps116
  go_wp2_with fail
  generalize ((w.alloc (.cells #[.int .i64 x.1, .slice a0 n0 c0] 153 (0, 0))).alloc (.cells #[.int .i64 0, .slice none 0 0] 117 (0, 0))).alloc (.cells #[.int .i64 x.1, .slice none 0 0] 117 (0, 0)) = v0 at hbx ⊢
  have BX0 := Lib.hid hbx
  clear hbx
  refine (H0.out v0 BX0.out.below).mono ?_
  rintro e w1 ⟨rfl, hr0, hb0⟩
  have hbx := BX0.out.call hb0
  have hlt0 := BX0.out.size
  have za0_0 : w1.cell? ⟨w.heap.size, 0, none⟩ = _ := cell_of_row _ _ _ _ _ _ hbx.a
  have za0_1 : w1.cell? ⟨w.heap.size, 1, none⟩ = _ := cell_of_row _ _ _ _ _ _ hbx.a
  have zo0_0 : w1.cell? ⟨w.heap.size + 1 + 1, 0, none⟩ = _ := cell_of_row _ _ _ _ _ _ hbx.o
  have zo0_1 : w1.cell? ⟨w.heap.size + 1 + 1, 1, none⟩ = _ := cell_of_row _ _ _ _ _ _ hbx.o
  have zr0_0 : w1.cell? ⟨w.heap.size + 1, 0, none⟩ = _ := cell_of_row _ _ _ _ _ _ hbx.z
  have zr0_1 : w1.cell? ⟨w.heap.size + 1, 1, none⟩ = _ := cell_of_row _ _ _ _ _ _ hbx.z
  have fo0_0 : w1.frozen? ⟨w.heap.size + 1 + 1, 0, none⟩ = false := frozen_of_row _ _ _ _ _ hbx.o
  have fr0_0 : w1.frozen? ⟨w.heap.size + 1, 0, none⟩ = false := frozen_of_row _ _ _ _ _ hbx.z
  have fo0_1 : w1.frozen? ⟨w.heap.size + 1 + 1, 1, none⟩ = false := frozen_of_row _ _ _ _ _ hbx.o
  have fr0_1 : w1.frozen? ⟨w.heap.size + 1, 1, none⟩ = false := frozen_of_row _ _ _ _ _ hbx.z
  simp only [List.setIfInBounds_toArray, List.set_cons_zero, List.set_cons_succ, List.getElem?_toArray, List.getElem?_cons_zero, List.getElem?_cons_succ] at za0_0 zo0_0 zr0_0 za0_1 zo0_1 zr0_1
  have N0_0 := hr0.lo (Nat.le_trans (by omega) hlt0 : w.heap.size + 3 ≤ v0.heap.size)
  have hby := (hbx.store 1 (.slice (some ⟨v0.heap.size, 0, none⟩) n0 n0))
  have O0_0 := (N0_0.stored (w.heap.size + 1 + 1) 1 (.slice (some ⟨v0.heap.size, 0, none⟩) n0 n0) (by omega))
  replace hby := Lib.hid hby
  replace O0_0 := Lib.hid O0_0
  clear N0_0
  clear hr0 hbx hb0
  go_wp2_with fail
  refine bodyPost_ret (results_cell_row rfl _ _ (w.heap.size + 1) 117 #[.int .i64 x.1, .slice (some ⟨v0.heap.size, 0, none⟩) n0 n0] (0, 0) _ rfl ?_ Try.underlying117 rfl (by kernel_rfl)) rfl ?_
  · exact hby.out.result [.int .i64 x.1, .slice (some ⟨v0.heap.size, 0, none⟩) n0 n0] rfl
  refine ⟨[.int .i64 x.1, .slice (some ⟨v0.heap.size, 0, none⟩) n0 n0], rfl, ?_, hby.out.last [.int .i64 x.1, .slice (some ⟨v0.heap.size, 0, none⟩) n0 n0]⟩
  exact shItem_reads.2 ⟨_, _, _, rfl, ⟨Nat.le_refl _, by omega, (O0_0.out.storedAll (w.heap.size + 1) 0 [.int .i64 x.1, .slice (some ⟨v0.heap.size, 0, none⟩) n0 n0] (by omega)).lo (by omega)⟩⟩
set_option maxRecDepth 100000 in
set_option maxHeartbeats 800000 in
theorem eqItem_c (w : World) (B B' : Nat) (es es' : List Value) (x : dItem) (h : shItem.reads (Under B) w es x) (h' : shItem.reads (Under B') w es' x) (hB : B ≤ w.heap.size) (hB' : B' ≤ w.heap.size) (hb : shItem.bulk x ≤ 1048576) :
    Calls Try.prog 119 #[.agg es.toArray, .agg es'.toArray] w fun e w' => e = .returned (.bool true) ∧ Below w.heap.size w w' := by
  obtain ⟨a0, n0, c0, rfl, ⟨-, -, l0⟩⟩ := shItem_reads.1 h
  obtain ⟨b0, nb0, cb0, rfl, ⟨-, -, m0⟩⟩ := shItem_reads.1 h'
  obtain rfl : nb0 = n0 := by rw [← l0.1, ← m0.1]
  rw [shItem_bulk] at hb
  have ha := ((Below.refl w.heap.size w).alloc (Nat.le_refl _) (.cells #[.int .i64 x.1, .slice a0 nb0 c0] 117 (0, 0))).alloc (by simp) (.cells #[.int .i64 x.1, .slice b0 nb0 cb0] 117 (0, 0))
  have hA : ((w.alloc (.cells #[.int .i64 x.1, .slice a0 nb0 c0] 117 (0, 0))).alloc (.cells #[.int .i64 x.1, .slice b0 nb0 cb0] 117 (0, 0))).heap[w.heap.size]? = some (.cells #[.int .i64 x.1, .slice a0 nb0 c0] 117 (0, 0)) := by
    rw [Below.heap_alloc _ _ _ (by simp)]
    exact heap_alloc_new w _
  have hC : ((w.alloc (.cells #[.int .i64 x.1, .slice a0 nb0 c0] 117 (0, 0))).alloc (.cells #[.int .i64 x.1, .slice b0 nb0 cb0] 117 (0, 0))).heap[w.heap.size + 1]? = some (.cells #[.int .i64 x.1, .slice b0 nb0 cb0] 117 (0, 0)) := by
    have := heap_alloc_new (w.alloc (.cells #[.int .i64 x.1, .slice a0 nb0 c0] 117 (0, 0))) (.cells #[.int .i64 x.1, .slice b0 nb0 cb0] 117 (0, 0))
    simpa using this
  have hS : w.heap.size + 1 < ((w.alloc (.cells #[.int .i64 x.1, .slice a0 nb0 c0] 117 (0, 0))).alloc (.cells #[.int .i64 x.1, .slice b0 nb0 cb0] 117 (0, 0))).heap.size := by simp
  have H0 := Lib.hid fun (w1 : World) (hbw : Below w.heap.size w w1) => eqIntS_c w1 B B' a0 b0 nb0 c0 cb0 _ (l0.below hbw hB) (m0.below hbw hB') (Nat.le_trans hB hbw.size) (Nat.le_trans hB' hbw.size) (by omega)
  have HA := Lib.hid ha
  have XA := Lib.hid hA
  have XC := Lib.hid hC
  have HS := Lib.hid hS
  clear h h' hb ha hA hC hS l0 m0
  go_enter Try.func119, Try.ntmps119
  go_wp2_with fail
  refine (H0.out _ HA.out).mono ?_
  rintro e w1 ⟨rfl, hb0⟩
  have B0 := Lib.hid (HA.out.trans (hb0.mono HA.out.size))
  clear hb0
  go_wp2_with fail
  go_ret
  exact ⟨rfl, B0.out⟩
set_option maxRecDepth 100000 in
set_option maxHeartbeats 1600000 in
theorem szItemS_c (w : World) (B : Nat) (a : Option Addr) (n c : Nat) (xs : List dItem) (L : Int) (h : ListAt shItem (Under B) w a n xs) (hB : B ≤ w.heap.size) (hn : n ≤ 9223372036854775807) (h0 : 0 ≤ L) (h1 : L ≤ 1048576) :
    Calls Try.prog 92 #[.slice a n c, .int .i64 L] w fun e w' => e = .returned (.int .i64 (szN ((Shape.list shItem).bulk xs) L)) ∧ Below w.heap.size w w' := by
  obtain ⟨d, hd⟩ : ∃ d, d = szN ((Shape.list shItem).bulk xs) L := ⟨_, rfl⟩
  rw [← hd]
  have hbk : (Shape.list shItem).bulk xs = n + Shape.sum shItem.bulk xs := by rw [← h.1]; rfl
  rw [hbk] at hd
  have HD := Lib.hid hd
  have HL := Lib.hid h
  clear hd hbk h
  by_cases hnL : (n : Int) ≤ L
  · have hw : wrap64 (L - n) = L - n := IntWalk.wrap64_in (L - n) (by omega)
    have hlt0 : decide (L - (n : Int) < 0) = false := decide_eq_false (by omega)
    obtain ⟨M, hM⟩ : ∃ M : Int, L - n = M := ⟨_, rfl⟩
    rw [hM] at hw hlt0
    go_enter Try.func92, Try.ntmps92
    go_wp2_with fail
    go_loopw [1, 5] (fun l i wr => ∃ (k : Nat) (V : Int), k ≤ n ∧ i = .int .i64 k ∧ l = .int .i64 V ∧ 0 ≤ V ∧ V ≤ 1048576 ∧ Hid (V = M - Shape.sum shItem.bulk (xs.take k)) ∧ Below w.heap.size w wr) (fun _ i _ => n - (intOf i).toNat)
    case atStart => exact ⟨0, M, Nat.zero_le _, rfl, rfl, by omega, by omega, Lib.hid (by simp [Shape.sum]), Below.refl _ _⟩
    case round =>
      obtain ⟨k, V, hk, rfl, rfl, hV0, hV1, hV, hbw⟩ := hrel
      by_cases hlt : k < n
      · have hx : ∃ x, xs[k]? = some x := ⟨_, List.getElem?_eq_getElem (by rw [HL.out.1]; exact hlt)⟩
        obtain ⟨x, hx⟩ := hx
        obtain ⟨b, o, es, rfl, hbB, hr, hs⟩ := HL.out.2 k x hx
        have hsz := hbw.size
        have hrr := rangeAt_kept hr (show b < w.heap.size from Nat.lt_of_lt_of_le hbB hB) (Kept.of_below (I := Under w.heap.size) hbw fun b hb => hb)
        have HS := Lib.hid (szItem_c wr _ es x V (shItem.below (shItem.le hs hB) hbw (Nat.le_refl _)) hsz hV0 hV1)
        have HST := Lib.hid (sum_take shItem.bulk xs k x hx)
        have HTL := Lib.hid (sum_take_le shItem.bulk xs (k + 1))
        have HBW := Lib.hid hbw
        obtain ⟨u, hu⟩ : ∃ u, shItem.bulk x = u := ⟨_, rfl⟩
        rw [hu] at HS HST
        obtain ⟨ae0, ne0, ce0, rfl, -⟩ := shItem_reads.1 hs
        rw [shItem_size] at hrr
        have c0 := hrr 0 _ rfl
        have c1 := hrr 1 _ rfl
        simp only [Nat.add_zero] at c0
        try dsimp only at c0 c1 HS
        clear hr hrr hs hx hu hbw
        by_cases hfit : (u : Int) ≤ V
        · rw [szN_yes hfit] at HS
          obtain ⟨V', hV'⟩ : ∃ V', V - (u : Int) = V' := ⟨_, rfl⟩
          rw [hV'] at HS
          have hneg : decide (V' < 0) = false := decide_eq_false (by omega)
          go_wp2_with fail
          refine HS.out.mono ?_
          rintro e w' ⟨rfl, hb2⟩
          have HB2 := Lib.hid hb2
          clear hb2
          go_wp2_with fail
          go_round
          case rel => exact ⟨k + 1, V', by omega, by go_num, rfl, by omega, by omega, Lib.hid (by have e1 := HST.out; have e2 := hV.out; omega), HBW.out.trans (HB2.out.mono hsz)⟩
          case measure => simp [intOf]; omega
        · rw [szN_no hfit] at HS
          have hdd : d = -1 := by
            rw [HD.out]
            refine szN_no ?_
            have e1 := HST.out
            have e2 := HTL.out
            have e3 := hV.out
            omega
          subst hdd
          go_wp2_with fail
          refine HS.out.mono ?_
          rintro e w' ⟨rfl, hb2⟩
          have HB2 := Lib.hid hb2
          clear hb2
          go_wp2_with fail
          go_ret
          exact ⟨rfl, HBW.out.trans (HB2.out.mono hsz)⟩
      · have hkn : k = n := by omega
        subst hkn
        have hdd : V = d := by
          rw [HD.out]
          have e1 := hV.out
          have e2 : xs.take k = xs := List.take_of_length_le (by rw [HL.out.1]; exact Nat.le_refl _)
          rw [e2] at e1
          rw [szN_yes (by omega)]
          omega
        subst hdd
        have HBW := Lib.hid hbw
        clear hbw
        go_wp2_with fail
        go_ret
        exact ⟨rfl, HBW.out⟩
  · have hdd : d = -1 := by rw [HD.out]; exact szN_no (by omega)
    subst hdd
    have hw : wrap64 (L - n) = L - n := IntWalk.wrap64_in (L - n) (by omega)
    have hlt0 : decide (L - (n : Int) < 0) = true := decide_eq_true (by omega)
    obtain ⟨M, hM⟩ : ∃ M : Int, L - n = M := ⟨_, rfl⟩
    rw [hM] at hw hlt0
    go_enter Try.func92, Try.ntmps92
    go_wp2_with fail
    go_ret
    exact ⟨rfl, Below.refl _ _⟩
theorem infoAll_Item : (Try.prog.info? 117).map (fun i => (i.zero, i.size, i.bytes)) = some (some (.agg #[.int .i64 0, .slice none 0 0]), 2, 32) := by kernel_rfl
set_option maxRecDepth 100000 in
set_option maxHeartbeats 1600000 in
theorem toItemS_c (w : World) (B : Nat) (a : Option Addr) (n c : Nat) (xs : List dItem) (h : ListAt shItem (Under B) w a n xs) (hB : B ≤ w.heap.size) (hb : (Shape.list shItem).bulk xs ≤ 1048576) :
    Calls Try.prog 99 #[.slice a n c] w fun e w' => e = .returned (.slice (some ⟨w.heap.size, 0, none⟩) n n) ∧ ListAt shItem (From w.heap.size w'.heap.size) w' (some ⟨w.heap.size, 0, none⟩) n xs ∧ Below w.heap.size w w' := by
  have hbk : (Shape.list shItem).bulk xs = n + Shape.sum shItem.bulk xs := by rw [← h.1]; rfl
  rw [hbk] at hb
  have hmk := run_make_many (P := Try.prog) 87 117 _ 2 32 Try.underlying87 infoAll_Item n (by omega) (by omega)
  have hst := Filled.start shItem w n xs (Value.agg #[.int .i64 0, .slice none 0 0]).cells 117
  replace hst := Lib.hid hst
  have HL := Lib.hid h
  have HB := Lib.hid hb
  have hn1 : n ≤ 1048576 := by omega
  clear hbk h hb
  go_enter Try.func99, Try.ntmps99
  go_wp2_with fail
  go_loopw [4] (fun i wr => ∃ k : Nat, k ≤ n ∧ i = .int .i64 k ∧ Filled shItem w wr n k xs) (fun i _ => n - (intOf i).toNat)
  case atStart => exact ⟨0, Nat.zero_le _, rfl, hst.out⟩
  case round =>
    obtain ⟨k, hk, rfl, hf⟩ := hrel
    by_cases hlt : k < n
    · obtain ⟨x, hx⟩ : ∃ x, xs[k]? = some x := ⟨_, List.getElem?_eq_getElem (by rw [HL.out.1]; exact hlt)⟩
      obtain ⟨b, o, es, rfl, hbB, hr, hs⟩ := HL.out.2 k x hx
      have hfb := hf.below
      have hfl := hf.lt
      have hth0 := hf.rest
      have hrr := rangeAt_kept hr (show b < w.heap.size from Nat.lt_of_lt_of_le hbB hB) (Kept.of_below (I := Under w.heap.size) hfb fun b hb => hb)
      have HS := Lib.hid (toItem_c wr _ es x (shItem.below (shItem.le hs hB) hfb (Nat.le_refl _)) (Nat.le_of_lt hfl) (by have h1 := bulk_mem shItem.bulk xs k x hx; have h2 := HB.out; omega))
      have HF := Lib.hid hf
      have HX := Lib.hid hx
      have HT := Lib.hid hth0
      obtain ⟨ae0, ne0, ce0, rfl, -⟩ := shItem_reads.1 hs
      rw [shItem_size] at hrr
      have c0 := hrr 0 _ rfl
      have c1 := hrr 1 _ rfl
      simp only [Nat.add_zero] at c0
      try dsimp only at c0 c1 HS
      clear hr hrr hs hx hf hth0
      go_wp2_with fail
      clear c0 c1
      refine HS.out.mono ?_
      rintro e w1 ⟨es', rfl, hs', hb1⟩
      have hn4 : 2 ≤ (n - k) * shItem.size := by rw [shItem_size]; omega
      have hth := there_below HT.out hb1 hfl
      have hN := HF.out.step hlt hb1 HX.out hs'
      have HN := Lib.hid hN
      have HB1 := Lib.hid hb1
      obtain ⟨af0, nf0, cf0, rfl, -⟩ := shItem_reads.1 hs'
      obtain ⟨⟨v0, d0⟩, f0⟩ := there_cell hth 0 (by omega)
      obtain ⟨⟨v1, d1⟩, f1⟩ := there_cell hth 1 (by omega)
      rw [shItem_size] at d0 d1 f0 f1
      simp only [Nat.add_zero] at d0 f0
      clear hs' hb1 hth hN
      go_wp2_with fail
      go_round
      case rel => exact ⟨k + 1, by omega, by go_num, HN.out⟩
      case measure => simp [intOf]; omega
    · obtain rfl : k = n := by omega
      have hz := hf.below
      have HF := Lib.hid hf
      clear hf hz
      go_wp2_with fail
      go_ret
      exact ⟨rfl, HF.out.list HL.out.1, HF.out.below⟩
set_option maxRecDepth 100000 in
set_option maxHeartbeats 1600000 in
theorem eqItemS_c (w : World) (B B' : Nat) (a a' : Option Addr) (n c c' : Nat) (xs : List dItem) (h : ListAt shItem (Under B) w a n xs) (h' : ListAt shItem (Under B') w a' n xs) (hB : B ≤ w.heap.size) (hB' : B' ≤ w.heap.size) (hb : (Shape.list shItem).bulk xs ≤ 1048576) :
    Calls Try.prog 104 #[.slice a n c, .slice a' n c'] w fun e w' => e = .returned (.bool true) ∧ Below w.heap.size w w' := by
  have hbk : (Shape.list shItem).bulk xs = n + Shape.sum shItem.bulk xs := by rw [← h.1]; rfl
  rw [hbk] at hb
  have hn1 : n ≤ 1048576 := by omega
  have HL := Lib.hid (h.le hB)
  have HL' := Lib.hid (h'.le hB')
  have HB := Lib.hid hb
  clear hbk h h' hb
  go_enter Try.func104, Try.ntmps104
  go_wp2_with fail
  go_loopw [5] (fun i wr => ∃ k : Nat, k ≤ n ∧ i = .int .i64 k ∧ Below w.heap.size w wr) (fun i _ => n - (intOf i).toNat)
  case atStart => exact ⟨0, Nat.zero_le _, rfl, Below.refl _ _⟩
  case round =>
    obtain ⟨k, hk, rfl, hbw⟩ := hrel
    by_cases hlt : k < n
    · obtain ⟨x, hx⟩ : ∃ x, xs[k]? = some x := ⟨_, List.getElem?_eq_getElem (by rw [HL.out.1]; exact hlt)⟩
      obtain ⟨b, o, es, rfl, hbB, hr, hs⟩ := HL.out.2 k x hx
      obtain ⟨b', o', es', rfl, hbB', hr', hs'⟩ := HL'.out.2 k x hx
      have hsz := hbw.size
      have hrr := rangeAt_kept hr (show b < w.heap.size from hbB) (Kept.of_below (I := Under w.heap.size) hbw fun b hb => hb)
      have hrr' := rangeAt_kept hr' (show b' < w.heap.size from hbB') (Kept.of_below (I := Under w.heap.size) hbw fun b hb => hb)
      have hsw := shItem.below hs hbw (Nat.le_refl _)
      have hsw' := shItem.below hs' hbw (Nat.le_refl _)
      have hbx : shItem.bulk x ≤ 1048576 := by have h1 := bulk_mem shItem.bulk xs k x hx; have h2 := HB.out; omega
      have HC := Lib.hid fun (w1 : World) (hb1 : Below w.heap.size wr w1) => eqItem_c w1 _ _ es es' x (shItem.below hsw hb1 (Nat.le_refl _)) (shItem.below hsw' hb1 (Nat.le_refl _)) (Nat.le_trans hsz hb1.size) (Nat.le_trans hsz hb1.size) hbx
      have HBW := Lib.hid hbw
      obtain ⟨ae0, ne0, ce0, rfl, -⟩ := shItem_reads.1 hs
      obtain ⟨af0, nf0, cf0, rfl, -⟩ := shItem_reads.1 hs'
      rw [shItem_size] at hrr hrr'
      have c0 := hrr 0 _ rfl
      have c1 := hrr 1 _ rfl
      have d0 := hrr' 0 _ rfl
      have d1 := hrr' 1 _ rfl
      simp only [Nat.add_zero] at c0 d0
      try dsimp only at c0 d0 c1 d1 HC
      clear hr hr' hrr hrr' hs hs' hsw hsw' hx hbw hbx
      go_upto_region 6 with fail
      have k0 := cell_regrown c0
      have l0 := cell_regrown d0
      have k1 := cell_regrown c1
      have l1 := cell_regrown d1
      have cC := fun d os => Calls.regrown_of (w := wr) (d := d) (os := os) (HC.out _ ((below_regrown wr d os).mono hsz))
      have CC := Lib.hid cC
      clear c0 d0 c1 d1 cC
      refine wp_region_quiet_below (by kernel_rfl) (by kernel_rfl) ?_
      repeat (go_big_quiet_step (with_reducible first | exact CC.out _ _))
      refine wpQuiet_nil ?_
      intro _ hw'
      obtain ⟨⟨dq, osq⟩, hw''⟩ := hw'
      subst hw''
      have hwq := below_regrown wr dq osq
      generalize grow (redrawn wr dq) osq = w1 at hwq ⊢
      have HW := Lib.hid hwq
      clear hwq k0 l0 k1 l1
      go_wp2_with fail
      go_round
      case rel => exact ⟨k + 1, by omega, by go_num, HBW.out.trans (HW.out.mono hsz)⟩
      case measure => simp [intOf]; omega
    · obtain rfl : k = n := by omega
      have HBW := Lib.hid hbw
      clear hbw
      go_wp2_with fail
      go_ret
      exact ⟨rfl, HBW.out⟩
abbrev dQueue := Int × List dItem
def shQueue : Shape dQueue := .struct (.cons Shape.int (.last (Shape.list shItem)))
theorem shQueue_size : shQueue.size = 2 := rfl
theorem shQueue_reads {I : Nat → Prop} {w : World} {cs : List Value} {d : dQueue} : shQueue.reads I w cs d ↔ ∃ a0 n0 c0, cs = [.int .i64 d.1, .slice a0 n0 c0] ∧ (n0 ≤ c0 ∧ c0 ≤ 9223372036854775807 ∧ ListAt shItem I w a0 n0 d.2) := by
  constructor
  · rintro ⟨_, _, rfl, rfl, ⟨a0, n0, c0, rfl, g0⟩⟩
    exact ⟨a0, n0, c0, rfl, g0⟩
  · rintro ⟨a0, n0, c0, rfl, g0⟩
    exact ⟨_, _, rfl, rfl, ⟨a0, n0, c0, rfl, g0⟩⟩
theorem shQueue_bulk (d : dQueue) : shQueue.bulk d = (Shape.list shItem).bulk d.2 := by
  simp only [shQueue, Shape.struct, FieldsOf.cons, FieldsOf.last, Shape.int, Shape.bool]
  try omega
set_option maxRecDepth 100000 in
theorem szQueue_c (w : World) (B : Nat) (es : List Value) (x : dQueue) (L : Int) (h : shQueue.reads (Under B) w es x) (hB : B ≤ w.heap.size) (h0 : 0 ≤ L) (h1 : L ≤ 1048576) :
    Calls Try.prog 58 #[.agg es.toArray, .int .i64 L] w fun e w' => e = .returned (.int .i64 (szN (shQueue.bulk x) L)) ∧ Below w.heap.size w w' := by
  obtain ⟨a0, n0, c0, rfl, ⟨p0, r0, l0⟩⟩ := shQueue_reads.1 h
  rw [shQueue_bulk]
  have ha := (Below.refl w.heap.size w).alloc (Nat.le_refl _) (.cells #[.int .i64 x.1, .slice a0 n0 c0] 105 (0, 0))
  have hb0 := heap_alloc_new w (.cells #[.int .i64 x.1, .slice a0 n0 c0] 105 (0, 0))
  have hs0 : w.heap.size < (w.alloc (.cells #[.int .i64 x.1, .slice a0 n0 c0] 105 (0, 0))).heap.size := by simp
  have H0 := fun (w1 : World) (hb : Below w.heap.size w w1) (V : Int) (g0 : 0 ≤ V) (g1 : V ≤ 1048576) => szItemS_c w1 B a0 n0 c0 _ V (l0.below hb hB) (Nat.le_trans hB hb.size) (by omega) g0 g1
  obtain ⟨u0, hu0⟩ : ∃ u, (Shape.list shItem).bulk x.2 = u := ⟨_, rfl⟩
  simp only [hu0] at H0 ⊢
  replace H0 := Lib.hid H0
  have HA := Lib.hid ha
  have HB0 := Lib.hid hb0
  have HS0 := Lib.hid hs0
  clear ha hb0 hs0 h hu0
  clear p0 r0 l0
  obtain ⟨d, hd⟩ : ∃ d, d = szN (u0) L := ⟨_, rfl⟩
  rw [← hd]
  replace HD := Lib.hid hd
  clear hd
  by_cases f0 : (u0 : Int) ≤ L
  · have q0 := H0.out _ HA.out L (by omega) (by omega)
    rw [szN_yes f0] at q0
    obtain ⟨V0, hV0⟩ : ∃ V', L - (u0 : Int) = V' := ⟨_, rfl⟩
    rw [hV0] at q0
    have t0 : decide (V0 < 0) = false := decide_eq_false (by omega)
    have hdd : V0 = d := by rw [HD.out, szN_yes (by omega)]; omega
    subst hdd
    replace q0 := Lib.hid q0
    go_enter Try.func58, Try.ntmps58
    go_wp2_with fail
    refine q0.out.mono ?_
    rintro e w1 ⟨rfl, hb0⟩
    have B0 := Lib.hid (HA.out.trans (hb0.mono HA.out.size))
    clear hb0
    go_wp2_with fail
    go_ret
    exact ⟨rfl, B0.out⟩
  · have q0 := H0.out _ HA.out L (by omega) (by omega)
    rw [szN_no f0] at q0
    have hdd : d = -1 := by rw [HD.out]; exact szN_no (by omega)
    subst hdd
    replace q0 := Lib.hid q0
    go_enter Try.func58, Try.ntmps58
    go_wp2_with fail
    refine q0.out.mono ?_
    rintro e w1 ⟨rfl, hb0⟩
    have B0 := Lib.hid (HA.out.trans (hb0.mono HA.out.size))
    clear hb0
    go_wp2_with fail
    go_ret
    exact ⟨rfl, B0.out⟩
set_option maxRecDepth 100000 in
set_option maxHeartbeats 800000 in
theorem toQueue_c (w : World) (B : Nat) (es : List Value) (x : dQueue) (h : shQueue.reads (Under B) w es x) (hB : B ≤ w.heap.size) (hb : shQueue.bulk x ≤ 1048576) :
    Calls Try.prog 61 #[.agg es.toArray] w fun e w' => ∃ es', e = .returned (.agg es'.toArray) ∧ shQueue.reads (From w.heap.size w'.heap.size) w' es' x ∧ Below w.heap.size w w' := by
  obtain ⟨a0, n0, c0, rfl, ⟨p0, r0, l0⟩⟩ := shQueue_reads.1 h
  rw [shQueue_bulk] at hb
  have m0 : n0 ≤ 1048576 := by have := bulk_list shItem l0; omega
  have H0 := Lib.hid fun (w1 : World) (hbw : Below w.heap.size w w1) => toItemS_c w1 B a0 n0 c0 _ (l0.below hbw hB) (Nat.le_trans hB hbw.size) (by omega)
  have hbx := Boxes.start w #[.int .i64 x.1, .slice a0 n0 c0] #[.int .i64 0, .slice none 0 0] #[.int .i64 x.1, .slice none 0 0] 105 89
  clear h hb l0 r0 p0
  go_enter Try.func61, Try.ntmps61
  go_wp2_with fail
  generalize ((w.alloc (.cells #[.int .i64 x.1, .slice a0 n0 c0] 105 (0, 0))).alloc (.cells #[.int .i64 0, .slice none 0 0] 89 (0, 0))).alloc (.cells #[.int .i64 x.1, .slice none 0 0] 89 (0, 0)) = v0 at hbx ⊢
  have BX0 := Lib.hid hbx
  clear hbx
  refine (H0.out v0 BX0.out.below).mono ?_
  rintro e w1 ⟨rfl, hr0, hb0⟩
  have hbx := BX0.out.call hb0
  have hlt0 := BX0.out.size
  have za0_0 : w1.cell? ⟨w.heap.size, 0, none⟩ = _ := cell_of_row _ _ _ _ _ _ hbx.a
  have za0_1 : w1.cell? ⟨w.heap.size, 1, none⟩ = _ := cell_of_row _ _ _ _ _ _ hbx.a
  have zo0_0 : w1.cell? ⟨w.heap.size + 1 + 1, 0, none⟩ = _ := cell_of_row _ _ _ _ _ _ hbx.o
  have zo0_1 : w1.cell? ⟨w.heap.size + 1 + 1, 1, none⟩ = _ := cell_of_row _ _ _ _ _ _ hbx.o
  have zr0_0 : w1.cell? ⟨w.heap.size + 1, 0, none⟩ = _ := cell_of_row _ _ _ _ _ _ hbx.z
  have zr0_1 : w1.cell? ⟨w.heap.size + 1, 1, none⟩ = _ := cell_of_row _ _ _ _ _ _ hbx.z
  have fo0_0 : w1.frozen? ⟨w.heap.size + 1 + 1, 0, none⟩ = false := frozen_of_row _ _ _ _ _ hbx.o
  have fr0_0 : w1.frozen? ⟨w.heap.size + 1, 0, none⟩ = false := frozen_of_row _ _ _ _ _ hbx.z
  have fo0_1 : w1.frozen? ⟨w.heap.size + 1 + 1, 1, none⟩ = false := frozen_of_row _ _ _ _ _ hbx.o
  have fr0_1 : w1.frozen? ⟨w.heap.size + 1, 1, none⟩ = false := frozen_of_row _ _ _ _ _ hbx.z
  simp only [List.setIfInBounds_toArray, List.set_cons_zero, List.set_cons_succ, List.getElem?_toArray, List.getElem?_cons_zero, List.getElem?_cons_succ] at za0_0 zo0_0 zr0_0 za0_1 zo0_1 zr0_1
  have N0_0 := hr0.lo (Nat.le_trans (by omega) hlt0 : w.heap.size + 3 ≤ v0.heap.size)
  have hby := (hbx.store 1 (.slice (some ⟨v0.heap.size, 0, none⟩) n0 n0))
  have O0_0 := (N0_0.stored (w.heap.size + 1 + 1) 1 (.slice (some ⟨v0.heap.size, 0, none⟩) n0 n0) (by omega))
  replace hby := Lib.hid hby
  replace O0_0 := Lib.hid O0_0
  clear N0_0
  clear hr0 hbx hb0
  go_wp2_with fail
  refine bodyPost_ret (results_cell_row rfl _ _ (w.heap.size + 1) 89 #[.int .i64 x.1, .slice (some ⟨v0.heap.size, 0, none⟩) n0 n0] (0, 0) _ rfl ?_ Try.underlying89 rfl (by kernel_rfl)) rfl ?_
  · exact hby.out.result [.int .i64 x.1, .slice (some ⟨v0.heap.size, 0, none⟩) n0 n0] rfl
  refine ⟨[.int .i64 x.1, .slice (some ⟨v0.heap.size, 0, none⟩) n0 n0], rfl, ?_, hby.out.last [.int .i64 x.1, .slice (some ⟨v0.heap.size, 0, none⟩) n0 n0]⟩
  exact shQueue_reads.2 ⟨_, _, _, rfl, ⟨Nat.le_refl _, by omega, (O0_0.out.storedAll (w.heap.size + 1) 0 [.int .i64 x.1, .slice (some ⟨v0.heap.size, 0, none⟩) n0 n0] (by omega)).lo (by omega)⟩⟩
set_option maxRecDepth 100000 in
set_option maxHeartbeats 800000 in
theorem eqQueue_c (w : World) (B B' : Nat) (es es' : List Value) (x : dQueue) (h : shQueue.reads (Under B) w es x) (h' : shQueue.reads (Under B') w es' x) (hB : B ≤ w.heap.size) (hB' : B' ≤ w.heap.size) (hb : shQueue.bulk x ≤ 1048576) :
    Calls Try.prog 64 #[.agg es.toArray, .agg es'.toArray] w fun e w' => e = .returned (.bool true) ∧ Below w.heap.size w w' := by
  obtain ⟨a0, n0, c0, rfl, ⟨-, -, l0⟩⟩ := shQueue_reads.1 h
  obtain ⟨b0, nb0, cb0, rfl, ⟨-, -, m0⟩⟩ := shQueue_reads.1 h'
  obtain rfl : nb0 = n0 := by rw [← l0.1, ← m0.1]
  rw [shQueue_bulk] at hb
  have ha := ((Below.refl w.heap.size w).alloc (Nat.le_refl _) (.cells #[.int .i64 x.1, .slice a0 nb0 c0] 89 (0, 0))).alloc (by simp) (.cells #[.int .i64 x.1, .slice b0 nb0 cb0] 89 (0, 0))
  have hA : ((w.alloc (.cells #[.int .i64 x.1, .slice a0 nb0 c0] 89 (0, 0))).alloc (.cells #[.int .i64 x.1, .slice b0 nb0 cb0] 89 (0, 0))).heap[w.heap.size]? = some (.cells #[.int .i64 x.1, .slice a0 nb0 c0] 89 (0, 0)) := by
    rw [Below.heap_alloc _ _ _ (by simp)]
    exact heap_alloc_new w _
  have hC : ((w.alloc (.cells #[.int .i64 x.1, .slice a0 nb0 c0] 89 (0, 0))).alloc (.cells #[.int .i64 x.1, .slice b0 nb0 cb0] 89 (0, 0))).heap[w.heap.size + 1]? = some (.cells #[.int .i64 x.1, .slice b0 nb0 cb0] 89 (0, 0)) := by
    have := heap_alloc_new (w.alloc (.cells #[.int .i64 x.1, .slice a0 nb0 c0] 89 (0, 0))) (.cells #[.int .i64 x.1, .slice b0 nb0 cb0] 89 (0, 0))
    simpa using this
  have hS : w.heap.size + 1 < ((w.alloc (.cells #[.int .i64 x.1, .slice a0 nb0 c0] 89 (0, 0))).alloc (.cells #[.int .i64 x.1, .slice b0 nb0 cb0] 89 (0, 0))).heap.size := by simp
  have H0 := Lib.hid fun (w1 : World) (hbw : Below w.heap.size w w1) => eqItemS_c w1 B B' a0 b0 nb0 c0 cb0 _ (l0.below hbw hB) (m0.below hbw hB') (Nat.le_trans hB hbw.size) (Nat.le_trans hB' hbw.size) (by omega)
  have HA := Lib.hid ha
  have XA := Lib.hid hA
  have XC := Lib.hid hC
  have HS := Lib.hid hS
  clear h h' hb ha hA hC hS l0 m0
  go_enter Try.func64, Try.ntmps64
  go_wp2_with fail
  refine (H0.out _ HA.out).mono ?_
  rintro e w1 ⟨rfl, hb0⟩
  have B0 := Lib.hid (HA.out.trans (hb0.mono HA.out.size))
  clear hb0
  go_wp2_with fail
  go_ret
  exact ⟨rfl, B0.out⟩
set_option maxRecDepth 100000 in
set_option maxHeartbeats 1600000 in
theorem szQueueS_c (w : World) (B : Nat) (a : Option Addr) (n c : Nat) (xs : List dQueue) (L : Int) (h : ListAt shQueue (Under B) w a n xs) (hB : B ≤ w.heap.size) (hn : n ≤ 9223372036854775807) (h0 : 0 ≤ L) (h1 : L ≤ 1048576) :
    Calls Try.prog 28 #[.slice a n c, .int .i64 L] w fun e w' => e = .returned (.int .i64 (szN ((Shape.list shQueue).bulk xs) L)) ∧ Below w.heap.size w w' := by
  obtain ⟨d, hd⟩ : ∃ d, d = szN ((Shape.list shQueue).bulk xs) L := ⟨_, rfl⟩
  rw [← hd]
  have hbk : (Shape.list shQueue).bulk xs = n + Shape.sum shQueue.bulk xs := by rw [← h.1]; rfl
  rw [hbk] at hd
  have HD := Lib.hid hd
  have HL := Lib.hid h
  clear hd hbk h
  by_cases hnL : (n : Int) ≤ L
  · have hw : wrap64 (L - n) = L - n := IntWalk.wrap64_in (L - n) (by omega)
    have hlt0 : decide (L - (n : Int) < 0) = false := decide_eq_false (by omega)
    obtain ⟨M, hM⟩ : ∃ M : Int, L - n = M := ⟨_, rfl⟩
    rw [hM] at hw hlt0
    go_enter Try.func28, Try.ntmps28
    go_wp2_with fail
    go_loopw [1, 5] (fun l i wr => ∃ (k : Nat) (V : Int), k ≤ n ∧ i = .int .i64 k ∧ l = .int .i64 V ∧ 0 ≤ V ∧ V ≤ 1048576 ∧ Hid (V = M - Shape.sum shQueue.bulk (xs.take k)) ∧ Below w.heap.size w wr) (fun _ i _ => n - (intOf i).toNat)
    case atStart => exact ⟨0, M, Nat.zero_le _, rfl, rfl, by omega, by omega, Lib.hid (by simp [Shape.sum]), Below.refl _ _⟩
    case round =>
      obtain ⟨k, V, hk, rfl, rfl, hV0, hV1, hV, hbw⟩ := hrel
      by_cases hlt : k < n
      · have hx : ∃ x, xs[k]? = some x := ⟨_, List.getElem?_eq_getElem (by rw [HL.out.1]; exact hlt)⟩
        obtain ⟨x, hx⟩ := hx
        obtain ⟨b, o, es, rfl, hbB, hr, hs⟩ := HL.out.2 k x hx
        have hsz := hbw.size
        have hrr := rangeAt_kept hr (show b < w.heap.size from Nat.lt_of_lt_of_le hbB hB) (Kept.of_below (I := Under w.heap.size) hbw fun b hb => hb)
        have HS := Lib.hid (szQueue_c wr _ es x V (shQueue.below (shQueue.le hs hB) hbw (Nat.le_refl _)) hsz hV0 hV1)
        have HST := Lib.hid (sum_take shQueue.bulk xs k x hx)
        have HTL := Lib.hid (sum_take_le shQueue.bulk xs (k + 1))
        have HBW := Lib.hid hbw
        obtain ⟨u, hu⟩ : ∃ u, shQueue.bulk x = u := ⟨_, rfl⟩
        rw [hu] at HS HST
        obtain ⟨ae0, ne0, ce0, rfl, -⟩ := shQueue_reads.1 hs
        rw [shQueue_size] at hrr
        have c0 := hrr 0 _ rfl
        have c1 := hrr 1 _ rfl
        simp only [Nat.add_zero] at c0
        try dsimp only at c0 c1 HS
        clear hr hrr hs hx hu hbw
        by_cases hfit : (u : Int) ≤ V
        · rw [szN_yes hfit] at HS
          obtain ⟨V', hV'⟩ : ∃ V', V - (u : Int) = V' := ⟨_, rfl⟩
          rw [hV'] at HS
          have hneg : decide (V' < 0) = false := decide_eq_false (by omega)
          go_wp2_with fail
          refine HS.out.mono ?_
          rintro e w' ⟨rfl, hb2⟩
          have HB2 := Lib.hid hb2
          clear hb2
          go_wp2_with fail
          go_round
          case rel => exact ⟨k + 1, V', by omega, by go_num, rfl, by omega, by omega, Lib.hid (by have e1 := HST.out; have e2 := hV.out; omega), HBW.out.trans (HB2.out.mono hsz)⟩
          case measure => simp [intOf]; omega
        · rw [szN_no hfit] at HS
          have hdd : d = -1 := by
            rw [HD.out]
            refine szN_no ?_
            have e1 := HST.out
            have e2 := HTL.out
            have e3 := hV.out
            omega
          subst hdd
          go_wp2_with fail
          refine HS.out.mono ?_
          rintro e w' ⟨rfl, hb2⟩
          have HB2 := Lib.hid hb2
          clear hb2
          go_wp2_with fail
          go_ret
          exact ⟨rfl, HBW.out.trans (HB2.out.mono hsz)⟩
      · have hkn : k = n := by omega
        subst hkn
        have hdd : V = d := by
          rw [HD.out]
          have e1 := hV.out
          have e2 : xs.take k = xs := List.take_of_length_le (by rw [HL.out.1]; exact Nat.le_refl _)
          rw [e2] at e1
          rw [szN_yes (by omega)]
          omega
        subst hdd
        have HBW := Lib.hid hbw
        clear hbw
        go_wp2_with fail
        go_ret
        exact ⟨rfl, HBW.out⟩
  · have hdd : d = -1 := by rw [HD.out]; exact szN_no (by omega)
    subst hdd
    have hw : wrap64 (L - n) = L - n := IntWalk.wrap64_in (L - n) (by omega)
    have hlt0 : decide (L - (n : Int) < 0) = true := decide_eq_true (by omega)
    obtain ⟨M, hM⟩ : ∃ M : Int, L - n = M := ⟨_, rfl⟩
    rw [hM] at hw hlt0
    go_enter Try.func28, Try.ntmps28
    go_wp2_with fail
    go_ret
    exact ⟨rfl, Below.refl _ _⟩
theorem infoAll_Queue : (Try.prog.info? 89).map (fun i => (i.zero, i.size, i.bytes)) = some (some (.agg #[.int .i64 0, .slice none 0 0]), 2, 32) := by kernel_rfl
set_option maxRecDepth 100000 in
set_option maxHeartbeats 1600000 in
theorem toQueueS_c (w : World) (B : Nat) (a : Option Addr) (n c : Nat) (xs : List dQueue) (h : ListAt shQueue (Under B) w a n xs) (hB : B ≤ w.heap.size) (hb : (Shape.list shQueue).bulk xs ≤ 1048576) :
    Calls Try.prog 32 #[.slice a n c] w fun e w' => e = .returned (.slice (some ⟨w.heap.size, 0, none⟩) n n) ∧ ListAt shQueue (From w.heap.size w'.heap.size) w' (some ⟨w.heap.size, 0, none⟩) n xs ∧ Below w.heap.size w w' := by
  have hbk : (Shape.list shQueue).bulk xs = n + Shape.sum shQueue.bulk xs := by rw [← h.1]; rfl
  rw [hbk] at hb
  have hmk := run_make_many (P := Try.prog) 33 89 _ 2 32 Try.underlying33 infoAll_Queue n (by omega) (by omega)
  have hst := Filled.start shQueue w n xs (Value.agg #[.int .i64 0, .slice none 0 0]).cells 89
  replace hst := Lib.hid hst
  have HL := Lib.hid h
  have HB := Lib.hid hb
  have hn1 : n ≤ 1048576 := by omega
  clear hbk h hb
  go_enter Try.func32, Try.ntmps32
  go_wp2_with fail
  go_loopw [4] (fun i wr => ∃ k : Nat, k ≤ n ∧ i = .int .i64 k ∧ Filled shQueue w wr n k xs) (fun i _ => n - (intOf i).toNat)
  case atStart => exact ⟨0, Nat.zero_le _, rfl, hst.out⟩
  case round =>
    obtain ⟨k, hk, rfl, hf⟩ := hrel
    by_cases hlt : k < n
    · obtain ⟨x, hx⟩ : ∃ x, xs[k]? = some x := ⟨_, List.getElem?_eq_getElem (by rw [HL.out.1]; exact hlt)⟩
      obtain ⟨b, o, es, rfl, hbB, hr, hs⟩ := HL.out.2 k x hx
      have hfb := hf.below
      have hfl := hf.lt
      have hth0 := hf.rest
      have hrr := rangeAt_kept hr (show b < w.heap.size from Nat.lt_of_lt_of_le hbB hB) (Kept.of_below (I := Under w.heap.size) hfb fun b hb => hb)
      have HS := Lib.hid (toQueue_c wr _ es x (shQueue.below (shQueue.le hs hB) hfb (Nat.le_refl _)) (Nat.le_of_lt hfl) (by have h1 := bulk_mem shQueue.bulk xs k x hx; have h2 := HB.out; omega))
      have HF := Lib.hid hf
      have HX := Lib.hid hx
      have HT := Lib.hid hth0
      obtain ⟨ae0, ne0, ce0, rfl, -⟩ := shQueue_reads.1 hs
      rw [shQueue_size] at hrr
      have c0 := hrr 0 _ rfl
      have c1 := hrr 1 _ rfl
      simp only [Nat.add_zero] at c0
      try dsimp only at c0 c1 HS
      clear hr hrr hs hx hf hth0
      go_wp2_with fail
      clear c0 c1
      refine HS.out.mono ?_
      rintro e w1 ⟨es', rfl, hs', hb1⟩
      have hn4 : 2 ≤ (n - k) * shQueue.size := by rw [shQueue_size]; omega
      have hth := there_below HT.out hb1 hfl
      have hN := HF.out.step hlt hb1 HX.out hs'
      have HN := Lib.hid hN
      have HB1 := Lib.hid hb1
      obtain ⟨af0, nf0, cf0, rfl, -⟩ := shQueue_reads.1 hs'
      obtain ⟨⟨v0, d0⟩, f0⟩ := there_cell hth 0 (by omega)
      obtain ⟨⟨v1, d1⟩, f1⟩ := there_cell hth 1 (by omega)
      rw [shQueue_size] at d0 d1 f0 f1
      simp only [Nat.add_zero] at d0 f0
      clear hs' hb1 hth hN
      go_wp2_with fail
      go_round
      case rel => exact ⟨k + 1, by omega, by go_num, HN.out⟩
      case measure => simp [intOf]; omega
    · obtain rfl : k = n := by omega
      have hz := hf.below
      have HF := Lib.hid hf
      clear hf hz
      go_wp2_with fail
      go_ret
      exact ⟨rfl, HF.out.list HL.out.1, HF.out.below⟩
set_option maxRecDepth 100000 in
set_option maxHeartbeats 1600000 in
theorem eqQueueS_c (w : World) (B B' : Nat) (a a' : Option Addr) (n c c' : Nat) (xs : List dQueue) (h : ListAt shQueue (Under B) w a n xs) (h' : ListAt shQueue (Under B') w a' n xs) (hB : B ≤ w.heap.size) (hB' : B' ≤ w.heap.size) (hb : (Shape.list shQueue).bulk xs ≤ 1048576) :
    Calls Try.prog 36 #[.slice a n c, .slice a' n c'] w fun e w' => e = .returned (.bool true) ∧ Below w.heap.size w w' := by
  have hbk : (Shape.list shQueue).bulk xs = n + Shape.sum shQueue.bulk xs := by rw [← h.1]; rfl
  rw [hbk] at hb
  have hn1 : n ≤ 1048576 := by omega
  have HL := Lib.hid (h.le hB)
  have HL' := Lib.hid (h'.le hB')
  have HB := Lib.hid hb
  clear hbk h h' hb
  go_enter Try.func36, Try.ntmps36
  go_wp2_with fail
  go_loopw [5] (fun i wr => ∃ k : Nat, k ≤ n ∧ i = .int .i64 k ∧ Below w.heap.size w wr) (fun i _ => n - (intOf i).toNat)
  case atStart => exact ⟨0, Nat.zero_le _, rfl, Below.refl _ _⟩
  case round =>
    obtain ⟨k, hk, rfl, hbw⟩ := hrel
    by_cases hlt : k < n
    · obtain ⟨x, hx⟩ : ∃ x, xs[k]? = some x := ⟨_, List.getElem?_eq_getElem (by rw [HL.out.1]; exact hlt)⟩
      obtain ⟨b, o, es, rfl, hbB, hr, hs⟩ := HL.out.2 k x hx
      obtain ⟨b', o', es', rfl, hbB', hr', hs'⟩ := HL'.out.2 k x hx
      have hsz := hbw.size
      have hrr := rangeAt_kept hr (show b < w.heap.size from hbB) (Kept.of_below (I := Under w.heap.size) hbw fun b hb => hb)
      have hrr' := rangeAt_kept hr' (show b' < w.heap.size from hbB') (Kept.of_below (I := Under w.heap.size) hbw fun b hb => hb)
      have hsw := shQueue.below hs hbw (Nat.le_refl _)
      have hsw' := shQueue.below hs' hbw (Nat.le_refl _)
      have hbx : shQueue.bulk x ≤ 1048576 := by have h1 := bulk_mem shQueue.bulk xs k x hx; have h2 := HB.out; omega
      have HC := Lib.hid fun (w1 : World) (hb1 : Below w.heap.size wr w1) => eqQueue_c w1 _ _ es es' x (shQueue.below hsw hb1 (Nat.le_refl _)) (shQueue.below hsw' hb1 (Nat.le_refl _)) (Nat.le_trans hsz hb1.size) (Nat.le_trans hsz hb1.size) hbx
      have HBW := Lib.hid hbw
      obtain ⟨ae0, ne0, ce0, rfl, -⟩ := shQueue_reads.1 hs
      obtain ⟨af0, nf0, cf0, rfl, -⟩ := shQueue_reads.1 hs'
      rw [shQueue_size] at hrr hrr'
      have c0 := hrr 0 _ rfl
      have c1 := hrr 1 _ rfl
      have d0 := hrr' 0 _ rfl
      have d1 := hrr' 1 _ rfl
      simp only [Nat.add_zero] at c0 d0
      try dsimp only at c0 d0 c1 d1 HC
      clear hr hr' hrr hrr' hs hs' hsw hsw' hx hbw hbx
      go_upto_region 6 with fail
      have k0 := cell_regrown c0
      have l0 := cell_regrown d0
      have k1 := cell_regrown c1
      have l1 := cell_regrown d1
      have cC := fun d os => Calls.regrown_of (w := wr) (d := d) (os := os) (HC.out _ ((below_regrown wr d os).mono hsz))
      have CC := Lib.hid cC
      clear c0 d0 c1 d1 cC
      refine wp_region_quiet_below (by kernel_rfl) (by kernel_rfl) ?_
      repeat (go_big_quiet_step (with_reducible first | exact CC.out _ _))
      refine wpQuiet_nil ?_
      intro _ hw'
      obtain ⟨⟨dq, osq⟩, hw''⟩ := hw'
      subst hw''
      have hwq := below_regrown wr dq osq
      generalize grow (redrawn wr dq) osq = w1 at hwq ⊢
      have HW := Lib.hid hwq
      clear hwq k0 l0 k1 l1
      go_wp2_with fail
      go_round
      case rel => exact ⟨k + 1, by omega, by go_num, HBW.out.trans (HW.out.mono hsz)⟩
      case measure => simp [intOf]; omega
    · obtain rfl : k = n := by omega
      have HBW := Lib.hid hbw
      clear hbw
      go_wp2_with fail
      go_ret
      exact ⟨rfl, HBW.out⟩
end Go.Proofs.Ytcooobnaocbdjaa
