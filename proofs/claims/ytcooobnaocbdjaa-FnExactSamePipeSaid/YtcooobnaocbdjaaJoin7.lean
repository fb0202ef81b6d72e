/-
  Data with depth: the shapes of the laws' types, the small functions of the exact laws over them.
-/
import Derived.Test.YtcooobnaocbdjaaJoin2
import Derived.Deep.DeepCutAuto
import Derived.Deep.RegionLaw
import Derived.Lib.QuietBelow
import Derived.Test.YtcooobnaocbdjaaJoin6
namespace Go.Proofs.Ytcooobnaocbdjaa
open Go.RowKit Go.Sort
set_option linter.unusedVariables false
set_option linter.unusedSimpArgs false

theorem szIntS_c (w : World) (B : Nat) (a : Option Addr) (n c : Nat) (xs : List Int) (L : Int) (h : ListAt Shape.int (Under B) w a n xs) (hB : B ≤ w.heap.size) (hn : n ≤ 9223372036854775807) (h0 : 0 ≤ L) (h1 : L ≤ 1048576) :
    Calls Try.prog 86 #[.slice a n c, .int .i64 L] w fun e w' => e = .returned (.int .i64 (szN ((Shape.list Shape.int).bulk xs) L)) ∧ Below w.heap.size w w' := by
  rw [bulk_ints, h.1]
  by_cases hL : (n : Int) ≤ L
  · rw [szN_yes hL]
    exact (szIntS_ok w a n c L hL h1).mono fun e w' h => ⟨h.1, h.2 ▸ Below.refl _ _⟩
  · rw [szN_no hL]
    exact (szIntS_big w a n c L (by omega) h0 h1 hn).mono fun e w' h => ⟨h.1, h.2 ▸ Below.refl _ _⟩
/-- A row of the call's own, as a list. -/
theorem Row.listAt {base : Nat} {w : World} {v : Value} {xs : List Int} (h : Row base w v xs) : (Shape.list Shape.int).reads (From base w.heap.size) w [v] xs := by
  have hcs := fun g (h' : v.ownBlock = some g) => World.ownsRow.cells h (g := g) h'
  have hlt := World.ownsRow.lt h
  rcases h.2 with ⟨rfl, hn⟩ | ⟨g, cap, cur, rfl, _, hg, hc, hm, _⟩
  · obtain rfl : xs = [] := List.eq_nil_of_length_eq_zero hn
    exact ⟨none, 0, 0, rfl, Nat.le_refl _, by omega, rfl, fun j x hx => by simp at hx⟩
  · unfold maxLen at hm
    refine ⟨_, xs.length, cap, rfl, by omega, by omega, rfl, fun j x hx => ?_⟩
    have hj := (List.getElem?_eq_some_iff.1 hx).1
    have hxe : xs.getD j 0 = x := by rw [List.getD_eq_getElem?_getD, hx]; rfl
    refine ⟨g, 0, [.int .i64 x], rfl, hlt g rfl, fun i v hv => ?_, rfl⟩
    have := hcs g rfl j _ (icells_get xs j hj)
    rw [Addr.add_lit, hxe] at this
    cases i with
    | zero => cases hv; simpa [Shape.int] using this
    | succ i => simp at hv
theorem toIntS_c (w : World) (B : Nat) (a : Option Addr) (n c : Nat) (xs : List Int) (h : ListAt Shape.int (Under B) w a n xs) (hB : B ≤ w.heap.size) (hb : (Shape.list Shape.int).bulk xs ≤ 1048576) :
    Calls Try.prog 93 #[.slice a n c] w fun e w' => e = .returned (.slice (some ⟨w.heap.size, 0, none⟩) n n) ∧ ListAt Shape.int (From w.heap.size w'.heap.size) w' (some ⟨w.heap.size, 0, none⟩) n xs ∧ Below w.heap.size w w' := by
  rw [bulk_ints, h.1] at hb
  refine (toIntS_any B w a n c xs (h.ints hb) hB).mono ?_
  rintro e w' ⟨rfl, hr, hbw⟩
  obtain ⟨a', n', c', e', _, _, hr'⟩ := hr.listAt
  cases e'
  exact ⟨rfl, hr', hbw⟩
theorem eqIntS_c (w : World) (B B' : Nat) (a a' : Option Addr) (n c c' : Nat) (xs : List Int) (h : ListAt Shape.int (Under B) w a n xs) (h' : ListAt Shape.int (Under B') w a' n xs) (hB : B ≤ w.heap.size) (hB' : B' ≤ w.heap.size) (hb : (Shape.list Shape.int).bulk xs ≤ 1048576) :
    Calls Try.prog 100 #[.slice a n c, .slice a' n c'] w fun e w' => e = .returned (.bool true) ∧ Below w.heap.size w w' := by
  rw [bulk_ints, h.1] at hb
  exact eqIntS_same w a n c xs a' c' ((h.ints hb).le hB) ((h'.ints hb).le hB')

abbrev dOp := Int × Int × Int × List Int
def shOp : Shape dOp := .struct (.cons Shape.int (.cons Shape.int (.cons Shape.int (.last (Shape.list Shape.int)))))
theorem shOp_size : shOp.size = 4 := rfl
theorem shOp_reads {I : Nat → Prop} {w : World} {cs : List Value} {d : dOp} : shOp.reads I w cs d ↔ ∃ a0 n0 c0, cs = [.int .i64 d.1, .int .i64 d.2.1, .int .i64 d.2.2.1, .slice a0 n0 c0] ∧ (n0 ≤ c0 ∧ c0 ≤ 9223372036854775807 ∧ ListAt Shape.int I w a0 n0 d.2.2.2) := by
  constructor
  · rintro ⟨_, _, rfl, rfl, _, _, rfl, rfl, _, _, rfl, rfl, ⟨a0, n0, c0, rfl, g0⟩⟩
    exact ⟨a0, n0, c0, rfl, g0⟩
  · rintro ⟨a0, n0, c0, rfl, g0⟩
    exact ⟨_, _, rfl, rfl, _, _, rfl, rfl, _, _, rfl, rfl, ⟨a0, n0, c0, rfl, g0⟩⟩
theorem shOp_bulk (d : dOp) : shOp.bulk d = (Shape.list Shape.int).bulk d.2.2.2 := by
  simp only [shOp, Shape.struct, FieldsOf.cons, FieldsOf.last, Shape.int, Shape.bool]
  try omega
set_option maxRecDepth 100000 in
theorem szOp_c (w : World) (B : Nat) (es : List Value) (x : dOp) (L : Int) (h : shOp.reads (Under B) w es x) (hB : B ≤ w.heap.size) (h0 : 0 ≤ L) (h1 : L ≤ 1048576) :
    Calls Try.prog 108 #[.agg es.toArray, .int .i64 L] w fun e w' => e = .returned (.int .i64 (szN (shOp.bulk x) L)) ∧ Below w.heap.size w w' := by
  obtain ⟨a0, n0, c0, rfl, ⟨p0, r0, l0⟩⟩ := shOp_reads.1 h
  rw [shOp_bulk]
  have ha := (Below.refl w.heap.size w).alloc (Nat.le_refl _) (.cells #[.int .i64 x.1, .int .i64 x.2.1, .int .i64 x.2.2.1, .slice a0 n0 c0] 146 (0, 0))
  have hb0 := heap_alloc_new w (.cells #[.int .i64 x.1, .int .i64 x.2.1, .int .i64 x.2.2.1, .slice a0 n0 c0] 146 (0, 0))
  have hs0 : w.heap.size < (w.alloc (.cells #[.int .i64 x.1, .int .i64 x.2.1, .int .i64 x.2.2.1, .slice a0 n0 c0] 146 (0, 0))).heap.size := by simp
  have H0 := fun (w1 : World) (hb : Below w.heap.size w w1) (V : Int) (g0 : 0 ≤ V) (g1 : V ≤ 1048576) => szIntS_c w1 B a0 n0 c0 _ V (l0.below hb hB) (Nat.le_trans hB hb.size) (by omega) g0 g1
  obtain ⟨u0, hu0⟩ : ∃ u, (Shape.list Shape.int).bulk x.2.2.2 = u := ⟨_, rfl⟩
  simp only [hu0] at H0 ⊢
  replace H0 := Lib.hid H0
  have HA := Lib.hid ha
  have HB0 := Lib.hid hb0
  have HS0 := Lib.hid hs0
  clear ha hb0 hs0 h hu0
  clear p0 r0 l0
  obtain ⟨d, hd⟩ : ∃ d, d = szN (u0) L := ⟨_, rfl⟩
  rw [← hd]
  replace HD := Lib.hid hd
  clear hd
  by_cases f0 : (u0 : Int) ≤ L
  · have q0 := H0.out _ HA.out L (by omega) (by omega)
    rw [szN_yes f0] at q0
    obtain ⟨V0, hV0⟩ : ∃ V', L - (u0 : Int) = V' := ⟨_, rfl⟩
    rw [hV0] at q0
    have t0 : decide (V0 < 0) = false := decide_eq_false (by omega)
    have hdd : V0 = d := by rw [HD.out, szN_yes (by omega)]; omega
    subst hdd
    replace q0 := Lib.hid q0
    go_enter Try.func108, Try.ntmps108
    go_wp2_with fail
    refine q0.out.mono ?_
    rintro e w1 ⟨rfl, hb0⟩
    have B0 := Lib.hid (HA.out.trans (hb0.mono HA.out.size))
    clear hb0
    go_wp2_with fail
    go_ret
    exact ⟨rfl, B0.out⟩
  · have q0 := H0.out _ HA.out L (by omega) (by omega)
    rw [szN_no f0] at q0
    have hdd : d = -1 := by rw [HD.out]; exact szN_no (by omega)
    subst hdd
    replace q0 := Lib.hid q0
    go_enter Try.func108, Try.ntmps108
    go_wp2_with fail
    refine q0.out.mono ?_
    rintro e w1 ⟨rfl, hb0⟩
    have B0 := Lib.hid (HA.out.trans (hb0.mono HA.out.size))
    clear hb0
    go_wp2_with fail
    go_ret
    exact ⟨rfl, B0.out⟩
set_option maxRecDepth 100000 in
set_option maxHeartbeats 800000 in
theorem toOp_c (w : World) (B : Nat) (es : List Value) (x : dOp) (h : shOp.reads (Under B) w es x) (hB : B ≤ w.heap.size) (hb : shOp.bulk x ≤ 1048576) :
    Calls Try.prog 113 #[.agg es.toArray] w fun e w' => ∃ es', e = .returned (.agg es'.toArray) ∧ shOp.reads (From w.heap.size w'.heap.size) w' es' x ∧ Below w.heap.size w w' := by
  obtain ⟨a0, n0, c0, rfl, ⟨p0, r0, l0⟩⟩ := shOp_reads.1 h
  rw [shOp_bulk] at hb
  have m0 : n0 ≤ 1048576 := by have := bulk_list Shape.int l0; omega
  have H0 := Lib.hid fun (w1 : World) (hbw : Below w.heap.size w w1) => toIntS_c w1 B a0 n0 c0 _ (l0.below hbw hB) (Nat.le_trans hB hbw.size) (by omega)
  have hbx := Boxes.start w #[.int .i64 x.1, .int .i64 x.2.1, .int .i64 x.2.2.1, .slice a0 n0 c0] #[.int .i64 0, .int .i64 0, .int .i64 0, .slice none 0 0] #[.int .i64 x.1, .int .i64 x.2.1, .int .i64 x.2.2.1, .slice none 0 0] 146 120
  clear h hb l0 r0 p0
  go_enter Try.func113, Try.ntmps113
  go_wp2_with fail
  generalize ((w.alloc (.cells #[.int .i64 x.1, .int .i64 x.2.1, .int .i64 x.2.2.1, .slice a0 n0 c0] 146 (0, 0))).alloc (.cells #[.int .i64 0, .int .i64 0, .int .i64 0, .slice none 0 0] 120 (0, 0))).alloc (.cells #[.int .i64 x.1, .int .i64 x.2.1, .int .i64 x.2.2.1, .slice none 0 0] 120 (0, 0)) = v0 at hbx ⊢
  have BX0 := Lib.hid hbx
  clear hbx
  refine (H0.out v0 BX0.out.below).mono ?_
  rintro e w1 ⟨rfl, hr0, hb0⟩
  have hbx := BX0.out.call hb0
  have hlt0 := BX0.out.size
  have za0_0 : w1.cell? ⟨w.heap.size, 0, none⟩ = _ := cell_of_row _ _ _ _ _ _ hbx.a
  have za0_1 : w1.cell? ⟨w.heap.size, 1, none⟩ = _ := cell_of_row _ _ _ _ _ _ hbx.a
  have za0_2 : w1.cell? ⟨w.heap.size, 2, none⟩ = _ := cell_of_row _ _ _ _ _ _ hbx.a
  have za0_3 : w1.cell? ⟨w.heap.size, 3, none⟩ = _ := cell_of_row _ _ _ _ _ _ hbx.a
  have zo0_0 : w1.cell? ⟨w.heap.size + 1 + 1, 0, none⟩ = _ := cell_of_row _ _ _ _ _ _ hbx.o
  have zo0_1 : w1.cell? ⟨w.heap.size + 1 + 1, 1, none⟩ = _ := cell_of_row _ _ _ _ _ _ hbx.o
  have zo0_2 : w1.cell? ⟨w.heap.size + 1 + 1, 2, none⟩ = _ := cell_of_row _ _ _ _ _ _ hbx.o
  have zo0_3 : w1.cell? ⟨w.heap.size + 1 + 1, 3, none⟩ = _ := cell_of_row _ _ _ _ _ _ hbx.o
  have zr0_0 : w1.cell? ⟨w.heap.size + 1, 0, none⟩ = _ := cell_of_row _ _ _ _ _ _ hbx.z
  have zr0_1 : w1.cell? ⟨w.heap.size + 1, 1, none⟩ = _ := cell_of_row _ _ _ _ _ _ hbx.z
  have zr0_2 : w1.cell? ⟨w.heap.size + 1, 2, none⟩ = _ := cell_of_row _ _ _ _ _ _ hbx.z
  have zr0_3 : w1.cell? ⟨w.heap.size + 1, 3, none⟩ = _ := cell_of_row _ _ _ _ _ _ hbx.z
  have fo0_0 : w1.frozen? ⟨w.heap.size + 1 + 1, 0, none⟩ = false := frozen_of_row _ _ _ _ _ hbx.o
  have fr0_0 : w1.frozen? ⟨w.heap.size + 1, 0, none⟩ = false := frozen_of_row _ _ _ _ _ hbx.z
  have fo0_1 : w1.frozen? ⟨w.heap.size + 1 + 1, 1, none⟩ = false := frozen_of_row _ _ _ _ _ hbx.o
  have fr0_1 : w1.frozen? ⟨w.heap.size + 1, 1, none⟩ = false := frozen_of_row _ _ _ _ _ hbx.z
  have fo0_2 : w1.frozen? ⟨w.heap.size + 1 + 1, 2, none⟩ = false := frozen_of_row _ _ _ _ _ hbx.o
  have fr0_2 : w1.frozen? ⟨w.heap.size + 1, 2, none⟩ = false := frozen_of_row _ _ _ _ _ hbx.z
  have fo0_3 : w1.frozen? ⟨w.heap.size + 1 + 1, 3, none⟩ = false := frozen_of_row _ _ _ _ _ hbx.o
  have fr0_3 : w1.frozen? ⟨w.heap.size + 1, 3, none⟩ = false := frozen_of_row _ _ _ _ _ hbx.z
  simp only [List.setIfInBounds_toArray, List.set_cons_zero, List.set_cons_succ, List.getElem?_toArray, List.getElem?_cons_zero, List.getElem?_cons_succ] at za0_0 zo0_0 zr0_0 za0_1 zo0_1 zr0_1 za0_2 zo0_2 zr0_2 za0_3 zo0_3 zr0_3
  have N0_0 := hr0.lo (Nat.le_trans (by omega) hlt0 : w.heap.size + 3 ≤ v0.heap.size)
  have hby := (hbx.store 3 (.slice (some ⟨v0.heap.size, 0, none⟩) n0 n0))
  have O0_0 := (N0_0.stored (w.heap.size + 1 + 1) 3 (.slice (some ⟨v0.heap.size, 0, none⟩) n0 n0) (by omega))
  replace hby := Lib.hid hby
  replace O0_0 := Lib.hid O0_0
  clear N0_0
  clear hr0 hbx hb0
  go_wp2_with fail
  refine bodyPost_ret (results_cell_row rfl _ _ (w.heap.size + 1) 120 #[.int .i64 x.1, .int .i64 x.2.1, .int .i64 x.2.2.1, .slice (some ⟨v0.heap.size, 0, none⟩) n0 n0] (0, 0) _ rfl ?_ Try.underlying120 rfl (by kernel_rfl)) rfl ?_
  · exact hby.out.result [.int .i64 x.1, .int .i64 x.2.1, .int .i64 x.2.2.1, .slice (some ⟨v0.heap.size, 0, none⟩) n0 n0] rfl
  refine ⟨[.int .i64 x.1, .int .i64 x.2.1, .int .i64 x.2.2.1, .slice (some ⟨v0.heap.size, 0, none⟩) n0 n0], rfl, ?_, hby.out.last [.int .i64 x.1, .int .i64 x.2.1, .int .i64 x.2.2.1, .slice (some ⟨v0.heap.size, 0, none⟩) n0 n0]⟩
  exact shOp_reads.2 ⟨_, _, _, rfl, ⟨Nat.le_refl _, by omega, (O0_0.out.storedAll (w.heap.size + 1) 0 [.int .i64 x.1, .int .i64 x.2.1, .int .i64 x.2.2.1, .slice (some ⟨v0.heap.size, 0, none⟩) n0 n0] (by omega)).lo (by omega)⟩⟩
set_option maxRecDepth 100000 in
set_option maxHeartbeats 800000 in
theorem eqOp_c (w : World) (B B' : Nat) (es es' : List Value) (x : dOp) (h : shOp.reads (Under B) w es x) (h' : shOp.reads (Under B') w es' x) (hB : B ≤ w.heap.size) (hB' : B' ≤ w.heap.size) (hb : shOp.bulk x ≤ 1048576) :
    Calls Try.prog 117 #[.agg es.toArray, .agg es'.toArray] w fun e w' => e = .returned (.bool true) ∧ Below w.heap.size w w' := by
  obtain ⟨a0, n0, c0, rfl, ⟨-, -, l0⟩⟩ := shOp_reads.1 h
  obtain ⟨b0, nb0, cb0, rfl, ⟨-, -, m0⟩⟩ := shOp_reads.1 h'
  obtain rfl : nb0 = n0 := by rw [← l0.1, ← m0.1]
  rw [shOp_bulk] at hb
  have ha := ((Below.refl w.heap.size w).alloc (Nat.le_refl _) (.cells #[.int .i64 x.1, .int .i64 x.2.1, .int .i64 x.2.2.1, .slice a0 nb0 c0] 120 (0, 0))).alloc (by simp) (.cells #[.int .i64 x.1, .int .i64 x.2.1, .int .i64 x.2.2.1, .slice b0 nb0 cb0] 120 (0, 0))
  have hA : ((w.alloc (.cells #[.int .i64 x.1, .int .i64 x.2.1, .int .i64 x.2.2.1, .slice a0 nb0 c0] 120 (0, 0))).alloc (.cells #[.int .i64 x.1, .int .i64 x.2.1, .int .i64 x.2.2.1, .slice b0 nb0 cb0] 120 (0, 0))).heap[w.heap.size]? = some (.cells #[.int .i64 x.1, .int .i64 x.2.1, .int .i64 x.2.2.1, .slice a0 nb0 c0] 120 (0, 0)) := by
    rw [Below.heap_alloc _ _ _ (by simp)]
    exact heap_alloc_new w _
  have hC : ((w.alloc (.cells #[.int .i64 x.1, .int .i64 x.2.1, .int .i64 x.2.2.1, .slice a0 nb0 c0] 120 (0, 0))).alloc (.cells #[.int .i64 x.1, .int .i64 x.2.1, .int .i64 x.2.2.1, .slice b0 nb0 cb0] 120 (0, 0))).heap[w.heap.size + 1]? = some (.cells #[.int .i64 x.1, .int .i64 x.2.1, .int .i64 x.2.2.1, .slice b0 nb0 cb0] 120 (0, 0)) := by
    have := heap_alloc_new (w.alloc (.cells #[.int .i64 x.1, .int .i64 x.2.1, .int .i64 x.2.2.1, .slice a0 nb0 c0] 120 (0, 0))) (.cells #[.int .i64 x.1, .int .i64 x.2.1, .int .i64 x.2.2.1, .slice b0 nb0 cb0] 120 (0, 0))
    simpa using this
  have hS : w.heap.size + 1 < ((w.alloc (.cells #[.int .i64 x.1, .int .i64 x.2.1, .int .i64 x.2.2.1, .slice a0 nb0 c0] 120 (0, 0))).alloc (.cells #[.int .i64 x.1, .int .i64 x.2.1, .int .i64 x.2.2.1, .slice b0 nb0 cb0] 120 (0, 0))).heap.size := by simp
  have H0 := Lib.hid fun (w1 : World) (hbw : Below w.heap.size w w1) => eqIntS_c w1 B B' a0 b0 nb0 c0 cb0 _ (l0.below hbw hB) (m0.below hbw hB') (Nat.le_trans hB hbw.size) (Nat.le_trans hB' hbw.size) (by omega)
  have HA := Lib.hid ha
  have XA := Lib.hid hA
  have XC := Lib.hid hC
  have HS := Lib.hid hS
  clear h h' hb ha hA hC hS l0 m0
  go_enter Try.func117, Try.ntmps117
  go_wp2_with fail
  refine (H0.out _ HA.out).mono ?_
  rintro e w1 ⟨rfl, hb0⟩
  have B0 := Lib.hid (HA.out.trans (hb0.mono HA.out.size))
  clear hb0
  go_wp2_with fail
  go_ret
  exact ⟨rfl, B0.out⟩
set_option maxRecDepth 100000 in
set_option maxHeartbeats 1600000 in
theorem szOpS_c (w : World) (B : Nat) (a : Option Addr) (n c : Nat) (xs : List dOp) (L : Int) (h : ListAt shOp (Under B) w a n xs) (hB : B ≤ w.heap.size) (hn : n ≤ 9223372036854775807) (h0 : 0 ≤ L) (h1 : L ≤ 1048576) :
    Calls Try.prog 88 #[.slice a n c, .int .i64 L] w fun e w' => e = .returned (.int .i64 (szN ((Shape.list shOp).bulk xs) L)) ∧ Below w.heap.size w w' := by
  obtain ⟨d, hd⟩ : ∃ d, d = szN ((Shape.list shOp).bulk xs) L := ⟨_, rfl⟩
  rw [← hd]
  have hbk : (Shape.list shOp).bulk xs = n + Shape.sum shOp.bulk xs := by rw [← h.1]; rfl
  rw [hbk] at hd
  have HD := Lib.hid hd
  have HL := Lib.hid h
  clear hd hbk h
  by_cases hnL : (n : Int) ≤ L
  · have hw : wrap64 (L - n) = L - n := IntWalk.wrap64_in (L - n) (by omega)
    have hlt0 : decide (L - (n : Int) < 0) = false := decide_eq_false (by omega)
    obtain ⟨M, hM⟩ : ∃ M : Int, L - n = M := ⟨_, rfl⟩
    rw [hM] at hw hlt0
    go_enter Try.func88, Try.ntmps88
    go_wp2_with fail
    go_loopw [1, 5] (fun l i wr => ∃ (k : Nat) (V : Int), k ≤ n ∧ i = .int .i64 k ∧ l = .int .i64 V ∧ 0 ≤ V ∧ V ≤ 1048576 ∧ Hid (V = M - Shape.sum shOp.bulk (xs.take k)) ∧ Below w.heap.size w wr) (fun _ i _ => n - (intOf i).toNat)
    case atStart => exact ⟨0, M, Nat.zero_le _, rfl, rfl, by omega, by omega, Lib.hid (by simp [Shape.sum]), Below.refl _ _⟩
    case round =>
      obtain ⟨k, V, hk, rfl, rfl, hV0, hV1, hV, hbw⟩ := hrel
      by_cases hlt : k < n
      · have hx : ∃ x, xs[k]? = some x := ⟨_, List.getElem?_eq_getElem (by rw [HL.out.1]; exact hlt)⟩
        obtain ⟨x, hx⟩ := hx
        obtain ⟨b, o, es, rfl, hbB, hr, hs⟩ := HL.out.2 k x hx
        have hsz := hbw.size
        have hrr := rangeAt_kept hr (show b < w.heap.size from Nat.lt_of_lt_of_le hbB hB) (Kept.of_below (I := Under w.heap.size) hbw fun b hb => hb)
        have HS := Lib.hid (szOp_c wr _ es x V (shOp.below (shOp.le hs hB) hbw (Nat.le_refl _)) hsz hV0 hV1)
        have HST := Lib.hid (sum_take shOp.bulk xs k x hx)
        have HTL := Lib.hid (sum_take_le shOp.bulk xs (k + 1))
        have HBW := Lib.hid hbw
        obtain ⟨u, hu⟩ : ∃ u, shOp.bulk x = u := ⟨_, rfl⟩
        rw [hu] at HS HST
        obtain ⟨ae0, ne0, ce0, rfl, -⟩ := shOp_reads.1 hs
        rw [shOp_size] at hrr
        have c0 := hrr 0 _ rfl
        have c1 := hrr 1 _ rfl
        have c2 := hrr 2 _ rfl
        have c3 := hrr 3 _ rfl
        simp only [Nat.add_zero] at c0
        try dsimp only at c0 c1 c2 c3 HS
        clear hr hrr hs hx hu hbw
        by_cases hfit : (u : Int) ≤ V
        · rw [szN_yes hfit] at HS
          obtain ⟨V', hV'⟩ : ∃ V', V - (u : Int) = V' := ⟨_, rfl⟩
          rw [hV'] at HS
          have hneg : decide (V' < 0) = false := decide_eq_false (by omega)
          go_wp2_with fail
          refine HS.out.mono ?_
          rintro e w' ⟨rfl, hb2⟩
          have HB2 := Lib.hid hb2
          clear hb2
          go_wp2_with fail
          go_round
          case rel => exact ⟨k + 1, V', by omega, by go_num, rfl, by omega, by omega, Lib.hid (by have e1 := HST.out; have e2 := hV.out; omega), HBW.out.trans (HB2.out.mono hsz)⟩
          case measure => simp [intOf]; omega
        · rw [szN_no hfit] at HS
          have hdd : d = -1 := by
            rw [HD.out]
            refine szN_no ?_
            have e1 := HST.out
            have e2 := HTL.out
            have e3 := hV.out
            omega
          subst hdd
          go_wp2_with fail
          refine HS.out.mono ?_
          rintro e w' ⟨rfl, hb2⟩
          have HB2 := Lib.hid hb2
          clear hb2
          go_wp2_with fail
          go_ret
          exact ⟨rfl, HBW.out.trans (HB2.out.mono hsz)⟩
      · have hkn : k = n := by omega
        subst hkn
        have hdd : V = d := by
          rw [HD.out]
          have e1 := hV.out
          have e2 : xs.take k = xs := List.take_of_length_le (by rw [HL.out.1]; exact Nat.le_refl _)
          rw [e2] at e1
          rw [szN_yes (by omega)]
          omega
        subst hdd
        have HBW := Lib.hid hbw
        clear hbw
        go_wp2_with fail
        go_ret
        exact ⟨rfl, HBW.out⟩
  · have hdd : d = -1 := by rw [HD.out]; exact szN_no (by omega)
    subst hdd
    have hw : wrap64 (L - n) = L - n := IntWalk.wrap64_in (L - n) (by omega)
    have hlt0 : decide (L - (n : Int) < 0) = true := decide_eq_true (by omega)
    obtain ⟨M, hM⟩ : ∃ M : Int, L - n = M := ⟨_, rfl⟩
    rw [hM] at hw hlt0
    go_enter Try.func88, Try.ntmps88
    go_wp2_with fail
    go_ret
    exact ⟨rfl, Below.refl _ _⟩
theorem infoAll_Op : (Try.prog.info? 120).map (fun i => (i.zero, i.size, i.bytes)) = some (some (.agg #[.int .i64 0, .int .i64 0, .int .i64 0, .slice none 0 0]), 4, 48) := by kernel_rfl
set_option maxRecDepth 100000 in
set_option maxHeartbeats 1600000 in
theorem toOpS_c (w : World) (B : Nat) (a : Option Addr) (n c : Nat) (xs : List dOp) (h : ListAt shOp (Under B) w a n xs) (hB : B ≤ w.heap.size) (hb : (Shape.list shOp).bulk xs ≤ 1048576) :
    Calls Try.prog 95 #[.slice a n c] w fun e w' => e = .returned (.slice (some ⟨w.heap.size, 0, none⟩) n n) ∧ ListAt shOp (From w.heap.size w'.heap.size) w' (some ⟨w.heap.size, 0, none⟩) n xs ∧ Below w.heap.size w w' := by
  have hbk : (Shape.list shOp).bulk xs = n + Shape.sum shOp.bulk xs := by rw [← h.1]; rfl
  rw [hbk] at hb
  have hmk := run_make_many (P := Try.prog) 56 120 _ 4 48 Try.underlying56 infoAll_Op n (by omega) (by omega)
  have hst := Filled.start shOp w n xs (Value.agg #[.int .i64 0, .int .i64 0, .int .i64 0, .slice none 0 0]).cells 120
  replace hst := Lib.hid hst
  have HL := Lib.hid h
  have HB := Lib.hid hb
  have hn1 : n ≤ 1048576 := by omega
  clear hbk h hb
  go_enter Try.func95, Try.ntmps95
  go_wp2_with fail
  go_loopw [4] (fun i wr => ∃ k : Nat, k ≤ n ∧ i = .int .i64 k ∧ Filled shOp w wr n k xs) (fun i _ => n - (intOf i).toNat)
  case atStart => exact ⟨0, Nat.zero_le _, rfl, hst.out⟩
  case round =>
    obtain ⟨k, hk, rfl, hf⟩ := hrel
    by_cases hlt : k < n
    · obtain ⟨x, hx⟩ : ∃ x, xs[k]? = some x := ⟨_, List.getElem?_eq_getElem (by rw [HL.out.1]; exact hlt)⟩
      obtain ⟨b, o, es, rfl, hbB, hr, hs⟩ := HL.out.2 k x hx
      have hfb := hf.below
      have hfl := hf.lt
      have hth0 := hf.rest
      have hrr := rangeAt_kept hr (show b < w.heap.size from Nat.lt_of_lt_of_le hbB hB) (Kept.of_below (I := Under w.heap.size) hfb fun b hb => hb)
      have HS := Lib.hid (toOp_c wr _ es x (shOp.below (shOp.le hs hB) hfb (Nat.le_refl _)) (Nat.le_of_lt hfl) (by have h1 := bulk_mem shOp.bulk xs k x hx; have h2 := HB.out; omega))
      have HF := Lib.hid hf
      have HX := Lib.hid hx
      have HT := Lib.hid hth0
      obtain ⟨ae0, ne0, ce0, rfl, -⟩ := shOp_reads.1 hs
      rw [shOp_size] at hrr
      have c0 := hrr 0 _ rfl
      have c1 := hrr 1 _ rfl
      have c2 := hrr 2 _ rfl
      have c3 := hrr 3 _ rfl
      simp only [Nat.add_zero] at c0
      try dsimp only at c0 c1 c2 c3 HS
      clear hr hrr hs hx hf hth0
      go_wp2_with fail
      clear c0 c1 c2 c3
      refine HS.out.mono ?_
      rintro e w1 ⟨es', rfl, hs', hb1⟩
      have hn4 : 4 ≤ (n - k) * shOp.size := by rw [shOp_size]; omega
      have hth := there_below HT.out hb1 hfl
      have hN := HF.out.step hlt hb1 HX.out hs'
      have HN := Lib.hid hN
      have HB1 := Lib.hid hb1
      obtain ⟨af0, nf0, cf0, rfl, -⟩ := shOp_reads.1 hs'
      obtain ⟨⟨v0, d0⟩, f0⟩ := there_cell hth 0 (by omega)
      obtain ⟨⟨v1, d1⟩, f1⟩ := there_cell hth 1 (by omega)
      obtain ⟨⟨v2, d2⟩, f2⟩ := there_cell hth 2 (by omega)
      obtain ⟨⟨v3, d3⟩, f3⟩ := there_cell hth 3 (by omega)
      rw [shOp_size] at d0 d1 d2 d3 f0 f1 f2 f3
      simp only [Nat.add_zero] at d0 f0
      clear hs' hb1 hth hN
      go_wp2_with fail
      go_round
      case rel => exact ⟨k + 1, by omega, by go_num, HN.out⟩
      case measure => simp [intOf]; omega
    · obtain rfl : k = n := by omega
      have hz := hf.below
      have HF := Lib.hid hf
      clear hf hz
      go_wp2_with fail
      go_ret
      exact ⟨rfl, HF.out.list HL.out.1, HF.out.below⟩
set_option maxRecDepth 100000 in
set_option maxHeartbeats 1600000 in
theorem eqOpS_c (w : World) (B B' : Nat) (a a' : Option Addr) (n c c' : Nat) (xs : List dOp) (h : ListAt shOp (Under B) w a n xs) (h' : ListAt shOp (Under B') w a' n xs) (hB : B ≤ w.heap.size) (hB' : B' ≤ w.heap.size) (hb : (Shape.list shOp).bulk xs ≤ 1048576) :
    Calls Try.prog 102 #[.slice a n c, .slice a' n c'] w fun e w' => e = .returned (.bool true) ∧ Below w.heap.size w w' := by
  have hbk : (Shape.list shOp).bulk xs = n + Shape.sum shOp.bulk xs := by rw [← h.1]; rfl
  rw [hbk] at hb
  have hn1 : n ≤ 1048576 := by omega
  have HL := Lib.hid (h.le hB)
  have HL' := Lib.hid (h'.le hB')
  have HB := Lib.hid hb
  clear hbk h h' hb
  go_enter Try.func102, Try.ntmps102
  go_wp2_with fail
  go_loopw [5] (fun i wr => ∃ k : Nat, k ≤ n ∧ i = .int .i64 k ∧ Below w.heap.size w wr) (fun i _ => n - (intOf i).toNat)
  case atStart => exact ⟨0, Nat.zero_le _, rfl, Below.refl _ _⟩
  case round =>
    obtain ⟨k, hk, rfl, hbw⟩ := hrel
    by_cases hlt : k < n
    · obtain ⟨x, hx⟩ : ∃ x, xs[k]? = some x := ⟨_, List.getElem?_eq_getElem (by rw [HL.out.1]; exact hlt)⟩
      obtain ⟨b, o, es, rfl, hbB, hr, hs⟩ := HL.out.2 k x hx
      obtain ⟨b', o', es', rfl, hbB', hr', hs'⟩ := HL'.out.2 k x hx
      have hsz := hbw.size
      have hrr := rangeAt_kept hr (show b < w.heap.size from hbB) (Kept.of_below (I := Under w.heap.size) hbw fun b hb => hb)
      have hrr' := rangeAt_kept hr' (show b' < w.heap.size from hbB') (Kept.of_below (I := Under w.heap.size) hbw fun b hb => hb)
      have hsw := shOp.below hs hbw (Nat.le_refl _)
      have hsw' := shOp.below hs' hbw (Nat.le_refl _)
      have hbx : shOp.bulk x ≤ 1048576 := by have h1 := bulk_mem shOp.bulk xs k x hx; have h2 := HB.out; omega
      have HC := Lib.hid fun (w1 : World) (hb1 : Below w.heap.size wr w1) => eqOp_c w1 _ _ es es' x (shOp.below hsw hb1 (Nat.le_refl _)) (shOp.below hsw' hb1 (Nat.le_refl _)) (Nat.le_trans hsz hb1.size) (Nat.le_trans hsz hb1.size) hbx
      have HBW := Lib.hid hbw
      obtain ⟨ae0, ne0, ce0, rfl, -⟩ := shOp_reads.1 hs
      obtain ⟨af0, nf0, cf0, rfl, -⟩ := shOp_reads.1 hs'
      rw [shOp_size] at hrr hrr'
      have c0 := hrr 0 _ rfl
      have c1 := hrr 1 _ rfl
      have c2 := hrr 2 _ rfl
      have c3 := hrr 3 _ rfl
      have d0 := hrr' 0 _ rfl
      have d1 := hrr' 1 _ rfl
      have d2 := hrr' 2 _ rfl
      have d3 := hrr' 3 _ rfl
      simp only [Nat.add_zero] at c0 d0
      try dsimp only at c0 d0 c1 d1 c2 d2 c3 d3 HC
      clear hr hr' hrr hrr' hs hs' hsw hsw' hx hbw hbx
      go_upto_region 6 with fail
      have k0 := cell_regrown c0
      have l0 := cell_regrown d0
      have k1 := cell_regrown c1
      have l1 := cell_regrown d1
      have k2 := cell_regrown c2
      have l2 := cell_regrown d2
      have k3 := cell_regrown c3
      have l3 := cell_regrown d3
      have cC := fun d os => Calls.regrown_of (w := wr) (d := d) (os := os) (HC.out _ ((below_regrown wr d os).mono hsz))
      have CC := Lib.hid cC
      clear c0 d0 c1 d1 c2 d2 c3 d3 cC
      refine wp_region_quiet_below (by kernel_rfl) (by kernel_rfl) ?_
      repeat (go_big_quiet_step (with_reducible first | exact CC.out _ _))
      refine wpQuiet_nil ?_
      intro _ hw'
      obtain ⟨⟨dq, osq⟩, hw''⟩ := hw'
      subst hw''
      have hwq := below_regrown wr dq osq
      generalize grow (redrawn wr dq) osq = w1 at hwq ⊢
      have HW := Lib.hid hwq
      clear hwq k0 l0 k1 l1 k2 l2 k3 l3
      go_wp2_with fail
      go_round
      case rel => exact ⟨k + 1, by omega, by go_num, HBW.out.trans (HW.out.mono hsz)⟩
      case measure => simp [intOf]; omega
    · obtain rfl : k = n := by omega
      have HBW := Lib.hid hbw
      clear hbw
      go_wp2_with fail
      go_ret
      exact ⟨rfl, HBW.out⟩
abbrev dRow := List Int
def shRow : Shape dRow := .struct (.last (Shape.list Shape.int))
theorem shRow_size : shRow.size = 1 := rfl
theorem shRow_reads {I : Nat → Prop} {w : World} {cs : List Value} {d : dRow} : shRow.reads I w cs d ↔ ∃ a0 n0 c0, cs = [.slice a0 n0 c0] ∧ (n0 ≤ c0 ∧ c0 ≤ 9223372036854775807 ∧ ListAt Shape.int I w a0 n0 d) := by
  constructor
  · rintro ⟨a0, n0, c0, rfl, g0⟩
    exact ⟨a0, n0, c0, rfl, g0⟩
  · rintro ⟨a0, n0, c0, rfl, g0⟩
    exact ⟨a0, n0, c0, rfl, g0⟩
theorem shRow_bulk (d : dRow) : shRow.bulk d = (Shape.list Shape.int).bulk d := by
  rfl
set_option maxRecDepth 100000 in
theorem szRow_c (w : World) (B : Nat) (es : List Value) (x : dRow) (L : Int) (h : shRow.reads (Under B) w es x) (hB : B ≤ w.heap.size) (h0 : 0 ≤ L) (h1 : L ≤ 1048576) :
    Calls Try.prog 110 #[.agg es.toArray, .int .i64 L] w fun e w' => e = .returned (.int .i64 (szN (shRow.bulk x) L)) ∧ Below w.heap.size w w' := by
  obtain ⟨a0, n0, c0, rfl, ⟨p0, r0, l0⟩⟩ := shRow_reads.1 h
  rw [shRow_bulk]
  have ha := (Below.refl w.heap.size w).alloc (Nat.le_refl _) (.cells #[.slice a0 n0 c0] 151 (0, 0))
  have hb0 := heap_alloc_new w (.cells #[.slice a0 n0 c0] 151 (0, 0))
  have hs0 : w.heap.size < (w.alloc (.cells #[.slice a0 n0 c0] 151 (0, 0))).heap.size := by simp
  have H0 := fun (w1 : World) (hb : Below w.heap.size w w1) (V : Int) (g0 : 0 ≤ V) (g1 : V ≤ 1048576) => szIntS_c w1 B a0 n0 c0 _ V (l0.below hb hB) (Nat.le_trans hB hb.size) (by omega) g0 g1
  obtain ⟨u0, hu0⟩ : ∃ u, (Shape.list Shape.int).bulk x = u := ⟨_, rfl⟩
  simp only [hu0] at H0 ⊢
  replace H0 := Lib.hid H0
  have HA := Lib.hid ha
  have HB0 := Lib.hid hb0
  have HS0 := Lib.hid hs0
  clear ha hb0 hs0 h hu0
  clear p0 r0 l0
  obtain ⟨d, hd⟩ : ∃ d, d = szN (u0) L := ⟨_, rfl⟩
  rw [← hd]
  replace HD := Lib.hid hd
  clear hd
  by_cases f0 : (u0 : Int) ≤ L
  · have q0 := H0.out _ HA.out L (by omega) (by omega)
    rw [szN_yes f0] at q0
    obtain ⟨V0, hV0⟩ : ∃ V', L - (u0 : Int) = V' := ⟨_, rfl⟩
    rw [hV0] at q0
    have t0 : decide (V0 < 0) = false := decide_eq_false (by omega)
    have hdd : V0 = d := by rw [HD.out, szN_yes (by omega)]; omega
    subst hdd
    replace q0 := Lib.hid q0
    go_enter Try.func110, Try.ntmps110
    go_wp2_with fail
    refine q0.out.mono ?_
    rintro e w1 ⟨rfl, hb0⟩
    have B0 := Lib.hid (HA.out.trans (hb0.mono HA.out.size))
    clear hb0
    go_wp2_with fail
    go_ret
    exact ⟨rfl, B0.out⟩
  · have q0 := H0.out _ HA.out L (by omega) (by omega)
    rw [szN_no f0] at q0
    have hdd : d = -1 := by rw [HD.out]; exact szN_no (by omega)
    subst hdd
    replace q0 := Lib.hid q0
    go_enter Try.func110, Try.ntmps110
    go_wp2_with fail
    refine q0.out.mono ?_
    rintro e w1 ⟨rfl, hb0⟩
    have B0 := Lib.hid (HA.out.trans (hb0.mono HA.out.size))
    clear hb0
    go_wp2_with fail
    go_ret
    exact ⟨rfl, B0.out⟩
set_option maxRecDepth 100000 in
set_option maxHeartbeats 800000 in
theorem toRow_c (w : World) (B : Nat) (es : List Value) (x : dRow) (h : shRow.reads (Under B) w es x) (hB : B ≤ w.heap.size) (hb : shRow.bulk x ≤ 1048576) :
    Calls Try.prog 115 #[.agg es.toArray] w fun e w' => ∃ es', e = .returned (.agg es'.toArray) ∧ shRow.reads (From w.heap.size w'.heap.size) w' es' x ∧ Below w.heap.size w w' := by
  obtain ⟨a0, n0, c0, rfl, ⟨p0, r0, l0⟩⟩ := shRow_reads.1 h
  rw [shRow_bulk] at hb
  have m0 : n0 ≤ 1048576 := by have := bulk_list Shape.int l0; omega
  have H0 := Lib.hid fun (w1 : World) (hbw : Below w.heap.size w w1) => toIntS_c w1 B a0 n0 c0 _ (l0.below hbw hB) (Nat.le_trans hB hbw.size) (by omega)
  have hbx := Boxes.start w #[.slice a0 n0 c0] #[.slice none 0 0] #[.slice none 0 0] 151 72
  clear h hb l0 r0 p0
  go_enter Try.func115, Try.ntmps115
  go_wp2_with fail
  generalize ((w.alloc (.cells #[.slice a0 n0 c0] 151 (0, 0))).alloc (.cells #[.slice none 0 0] 72 (0, 0))).alloc (.cells #[.slice none 0 0] 72 (0, 0)) = v0 at hbx ⊢
  have BX0 := Lib.hid hbx
  clear hbx
  refine (H0.out v0 BX0.out.below).mono ?_
  rintro e w1 ⟨rfl, hr0, hb0⟩
  have hbx := BX0.out.call hb0
  have hlt0 := BX0.out.size
  have za0_0 : w1.cell? ⟨w.heap.size, 0, none⟩ = _ := cell_of_row _ _ _ _ _ _ hbx.a
  have zo0_0 : w1.cell? ⟨w.heap.size + 1 + 1, 0, none⟩ = _ := cell_of_row _ _ _ _ _ _ hbx.o
  have zr0_0 : w1.cell? ⟨w.heap.size + 1, 0, none⟩ = _ := cell_of_row _ _ _ _ _ _ hbx.z
  have fo0_0 : w1.frozen? ⟨w.heap.size + 1 + 1, 0, none⟩ = false := frozen_of_row _ _ _ _ _ hbx.o
  have fr0_0 : w1.frozen? ⟨w.heap.size + 1, 0, none⟩ = false := frozen_of_row _ _ _ _ _ hbx.z
  simp only [List.setIfInBounds_toArray, List.set_cons_zero, List.set_cons_succ, List.getElem?_toArray, List.getElem?_cons_zero, List.getElem?_cons_succ] at za0_0 zo0_0 zr0_0
  have N0_0 := hr0.lo (Nat.le_trans (by omega) hlt0 : w.heap.size + 3 ≤ v0.heap.size)
  have hby := (hbx.store 0 (.slice (some ⟨v0.heap.size, 0, none⟩) n0 n0))
  have O0_0 := (N0_0.stored (w.heap.size + 1 + 1) 0 (.slice (some ⟨v0.heap.size, 0, none⟩) n0 n0) (by omega))
  replace hby := Lib.hid hby
  replace O0_0 := Lib.hid O0_0
  clear N0_0
  clear hr0 hbx hb0
  go_wp2_with fail
  refine bodyPost_ret (results_cell_row rfl _ _ (w.heap.size + 1) 72 #[.slice (some ⟨v0.heap.size, 0, none⟩) n0 n0] (0, 0) _ rfl ?_ Try.underlying72 rfl (by kernel_rfl)) rfl ?_
  · exact hby.out.result [.slice (some ⟨v0.heap.size, 0, none⟩) n0 n0] rfl
  refine ⟨[.slice (some ⟨v0.heap.size, 0, none⟩) n0 n0], rfl, ?_, hby.out.last [.slice (some ⟨v0.heap.size, 0, none⟩) n0 n0]⟩
  exact shRow_reads.2 ⟨_, _, _, rfl, ⟨Nat.le_refl _, by omega, (O0_0.out.storedAll (w.heap.size + 1) 0 [.slice (some ⟨v0.heap.size, 0, none⟩) n0 n0] (by omega)).lo (by omega)⟩⟩
set_option maxRecDepth 100000 in
set_option maxHeartbeats 800000 in
theorem eqRow_c (w : World) (B B' : Nat) (es es' : List Value) (x : dRow) (h : shRow.reads (Under B) w es x) (h' : shRow.reads (Under B') w es' x) (hB : B ≤ w.heap.size) (hB' : B' ≤ w.heap.size) (hb : shRow.bulk x ≤ 1048576) :
    Calls Try.prog 66 #[.agg es.toArray, .agg es'.toArray] w fun e w' => e = .returned (.bool true) ∧ Below w.heap.size w w' := by
  obtain ⟨a0, n0, c0, rfl, ⟨-, -, l0⟩⟩ := shRow_reads.1 h
  obtain ⟨b0, nb0, cb0, rfl, ⟨-, -, m0⟩⟩ := shRow_reads.1 h'
  obtain rfl : nb0 = n0 := by rw [← l0.1, ← m0.1]
  rw [shRow_bulk] at hb
  have ha := ((Below.refl w.heap.size w).alloc (Nat.le_refl _) (.cells #[.slice a0 nb0 c0] 72 (0, 0))).alloc (by simp) (.cells #[.slice b0 nb0 cb0] 72 (0, 0))
  have hA : ((w.alloc (.cells #[.slice a0 nb0 c0] 72 (0, 0))).alloc (.cells #[.slice b0 nb0 cb0] 72 (0, 0))).heap[w.heap.size]? = some (.cells #[.slice a0 nb0 c0] 72 (0, 0)) := by
    rw [Below.heap_alloc _ _ _ (by simp)]
    exact heap_alloc_new w _
  have hC : ((w.alloc (.cells #[.slice a0 nb0 c0] 72 (0, 0))).alloc (.cells #[.slice b0 nb0 cb0] 72 (0, 0))).heap[w.heap.size + 1]? = some (.cells #[.slice b0 nb0 cb0] 72 (0, 0)) := by
    have := heap_alloc_new (w.alloc (.cells #[.slice a0 nb0 c0] 72 (0, 0))) (.cells #[.slice b0 nb0 cb0] 72 (0, 0))
    simpa using this
  have hS : w.heap.size + 1 < ((w.alloc (.cells #[.slice a0 nb0 c0] 72 (0, 0))).alloc (.cells #[.slice b0 nb0 cb0] 72 (0, 0))).heap.size := by simp
  have H0 := Lib.hid fun (w1 : World) (hbw : Below w.heap.size w w1) => eqIntS_c w1 B B' a0 b0 nb0 c0 cb0 _ (l0.below hbw hB) (m0.below hbw hB') (Nat.le_trans hB hbw.size) (Nat.le_trans hB' hbw.size) (by omega)
  have HA := Lib.hid ha
  have XA := Lib.hid hA
  have XC := Lib.hid hC
  have HS := Lib.hid hS
  clear h h' hb ha hA hC hS l0 m0
  go_enter Try.func66, Try.ntmps66
  go_wp2_with fail
  refine (H0.out _ HA.out).mono ?_
  rintro e w1 ⟨rfl, hb0⟩
  have B0 := Lib.hid (HA.out.trans (hb0.mono HA.out.size))
  clear hb0
  go_wp2_with fail
  go_ret
  exact ⟨rfl, B0.out⟩
set_option maxRecDepth 100000 in
set_option maxHeartbeats 1600000 in
theorem szRowS_c (w : World) (B : Nat) (a : Option Addr) (n c : Nat) (xs : List dRow) (L : Int) (h : ListAt shRow (Under B) w a n xs) (hB : B ≤ w.heap.size) (hn : n ≤ 9223372036854775807) (h0 : 0 ≤ L) (h1 : L ≤ 1048576) :
    Calls Try.prog 90 #[.slice a n c, .int .i64 L] w fun e w' => e = .returned (.int .i64 (szN ((Shape.list shRow).bulk xs) L)) ∧ Below w.heap.size w w' := by
  obtain ⟨d, hd⟩ : ∃ d, d = szN ((Shape.list shRow).bulk xs) L := ⟨_, rfl⟩
  rw [← hd]
  have hbk : (Shape.list shRow).bulk xs = n + Shape.sum shRow.bulk xs := by rw [← h.1]; rfl
  rw [hbk] at hd
  have HD := Lib.hid hd
  have HL := Lib.hid h
  clear hd hbk h
  by_cases hnL : (n : Int) ≤ L
  · have hw : wrap64 (L - n) = L - n := IntWalk.wrap64_in (L - n) (by omega)
    have hlt0 : decide (L - (n : Int) < 0) = false := decide_eq_false (by omega)
    obtain ⟨M, hM⟩ : ∃ M : Int, L - n = M := ⟨_, rfl⟩
    rw [hM] at hw hlt0
    go_enter Try.func90, Try.ntmps90
    go_wp2_with fail
    go_loopw [1, 5] (fun l i wr => ∃ (k : Nat) (V : Int), k ≤ n ∧ i = .int .i64 k ∧ l = .int .i64 V ∧ 0 ≤ V ∧ V ≤ 1048576 ∧ Hid (V = M - Shape.sum shRow.bulk (xs.take k)) ∧ Below w.heap.size w wr) (fun _ i _ => n - (intOf i).toNat)
    case atStart => exact ⟨0, M, Nat.zero_le _, rfl, rfl, by omega, by omega, Lib.hid (by simp [Shape.sum]), Below.refl _ _⟩
    case round =>
      obtain ⟨k, V, hk, rfl, rfl, hV0, hV1, hV, hbw⟩ := hrel
      by_cases hlt : k < n
      · have hx : ∃ x, xs[k]? = some x := ⟨_, List.getElem?_eq_getElem (by rw [HL.out.1]; exact hlt)⟩
        obtain ⟨x, hx⟩ := hx
        obtain ⟨b, o, es, rfl, hbB, hr, hs⟩ := HL.out.2 k x hx
        have hsz := hbw.size
        have hrr := rangeAt_kept hr (show b < w.heap.size from Nat.lt_of_lt_of_le hbB hB) (Kept.of_below (I := Under w.heap.size) hbw fun b hb => hb)
        have HS := Lib.hid (szRow_c wr _ es x V (shRow.below (shRow.le hs hB) hbw (Nat.le_refl _)) hsz hV0 hV1)
        have HST := Lib.hid (sum_take shRow.bulk xs k x hx)
        have HTL := Lib.hid (sum_take_le shRow.bulk xs (k + 1))
        have HBW := Lib.hid hbw
        obtain ⟨u, hu⟩ : ∃ u, shRow.bulk x = u := ⟨_, rfl⟩
        rw [hu] at HS HST
        obtain ⟨ae0, ne0, ce0, rfl, -⟩ := shRow_reads.1 hs
        rw [shRow_size] at hrr
        rw [Nat.mul_one] at hrr
        have c0 := hrr 0 _ rfl
        simp only [Nat.add_zero] at c0
        try dsimp only at c0 HS
        clear hr hrr hs hx hu hbw
        by_cases hfit : (u : Int) ≤ V
        · rw [szN_yes hfit] at HS
          obtain ⟨V', hV'⟩ : ∃ V', V - (u : Int) = V' := ⟨_, rfl⟩
          rw [hV'] at HS
          have hneg : decide (V' < 0) = false := decide_eq_false (by omega)
          go_wp2_with fail
          refine HS.out.mono ?_
          rintro e w' ⟨rfl, hb2⟩
          have HB2 := Lib.hid hb2
          clear hb2
          go_wp2_with fail
          go_round
          case rel => exact ⟨k + 1, V', by omega, by go_num, rfl, by omega, by omega, Lib.hid (by have e1 := HST.out; have e2 := hV.out; omega), HBW.out.trans (HB2.out.mono hsz)⟩
          case measure => simp [intOf]; omega
        · rw [szN_no hfit] at HS
          have hdd : d = -1 := by
            rw [HD.out]
            refine szN_no ?_
            have e1 := HST.out
            have e2 := HTL.out
            have e3 := hV.out
            omega
          subst hdd
          go_wp2_with fail
          refine HS.out.mono ?_
          rintro e w' ⟨rfl, hb2⟩
          have HB2 := Lib.hid hb2
          clear hb2
          go_wp2_with fail
          go_ret
          exact ⟨rfl, HBW.out.trans (HB2.out.mono hsz)⟩
      · have hkn : k = n := by omega
        subst hkn
        have hdd : V = d := by
          rw [HD.out]
          have e1 := hV.out
          have e2 : xs.take k = xs := List.take_of_length_le (by rw [HL.out.1]; exact Nat.le_refl _)
          rw [e2] at e1
          rw [szN_yes (by omega)]
          omega
        subst hdd
        have HBW := Lib.hid hbw
        clear hbw
        go_wp2_with fail
        go_ret
        exact ⟨rfl, HBW.out⟩
  · have hdd : d = -1 := by rw [HD.out]; exact szN_no (by omega)
    subst hdd
    have hw : wrap64 (L - n) = L - n := IntWalk.wrap64_in (L - n) (by omega)
    have hlt0 : decide (L - (n : Int) < 0) = true := decide_eq_true (by omega)
    obtain ⟨M, hM⟩ : ∃ M : Int, L - n = M := ⟨_, rfl⟩
    rw [hM] at hw hlt0
    go_enter Try.func90, Try.ntmps90
    go_wp2_with fail
    go_ret
    exact ⟨rfl, Below.refl _ _⟩
theorem infoAll_Row : (Try.prog.info? 72).map (fun i => (i.zero, i.size, i.bytes)) = some (some (.agg #[.slice none 0 0]), 1, 24) := by kernel_rfl
set_option maxRecDepth 100000 in
set_option maxHeartbeats 1600000 in
theorem toRowS_c (w : World) (B : Nat) (a : Option Addr) (n c : Nat) (xs : List dRow) (h : ListAt shRow (Under B) w a n xs) (hB : B ≤ w.heap.size) (hb : (Shape.list shRow).bulk xs ≤ 1048576) :
    Calls Try.prog 97 #[.slice a n c] w fun e w' => e = .returned (.slice (some ⟨w.heap.size, 0, none⟩) n n) ∧ ListAt shRow (From w.heap.size w'.heap.size) w' (some ⟨w.heap.size, 0, none⟩) n xs ∧ Below w.heap.size w w' := by
  have hbk : (Shape.list shRow).bulk xs = n + Shape.sum shRow.bulk xs := by rw [← h.1]; rfl
  rw [hbk] at hb
  have hmk := run_make_many (P := Try.prog) 43 72 _ 1 24 Try.underlying43 infoAll_Row n (by omega) (by omega)
  have hst := Filled.start shRow w n xs (Value.agg #[.slice none 0 0]).cells 72
  rw [shRow_size, Nat.mul_one] at hst
  replace hst := Lib.hid hst
  have HL := Lib.hid h
  have HB := Lib.hid hb
  have hn1 : n ≤ 1048576 := by omega
  clear hbk h hb
  go_enter Try.func97, Try.ntmps97
  go_wp2_with fail
  go_loopw [4] (fun i wr => ∃ k : Nat, k ≤ n ∧ i = .int .i64 k ∧ Filled shRow w wr n k xs) (fun i _ => n - (intOf i).toNat)
  case atStart => exact ⟨0, Nat.zero_le _, rfl, hst.out⟩
  case round =>
    obtain ⟨k, hk, rfl, hf⟩ := hrel
    by_cases hlt : k < n
    · obtain ⟨x, hx⟩ : ∃ x, xs[k]? = some x := ⟨_, List.getElem?_eq_getElem (by rw [HL.out.1]; exact hlt)⟩
      obtain ⟨b, o, es, rfl, hbB, hr, hs⟩ := HL.out.2 k x hx
      have hfb := hf.below
      have hfl := hf.lt
      have hth0 := hf.rest
      have hrr := rangeAt_kept hr (show b < w.heap.size from Nat.lt_of_lt_of_le hbB hB) (Kept.of_below (I := Under w.heap.size) hfb fun b hb => hb)
      have HS := Lib.hid (toRow_c wr _ es x (shRow.below (shRow.le hs hB) hfb (Nat.le_refl _)) (Nat.le_of_lt hfl) (by have h1 := bulk_mem shRow.bulk xs k x hx; have h2 := HB.out; omega))
      have HF := Lib.hid hf
      have HX := Lib.hid hx
      have HT := Lib.hid hth0
      obtain ⟨ae0, ne0, ce0, rfl, -⟩ := shRow_reads.1 hs
      rw [shRow_size] at hrr
      rw [Nat.mul_one] at hrr
      have c0 := hrr 0 _ rfl
      simp only [Nat.add_zero] at c0
      try dsimp only at c0 HS
      clear hr hrr hs hx hf hth0
      go_wp2_with fail
      clear c0
      refine HS.out.mono ?_
      rintro e w1 ⟨es', rfl, hs', hb1⟩
      have hn4 : 1 ≤ (n - k) * shRow.size := by rw [shRow_size]; omega
      have hth := there_below HT.out hb1 hfl
      have hN := HF.out.step hlt hb1 HX.out hs'
      rw [shRow_size, Nat.mul_one] at hN
      have HN := Lib.hid hN
      have HB1 := Lib.hid hb1
      obtain ⟨af0, nf0, cf0, rfl, -⟩ := shRow_reads.1 hs'
      obtain ⟨⟨v0, d0⟩, f0⟩ := there_cell hth 0 (by omega)
      rw [shRow_size] at d0 f0
      simp only [Nat.add_zero] at d0 f0
      rw [Nat.mul_one] at d0 f0
      clear hs' hb1 hth hN
      go_wp2_with fail
      go_round
      case rel => exact ⟨k + 1, by omega, by go_num, HN.out⟩
      case measure => simp [intOf]; omega
    · obtain rfl : k = n := by omega
      have hz := hf.below
      have HF := Lib.hid hf
      clear hf hz
      go_wp2_with fail
      go_ret
      exact ⟨rfl, HF.out.list HL.out.1, HF.out.below⟩
set_option maxRecDepth 100000 in
set_option maxHeartbeats 1600000 in
theorem eqRowS_c (w : World) (B B' : Nat) (a a' : Option Addr) (n c c' : Nat) (xs : List dRow) (h : ListAt shRow (Under B) w a n xs) (h' : ListAt shRow (Under B') w a' n xs) (hB : B ≤ w.heap.size) (hB' : B' ≤ w.heap.size) (hb : (Shape.list shRow).bulk xs ≤ 1048576) :
    Calls Try.prog 41 #[.slice a n c, .slice a' n c'] w fun e w' => e = .returned (.bool true) ∧ Below w.heap.size w w' := by
  have hbk : (Shape.list shRow).bulk xs = n + Shape.sum shRow.bulk xs := by rw [← h.1]; rfl
  rw [hbk] at hb
  have hn1 : n ≤ 1048576 := by omega
  have HL := Lib.hid (h.le hB)
  have HL' := Lib.hid (h'.le hB')
  have HB := Lib.hid hb
  clear hbk h h' hb
  go_enter Try.func41, Try.ntmps41
  go_wp2_with fail
  go_loopw [5] (fun i wr => ∃ k : Nat, k ≤ n ∧ i = .int .i64 k ∧ Below w.heap.size w wr) (fun i _ => n - (intOf i).toNat)
  case atStart => exact ⟨0, Nat.zero_le _, rfl, Below.refl _ _⟩
  case round =>
    obtain ⟨k, hk, rfl, hbw⟩ := hrel
    by_cases hlt : k < n
    · obtain ⟨x, hx⟩ : ∃ x, xs[k]? = some x := ⟨_, List.getElem?_eq_getElem (by rw [HL.out.1]; exact hlt)⟩
      obtain ⟨b, o, es, rfl, hbB, hr, hs⟩ := HL.out.2 k x hx
      obtain ⟨b', o', es', rfl, hbB', hr', hs'⟩ := HL'.out.2 k x hx
      have hsz := hbw.size
      have hrr := rangeAt_kept hr (show b < w.heap.size from hbB) (Kept.of_below (I := Under w.heap.size) hbw fun b hb => hb)
      have hrr' := rangeAt_kept hr' (show b' < w.heap.size from hbB') (Kept.of_below (I := Under w.heap.size) hbw fun b hb => hb)
      have hsw := shRow.below hs hbw (Nat.le_refl _)
      have hsw' := shRow.below hs' hbw (Nat.le_refl _)
      have hbx : shRow.bulk x ≤ 1048576 := by have h1 := bulk_mem shRow.bulk xs k x hx; have h2 := HB.out; omega
      have HC := Lib.hid fun (w1 : World) (hb1 : Below w.heap.size wr w1) => eqRow_c w1 _ _ es es' x (shRow.below hsw hb1 (Nat.le_refl _)) (shRow.below hsw' hb1 (Nat.le_refl _)) (Nat.le_trans hsz hb1.size) (Nat.le_trans hsz hb1.size) hbx
      have HBW := Lib.hid hbw
      obtain ⟨ae0, ne0, ce0, rfl, -⟩ := shRow_reads.1 hs
      obtain ⟨af0, nf0, cf0, rfl, -⟩ := shRow_reads.1 hs'
      rw [shRow_size] at hrr hrr'
      rw [Nat.mul_one] at hrr hrr'
      have c0 := hrr 0 _ rfl
      have d0 := hrr' 0 _ rfl
      simp only [Nat.add_zero] at c0 d0
      try dsimp only at c0 d0 HC
      clear hr hr' hrr hrr' hs hs' hsw hsw' hx hbw hbx
      go_upto_region 6 with fail
      have k0 := cell_regrown c0
      have l0 := cell_regrown d0
      have cC := fun d os => Calls.regrown_of (w := wr) (d := d) (os := os) (HC.out _ ((below_regrown wr d os).mono hsz))
      have CC := Lib.hid cC
      clear c0 d0 cC
      refine wp_region_quiet_below (by kernel_rfl) (by kernel_rfl) ?_
      repeat (go_big_quiet_step (with_reducible first | exact CC.out _ _))
      refine wpQuiet_nil ?_
      intro _ hw'
      obtain ⟨⟨dq, osq⟩, hw''⟩ := hw'
      subst hw''
      have hwq := below_regrown wr dq osq
      generalize grow (redrawn wr dq) osq = w1 at hwq ⊢
      have HW := Lib.hid hwq
      clear hwq k0 l0
      go_wp2_with fail
      go_round
      case rel => exact ⟨k + 1, by omega, by go_num, HBW.out.trans (HW.out.mono hsz)⟩
      case measure => simp [intOf]; omega
    · obtain rfl : k = n := by omega
      have HBW := Lib.hid hbw
      clear hbw
      go_wp2_with fail
      go_ret
      exact ⟨rfl, HBW.out⟩
abbrev dPair := List Int × List Int
def shPair : Shape dPair := .struct (.cons (Shape.list Shape.int) (.last (Shape.list Shape.int)))
theorem shPair_size : shPair.size = 2 := rfl
theorem shPair_reads {I : Nat → Prop} {w : World} {cs : List Value} {d : dPair} : shPair.reads I w cs d ↔ ∃ a0 n0 c0 a1 n1 c1, cs = [.slice a0 n0 c0, .slice a1 n1 c1] ∧ (n0 ≤ c0 ∧ c0 ≤ 9223372036854775807 ∧ ListAt Shape.int I w a0 n0 d.1) ∧ (n1 ≤ c1 ∧ c1 ≤ 9223372036854775807 ∧ ListAt Shape.int I w a1 n1 d.2) := by
  constructor
  · rintro ⟨_, _, rfl, ⟨a0, n0, c0, rfl, g0⟩, ⟨a1, n1, c1, rfl, g1⟩⟩
    exact ⟨a0, n0, c0, a1, n1, c1, rfl, g0, g1⟩
  · rintro ⟨a0, n0, c0, a1, n1, c1, rfl, g0, g1⟩
    exact ⟨_, _, rfl, ⟨a0, n0, c0, rfl, g0⟩, ⟨a1, n1, c1, rfl, g1⟩⟩
theorem shPair_bulk (d : dPair) : shPair.bulk d = (Shape.list Shape.int).bulk d.1 + (Shape.list Shape.int).bulk d.2 := by
  simp only [shPair, Shape.struct, FieldsOf.cons, FieldsOf.last, Shape.int, Shape.bool]
  try omega
set_option maxRecDepth 100000 in
theorem szPair_c (w : World) (B : Nat) (es : List Value) (x : dPair) (L : Int) (h : shPair.reads (Under B) w es x) (hB : B ≤ w.heap.size) (h0 : 0 ≤ L) (h1 : L ≤ 1048576) :
    Calls Try.prog 56 #[.agg es.toArray, .int .i64 L] w fun e w' => e = .returned (.int .i64 (szN (shPair.bulk x) L)) ∧ Below w.heap.size w w' := by
  obtain ⟨a0, n0, c0, a1, n1, c1, rfl, ⟨p0, r0, l0⟩, ⟨p1, r1, l1⟩⟩ := shPair_reads.1 h
  rw [shPair_bulk]
  have ha := (Below.refl w.heap.size w).alloc (Nat.le_refl _) (.cells #[.slice a0 n0 c0, .slice a1 n1 c1] 92 (0, 0))
  have hb0 := heap_alloc_new w (.cells #[.slice a0 n0 c0, .slice a1 n1 c1] 92 (0, 0))
  have hs0 : w.heap.size < (w.alloc (.cells #[.slice a0 n0 c0, .slice a1 n1 c1] 92 (0, 0))).heap.size := by simp
  have H0 := fun (w1 : World) (hb : Below w.heap.size w w1) (V : Int) (g0 : 0 ≤ V) (g1 : V ≤ 1048576) => szIntS_c w1 B a0 n0 c0 _ V (l0.below hb hB) (Nat.le_trans hB hb.size) (by omega) g0 g1
  obtain ⟨u0, hu0⟩ : ∃ u, (Shape.list Shape.int).bulk x.1 = u := ⟨_, rfl⟩
  simp only [hu0] at H0 ⊢
  have H1 := fun (w1 : World) (hb : Below w.heap.size w w1) (V : Int) (g0 : 0 ≤ V) (g1 : V ≤ 1048576) => szIntS_c w1 B a1 n1 c1 _ V (l1.below hb hB) (Nat.le_trans hB hb.size) (by omega) g0 g1
  obtain ⟨u1, hu1⟩ : ∃ u, (Shape.list Shape.int).bulk x.2 = u := ⟨_, rfl⟩
  simp only [hu1] at H1 ⊢
  replace H0 := Lib.hid H0
  replace H1 := Lib.hid H1
  have HA := Lib.hid ha
  have HB0 := Lib.hid hb0
  have HS0 := Lib.hid hs0
  clear ha hb0 hs0 h hu0 hu1
  clear p0 r0 l0 p1 r1 l1
  obtain ⟨d, hd⟩ : ∃ d, d = szN (u0 + u1) L := ⟨_, rfl⟩
  rw [← hd]
  replace HD := Lib.hid hd
  clear hd
  by_cases f0 : (u0 : Int) ≤ L
  · have q0 := H0.out _ HA.out L (by omega) (by omega)
    rw [szN_yes f0] at q0
    obtain ⟨V0, hV0⟩ : ∃ V', L - (u0 : Int) = V' := ⟨_, rfl⟩
    rw [hV0] at q0
    have t0 : decide (V0 < 0) = false := decide_eq_false (by omega)
    replace q0 := Lib.hid q0
    go_enter Try.func56, Try.ntmps56
    go_wp2_with fail
    refine q0.out.mono ?_
    rintro e w1 ⟨rfl, hb0⟩
    have B0 := Lib.hid (HA.out.trans (hb0.mono HA.out.size))
    have X0 := Lib.hid ((hb0.block w.heap.size HS0.out).trans HB0.out)
    have S0 := Lib.hid (hb0.size)
    clear hb0
    have z0_0 : w1.cell? ⟨w.heap.size, 0, none⟩ = _ := cell_of_row _ _ _ _ _ _ X0.out
    have z0_1 : w1.cell? ⟨w.heap.size, 1, none⟩ = _ := cell_of_row _ _ _ _ _ _ X0.out
    simp only [List.getElem?_toArray, List.getElem?_cons_zero, List.getElem?_cons_succ] at z0_0 z0_1
    by_cases f1 : (u1 : Int) ≤ V0
    · have q1 := H1.out _ B0.out V0 (by omega) (by omega)
      rw [szN_yes f1] at q1
      obtain ⟨V1, hV1⟩ : ∃ V', V0 - (u1 : Int) = V' := ⟨_, rfl⟩
      rw [hV1] at q1
      have t1 : decide (V1 < 0) = false := decide_eq_false (by omega)
      have hdd : V1 = d := by rw [HD.out, szN_yes (by omega)]; omega
      subst hdd
      replace q1 := Lib.hid q1
      go_wp2_with fail
      refine q1.out.mono ?_
      rintro e w2 ⟨rfl, hb1⟩
      have B1 := Lib.hid (B0.out.trans (hb1.mono B0.out.size))
      clear hb1
      go_wp2_with fail
      go_ret
      exact ⟨rfl, B1.out⟩
    · have q1 := H1.out _ B0.out V0 (by omega) (by omega)
      rw [szN_no f1] at q1
      have hdd : d = -1 := by rw [HD.out]; exact szN_no (by omega)
      subst hdd
      replace q1 := Lib.hid q1
      go_wp2_with fail
      refine q1.out.mono ?_
      rintro e w2 ⟨rfl, hb1⟩
      have B1 := Lib.hid (B0.out.trans (hb1.mono B0.out.size))
      clear hb1
      go_wp2_with fail
      go_ret
      exact ⟨rfl, B1.out⟩
  · have q0 := H0.out _ HA.out L (by omega) (by omega)
    rw [szN_no f0] at q0
    have hdd : d = -1 := by rw [HD.out]; exact szN_no (by omega)
    subst hdd
    replace q0 := Lib.hid q0
    go_enter Try.func56, Try.ntmps56
    go_wp2_with fail
    refine q0.out.mono ?_
    rintro e w1 ⟨rfl, hb0⟩
    have B0 := Lib.hid (HA.out.trans (hb0.mono HA.out.size))
    clear hb0
    go_wp2_with fail
    go_ret
    exact ⟨rfl, B0.out⟩
set_option maxRecDepth 100000 in
set_option maxHeartbeats 800000 in
theorem toPair_c (w : World) (B : Nat) (es : List Value) (x : dPair) (h : shPair.reads (Under B) w es x) (hB : B ≤ w.heap.size) (hb : shPair.bulk x ≤ 1048576) :
    Calls Try.prog 59 #[.agg es.toArray] w fun e w' => ∃ es', e = .returned (.agg es'.toArray) ∧ shPair.reads (From w.heap.size w'.heap.size) w' es' x ∧ Below w.heap.size w w' := by
  obtain ⟨a0, n0, c0, a1, n1, c1, rfl, ⟨p0, r0, l0⟩, ⟨p1, r1, l1⟩⟩ := shPair_reads.1 h
  rw [shPair_bulk] at hb
  have m0 : n0 ≤ 1048576 := by have := bulk_list Shape.int l0; omega
  have H0 := Lib.hid fun (w1 : World) (hbw : Below w.heap.size w w1) => toIntS_c w1 B a0 n0 c0 _ (l0.below hbw hB) (Nat.le_trans hB hbw.size) (by omega)
  have m1 : n1 ≤ 1048576 := by have := bulk_list Shape.int l1; omega
  have H1 := Lib.hid fun (w1 : World) (hbw : Below w.heap.size w w1) => toIntS_c w1 B a1 n1 c1 _ (l1.below hbw hB) (Nat.le_trans hB hbw.size) (by omega)
  have hbx := Boxes.start w #[.slice a0 n0 c0, .slice a1 n1 c1] #[.slice none 0 0, .slice none 0 0] #[.slice none 0 0, .slice none 0 0] 92 82
  clear h hb l0 r0 p0 l1 r1 p1
  go_enter Try.func59, Try.ntmps59
  go_wp2_with fail
  generalize ((w.alloc (.cells #[.slice a0 n0 c0, .slice a1 n1 c1] 92 (0, 0))).alloc (.cells #[.slice none 0 0, .slice none 0 0] 82 (0, 0))).alloc (.cells #[.slice none 0 0, .slice none 0 0] 82 (0, 0)) = v0 at hbx ⊢
  have BX0 := Lib.hid hbx
  clear hbx
  refine (H0.out v0 BX0.out.below).mono ?_
  rintro e w1 ⟨rfl, hr0, hb0⟩
  have hbx := BX0.out.call hb0
  have hlt0 := BX0.out.size
  have za0_0 : w1.cell? ⟨w.heap.size, 0, none⟩ = _ := cell_of_row _ _ _ _ _ _ hbx.a
  have za0_1 : w1.cell? ⟨w.heap.size, 1, none⟩ = _ := cell_of_row _ _ _ _ _ _ hbx.a
  have zo0_0 : w1.cell? ⟨w.heap.size + 1 + 1, 0, none⟩ = _ := cell_of_row _ _ _ _ _ _ hbx.o
  have zo0_1 : w1.cell? ⟨w.heap.size + 1 + 1, 1, none⟩ = _ := cell_of_row _ _ _ _ _ _ hbx.o
  have zr0_0 : w1.cell? ⟨w.heap.size + 1, 0, none⟩ = _ := cell_of_row _ _ _ _ _ _ hbx.z
  have zr0_1 : w1.cell? ⟨w.heap.size + 1, 1, none⟩ = _ := cell_of_row _ _ _ _ _ _ hbx.z
  have fo0_0 : w1.frozen? ⟨w.heap.size + 1 + 1, 0, none⟩ = false := frozen_of_row _ _ _ _ _ hbx.o
  have fr0_0 : w1.frozen? ⟨w.heap.size + 1, 0, none⟩ = false := frozen_of_row _ _ _ _ _ hbx.z
  have fo0_1 : w1.frozen? ⟨w.heap.size + 1 + 1, 1, none⟩ = false := frozen_of_row _ _ _ _ _ hbx.o
  have fr0_1 : w1.frozen? ⟨w.heap.size + 1, 1, none⟩ = false := frozen_of_row _ _ _ _ _ hbx.z
  simp only [List.setIfInBounds_toArray, List.set_cons_zero, List.set_cons_succ, List.getElem?_toArray, List.getElem?_cons_zero, List.getElem?_cons_succ] at za0_0 zo0_0 zr0_0 za0_1 zo0_1 zr0_1
  have N0_0 := hr0.lo (Nat.le_trans (by omega) hlt0 : w.heap.size + 3 ≤ v0.heap.size)
  have hby := (hbx.store 0 (.slice (some ⟨v0.heap.size, 0, none⟩) n0 n0))
  have O0_0 := (N0_0.stored (w.heap.size + 1 + 1) 0 (.slice (some ⟨v0.heap.size, 0, none⟩) n0 n0) (by omega))
  replace hb0 := Lib.hid hb0
  replace hby := Lib.hid hby
  replace O0_0 := Lib.hid O0_0
  clear N0_0
  clear hr0 hbx
  go_wp2_with fail
  clear za0_0 zo0_0 zr0_0 fo0_0 fr0_0 za0_1 zo0_1 zr0_1 fo0_1 fr0_1
  generalize (w1.setCell ⟨w.heap.size + 1 + 1, 0, none⟩ (.slice (some ⟨v0.heap.size, 0, none⟩) n0 n0)) = v1 at hby O0_0 ⊢
  have BX1 := hby
  have M0_0 := O0_0
  clear O0_0 hby
  refine (H1.out v1 BX1.out.below).mono ?_
  rintro e w2 ⟨rfl, hr1, hb1⟩
  have hbx := BX1.out.call hb1
  have hlt1 := BX1.out.size
  have za1_0 : w2.cell? ⟨w.heap.size, 0, none⟩ = _ := cell_of_row _ _ _ _ _ _ hbx.a
  have za1_1 : w2.cell? ⟨w.heap.size, 1, none⟩ = _ := cell_of_row _ _ _ _ _ _ hbx.a
  have zo1_0 : w2.cell? ⟨w.heap.size + 1 + 1, 0, none⟩ = _ := cell_of_row _ _ _ _ _ _ hbx.o
  have zo1_1 : w2.cell? ⟨w.heap.size + 1 + 1, 1, none⟩ = _ := cell_of_row _ _ _ _ _ _ hbx.o
  have zr1_0 : w2.cell? ⟨w.heap.size + 1, 0, none⟩ = _ := cell_of_row _ _ _ _ _ _ hbx.z
  have zr1_1 : w2.cell? ⟨w.heap.size + 1, 1, none⟩ = _ := cell_of_row _ _ _ _ _ _ hbx.z
  have fo1_0 : w2.frozen? ⟨w.heap.size + 1 + 1, 0, none⟩ = false := frozen_of_row _ _ _ _ _ hbx.o
  have fr1_0 : w2.frozen? ⟨w.heap.size + 1, 0, none⟩ = false := frozen_of_row _ _ _ _ _ hbx.z
  have fo1_1 : w2.frozen? ⟨w.heap.size + 1 + 1, 1, none⟩ = false := frozen_of_row _ _ _ _ _ hbx.o
  have fr1_1 : w2.frozen? ⟨w.heap.size + 1, 1, none⟩ = false := frozen_of_row _ _ _ _ _ hbx.z
  simp only [List.setIfInBounds_toArray, List.set_cons_zero, List.set_cons_succ, List.getElem?_toArray, List.getElem?_cons_zero, List.getElem?_cons_succ] at za1_0 zo1_0 zr1_0 za1_1 zo1_1 zr1_1
  have N0_1 := M0_0.out.called hb1
  have N1_1 := hr1.lo (Nat.le_trans (by omega) hlt1 : w.heap.size + 3 ≤ v1.heap.size)
  have hby := (hbx.store 1 (.slice (some ⟨v1.heap.size, 0, none⟩) n1 n1))
  have O0_1 := (N0_1.stored (w.heap.size + 1 + 1) 1 (.slice (some ⟨v1.heap.size, 0, none⟩) n1 n1) (by omega))
  have O1_1 := (N1_1.stored (w.heap.size + 1 + 1) 1 (.slice (some ⟨v1.heap.size, 0, none⟩) n1 n1) (by omega))
  replace hby := Lib.hid hby
  replace O0_1 := Lib.hid O0_1
  clear N0_1
  replace O1_1 := Lib.hid O1_1
  clear N1_1
  clear hr1 hbx hb1
  go_wp2_with fail
  refine bodyPost_ret (results_cell_row rfl _ _ (w.heap.size + 1) 82 #[.slice (some ⟨v0.heap.size, 0, none⟩) n0 n0, .slice (some ⟨v1.heap.size, 0, none⟩) n1 n1] (0, 0) _ rfl ?_ Try.underlying82 rfl (by kernel_rfl)) rfl ?_
  · exact hby.out.result [.slice (some ⟨v0.heap.size, 0, none⟩) n0 n0, .slice (some ⟨v1.heap.size, 0, none⟩) n1 n1] rfl
  refine ⟨[.slice (some ⟨v0.heap.size, 0, none⟩) n0 n0, .slice (some ⟨v1.heap.size, 0, none⟩) n1 n1], rfl, ?_, hby.out.last [.slice (some ⟨v0.heap.size, 0, none⟩) n0 n0, .slice (some ⟨v1.heap.size, 0, none⟩) n1 n1]⟩
  exact shPair_reads.2 ⟨_, _, _, _, _, _, rfl, ⟨Nat.le_refl _, by omega, (O0_1.out.storedAll (w.heap.size + 1) 0 [.slice (some ⟨v0.heap.size, 0, none⟩) n0 n0, .slice (some ⟨v1.heap.size, 0, none⟩) n1 n1] (by omega)).lo (by omega)⟩, ⟨Nat.le_refl _, by omega, (O1_1.out.storedAll (w.heap.size + 1) 0 [.slice (some ⟨v0.heap.size, 0, none⟩) n0 n0, .slice (some ⟨v1.heap.size, 0, none⟩) n1 n1] (by omega)).lo (by omega)⟩⟩
set_option maxRecDepth 100000 in
set_option maxHeartbeats 800000 in
theorem eqPair_c (w : World) (B B' : Nat) (es es' : List Value) (x : dPair) (h : shPair.reads (Under B) w es x) (h' : shPair.reads (Under B') w es' x) (hB : B ≤ w.heap.size) (hB' : B' ≤ w.heap.size) (hb : shPair.bulk x ≤ 1048576) :
    Calls Try.prog 62 #[.agg es.toArray, .agg es'.toArray] w fun e w' => e = .returned (.bool true) ∧ Below w.heap.size w w' := by
  obtain ⟨a0, n0, c0, a1, n1, c1, rfl, ⟨-, -, l0⟩, ⟨-, -, l1⟩⟩ := shPair_reads.1 h
  obtain ⟨b0, nb0, cb0, b1, nb1, cb1, rfl, ⟨-, -, m0⟩, ⟨-, -, m1⟩⟩ := shPair_reads.1 h'
  obtain rfl : nb0 = n0 := by rw [← l0.1, ← m0.1]
  obtain rfl : nb1 = n1 := by rw [← l1.1, ← m1.1]
  rw [shPair_bulk] at hb
  have ha := ((Below.refl w.heap.size w).alloc (Nat.le_refl _) (.cells #[.slice a0 nb0 c0, .slice a1 nb1 c1] 82 (0, 0))).alloc (by simp) (.cells #[.slice b0 nb0 cb0, .slice b1 nb1 cb1] 82 (0, 0))
  have hA : ((w.alloc (.cells #[.slice a0 nb0 c0, .slice a1 nb1 c1] 82 (0, 0))).alloc (.cells #[.slice b0 nb0 cb0, .slice b1 nb1 cb1] 82 (0, 0))).heap[w.heap.size]? = some (.cells #[.slice a0 nb0 c0, .slice a1 nb1 c1] 82 (0, 0)) := by
    rw [Below.heap_alloc _ _ _ (by simp)]
    exact heap_alloc_new w _
  have hC : ((w.alloc (.cells #[.slice a0 nb0 c0, .slice a1 nb1 c1] 82 (0, 0))).alloc (.cells #[.slice b0 nb0 cb0, .slice b1 nb1 cb1] 82 (0, 0))).heap[w.heap.size + 1]? = some (.cells #[.slice b0 nb0 cb0, .slice b1 nb1 cb1] 82 (0, 0)) := by
    have := heap_alloc_new (w.alloc (.cells #[.slice a0 nb0 c0, .slice a1 nb1 c1] 82 (0, 0))) (.cells #[.slice b0 nb0 cb0, .slice b1 nb1 cb1] 82 (0, 0))
    simpa using this
  have hS : w.heap.size + 1 < ((w.alloc (.cells #[.slice a0 nb0 c0, .slice a1 nb1 c1] 82 (0, 0))).alloc (.cells #[.slice b0 nb0 cb0, .slice b1 nb1 cb1] 82 (0, 0))).heap.size := by simp
  have H0 := Lib.hid fun (w1 : World) (hbw : Below w.heap.size w w1) => eqIntS_c w1 B B' a0 b0 nb0 c0 cb0 _ (l0.below hbw hB) (m0.below hbw hB') (Nat.le_trans hB hbw.size) (Nat.le_trans hB' hbw.size) (by omega)
  have H1 := Lib.hid fun (w1 : World) (hbw : Below w.heap.size w w1) => eqIntS_c w1 B B' a1 b1 nb1 c1 cb1 _ (l1.below hbw hB) (m1.below hbw hB') (Nat.le_trans hB hbw.size) (Nat.le_trans hB' hbw.size) (by omega)
  have HA := Lib.hid ha
  have XA := Lib.hid hA
  have XC := Lib.hid hC
  have HS := Lib.hid hS
  clear h h' hb ha hA hC hS l0 m0 l1 m1
  go_enter Try.func62, Try.ntmps62
  go_wp2_with fail
  refine (H0.out _ HA.out).mono ?_
  rintro e w1 ⟨rfl, hb0⟩
  have B0 := Lib.hid (HA.out.trans (hb0.mono HA.out.size))
  have XA0 := Lib.hid ((hb0.block w.heap.size (by have := HS.out; omega)).trans XA.out)
  have XC0 := Lib.hid ((hb0.block (w.heap.size + 1) HS.out).trans XC.out)
  have HS0 := Lib.hid (Nat.lt_of_lt_of_le HS.out hb0.size)
  have za0_0 : w1.cell? ⟨w.heap.size, 0, none⟩ = _ := cell_of_row _ _ _ _ _ _ XA0.out
  have zc0_0 : w1.cell? ⟨w.heap.size + 1, 0, none⟩ = _ := cell_of_row _ _ _ _ _ _ XC0.out
  have za0_1 : w1.cell? ⟨w.heap.size, 1, none⟩ = _ := cell_of_row _ _ _ _ _ _ XA0.out
  have zc0_1 : w1.cell? ⟨w.heap.size + 1, 1, none⟩ = _ := cell_of_row _ _ _ _ _ _ XC0.out
  simp only [List.getElem?_toArray, List.getElem?_cons_zero, List.getElem?_cons_succ] at za0_0 zc0_0 za0_1 zc0_1
  clear hb0
  go_wp2_with fail
  refine (H1.out _ B0.out).mono ?_
  rintro e w2 ⟨rfl, hb1⟩
  have B1 := Lib.hid (B0.out.trans (hb1.mono B0.out.size))
  clear hb1
  go_wp2_with fail
  go_ret
  exact ⟨rfl, B1.out⟩
set_option maxRecDepth 100000 in
set_option maxHeartbeats 1600000 in
theorem szPairS_c (w : World) (B : Nat) (a : Option Addr) (n c : Nat) (xs : List dPair) (L : Int) (h : ListAt shPair (Under B) w a n xs) (hB : B ≤ w.heap.size) (hn : n ≤ 9223372036854775807) (h0 : 0 ≤ L) (h1 : L ≤ 1048576) :
    Calls Try.prog 26 #[.slice a n c, .int .i64 L] w fun e w' => e = .returned (.int .i64 (szN ((Shape.list shPair).bulk xs) L)) ∧ Below w.heap.size w w' := by
  obtain ⟨d, hd⟩ : ∃ d, d = szN ((Shape.list shPair).bulk xs) L := ⟨_, rfl⟩
  rw [← hd]
  have hbk : (Shape.list shPair).bulk xs = n + Shape.sum shPair.bulk xs := by rw [← h.1]; rfl
  rw [hbk] at hd
  have HD := Lib.hid hd
  have HL := Lib.hid h
  clear hd hbk h
  by_cases hnL : (n : Int) ≤ L
  · have hw : wrap64 (L - n) = L - n := IntWalk.wrap64_in (L - n) (by omega)
    have hlt0 : decide (L - (n : Int) < 0) = false := decide_eq_false (by omega)
    obtain ⟨M, hM⟩ : ∃ M : Int, L - n = M := ⟨_, rfl⟩
    rw [hM] at hw hlt0
    go_enter Try.func26, Try.ntmps26
    go_wp2_with fail
    go_loopw [1, 5] (fun l i wr => ∃ (k : Nat) (V : Int), k ≤ n ∧ i = .int .i64 k ∧ l = .int .i64 V ∧ 0 ≤ V ∧ V ≤ 1048576 ∧ Hid (V = M - Shape.sum shPair.bulk (xs.take k)) ∧ Below w.heap.size w wr) (fun _ i _ => n - (intOf i).toNat)
    case atStart => exact ⟨0, M, Nat.zero_le _, rfl, rfl, by omega, by omega, Lib.hid (by simp [Shape.sum]), Below.refl _ _⟩
    case round =>
      obtain ⟨k, V, hk, rfl, rfl, hV0, hV1, hV, hbw⟩ := hrel
      by_cases hlt : k < n
      · have hx : ∃ x, xs[k]? = some x := ⟨_, List.getElem?_eq_getElem (by rw [HL.out.1]; exact hlt)⟩
        obtain ⟨x, hx⟩ := hx
        obtain ⟨b, o, es, rfl, hbB, hr, hs⟩ := HL.out.2 k x hx
        have hsz := hbw.size
        have hrr := rangeAt_kept hr (show b < w.heap.size from Nat.lt_of_lt_of_le hbB hB) (Kept.of_below (I := Under w.heap.size) hbw fun b hb => hb)
        have HS := Lib.hid (szPair_c wr _ es x V (shPair.below (shPair.le hs hB) hbw (Nat.le_refl _)) hsz hV0 hV1)
        have HST := Lib.hid (sum_take shPair.bulk xs k x hx)
        have HTL := Lib.hid (sum_take_le shPair.bulk xs (k + 1))
        have HBW := Lib.hid hbw
        obtain ⟨u, hu⟩ : ∃ u, shPair.bulk x = u := ⟨_, rfl⟩
        rw [hu] at HS HST
        obtain ⟨ae0, ne0, ce0, ae1, ne1, ce1, rfl, -⟩ := shPair_reads.1 hs
        rw [shPair_size] at hrr
        have c0 := hrr 0 _ rfl
        have c1 := hrr 1 _ rfl
        simp only [Nat.add_zero] at c0
        try dsimp only at c0 c1 HS
        clear hr hrr hs hx hu hbw
        by_cases hfit : (u : Int) ≤ V
        · rw [szN_yes hfit] at HS
          obtain ⟨V', hV'⟩ : ∃ V', V - (u : Int) = V' := ⟨_, rfl⟩
          rw [hV'] at HS
          have hneg : decide (V' < 0) = false := decide_eq_false (by omega)
          go_wp2_with fail
          refine HS.out.mono ?_
          rintro e w' ⟨rfl, hb2⟩
          have HB2 := Lib.hid hb2
          clear hb2
          go_wp2_with fail
          go_round
          case rel => exact ⟨k + 1, V', by omega, by go_num, rfl, by omega, by omega, Lib.hid (by have e1 := HST.out; have e2 := hV.out; omega), HBW.out.trans (HB2.out.mono hsz)⟩
          case measure => simp [intOf]; omega
        · rw [szN_no hfit] at HS
          have hdd : d = -1 := by
            rw [HD.out]
            refine szN_no ?_
            have e1 := HST.out
            have e2 := HTL.out
            have e3 := hV.out
            omega
          subst hdd
          go_wp2_with fail
          refine HS.out.mono ?_
          rintro e w' ⟨rfl, hb2⟩
          have HB2 := Lib.hid hb2
          clear hb2
          go_wp2_with fail
          go_ret
          exact ⟨rfl, HBW.out.trans (HB2.out.mono hsz)⟩
      · have hkn : k = n := by omega
        subst hkn
        have hdd : V = d := by
          rw [HD.out]
          have e1 := hV.out
          have e2 : xs.take k = xs := List.take_of_length_le (by rw [HL.out.1]; exact Nat.le_refl _)
          rw [e2] at e1
          rw [szN_yes (by omega)]
          omega
        subst hdd
        have HBW := Lib.hid hbw
        clear hbw
        go_wp2_with fail
        go_ret
        exact ⟨rfl, HBW.out⟩
  · have hdd : d = -1 := by rw [HD.out]; exact szN_no (by omega)
    subst hdd
    have hw : wrap64 (L - n) = L - n := IntWalk.wrap64_in (L - n) (by omega)
    have hlt0 : decide (L - (n : Int) < 0) = true := decide_eq_true (by omega)
    obtain ⟨M, hM⟩ : ∃ M : Int, L - n = M := ⟨_, rfl⟩
    rw [hM] at hw hlt0
    go_enter Try.func26, Try.ntmps26
    go_wp2_with fail
    go_ret
    exact ⟨rfl, Below.refl _ _⟩
theorem infoAll_Pair : (Try.prog.info? 82).map (fun i => (i.zero, i.size, i.bytes)) = some (some (.agg #[.slice none 0 0, .slice none 0 0]), 2, 48) := by kernel_rfl
set_option maxRecDepth 100000 in
set_option maxHeartbeats 1600000 in
theorem toPairS_c (w : World) (B : Nat) (a : Option Addr) (n c : Nat) (xs : List dPair) (h : ListAt shPair (Under B) w a n xs) (hB : B ≤ w.heap.size) (hb : (Shape.list shPair).bulk xs ≤ 1048576) :
    Calls Try.prog 30 #[.slice a n c] w fun e w' => e = .returned (.slice (some ⟨w.heap.size, 0, none⟩) n n) ∧ ListAt shPair (From w.heap.size w'.heap.size) w' (some ⟨w.heap.size, 0, none⟩) n xs ∧ Below w.heap.size w w' := by
  have hbk : (Shape.list shPair).bulk xs = n + Shape.sum shPair.bulk xs := by rw [← h.1]; rfl
  rw [hbk] at hb
  have hmk := run_make_many (P := Try.prog) 31 82 _ 2 48 Try.underlying31 infoAll_Pair n (by omega) (by omega)
  have hst := Filled.start shPair w n xs (Value.agg #[.slice none 0 0, .slice none 0 0]).cells 82
  replace hst := Lib.hid hst
  have HL := Lib.hid h
  have HB := Lib.hid hb
  have hn1 : n ≤ 1048576 := by omega
  clear hbk h hb
  go_enter Try.func30, Try.ntmps30
  go_wp2_with fail
  go_loopw [4] (fun i wr => ∃ k : Nat, k ≤ n ∧ i = .int .i64 k ∧ Filled shPair w wr n k xs) (fun i _ => n - (intOf i).toNat)
  case atStart => exact ⟨0, Nat.zero_le _, rfl, hst.out⟩
  case round =>
    obtain ⟨k, hk, rfl, hf⟩ := hrel
    by_cases hlt : k < n
    · obtain ⟨x, hx⟩ : ∃ x, xs[k]? = some x := ⟨_, List.getElem?_eq_getElem (by rw [HL.out.1]; exact hlt)⟩
      obtain ⟨b, o, es, rfl, hbB, hr, hs⟩ := HL.out.2 k x hx
      have hfb := hf.below
      have hfl := hf.lt
      have hth0 := hf.rest
      have hrr := rangeAt_kept hr (show b < w.heap.size from Nat.lt_of_lt_of_le hbB hB) (Kept.of_below (I := Under w.heap.size) hfb fun b hb => hb)
      have HS := Lib.hid (toPair_c wr _ es x (shPair.below (shPair.le hs hB) hfb (Nat.le_refl _)) (Nat.le_of_lt hfl) (by have h1 := bulk_mem shPair.bulk xs k x hx; have h2 := HB.out; omega))
      have HF := Lib.hid hf
      have HX := Lib.hid hx
      have HT := Lib.hid hth0
      obtain ⟨ae0, ne0, ce0, ae1, ne1, ce1, rfl, -⟩ := shPair_reads.1 hs
      rw [shPair_size] at hrr
      have c0 := hrr 0 _ rfl
      have c1 := hrr 1 _ rfl
      simp only [Nat.add_zero] at c0
      try dsimp only at c0 c1 HS
      clear hr hrr hs hx hf hth0
      go_wp2_with fail
      clear c0 c1
      refine HS.out.mono ?_
      rintro e w1 ⟨es', rfl, hs', hb1⟩
      have hn4 : 2 ≤ (n - k) * shPair.size := by rw [shPair_size]; omega
      have hth := there_below HT.out hb1 hfl
      have hN := HF.out.step hlt hb1 HX.out hs'
      have HN := Lib.hid hN
      have HB1 := Lib.hid hb1
      obtain ⟨af0, nf0, cf0, af1, nf1, cf1, rfl, -⟩ := shPair_reads.1 hs'
      obtain ⟨⟨v0, d0⟩, f0⟩ := there_cell hth 0 (by omega)
      obtain ⟨⟨v1, d1⟩, f1⟩ := there_cell hth 1 (by omega)
      rw [shPair_size] at d0 d1 f0 f1
      simp only [Nat.add_zero] at d0 f0
      clear hs' hb1 hth hN
      go_wp2_with fail
      go_round
      case rel => exact ⟨k + 1, by omega, by go_num, HN.out⟩
      case measure => simp [intOf]; omega
    · obtain rfl : k = n := by omega
      have hz := hf.below
      have HF := Lib.hid hf
      clear hf hz
      go_wp2_with fail
      go_ret
      exact ⟨rfl, HF.out.list HL.out.1, HF.out.below⟩
set_option maxRecDepth 100000 in
set_option maxHeartbeats 1600000 in
theorem eqPairS_c (w : World) (B B' : Nat) (a a' : Option Addr) (n c c' : Nat) (xs : List dPair) (h : ListAt shPair (Under B) w a n xs) (h' : ListAt shPair (Under B') w a' n xs) (hB : B ≤ w.heap.size) (hB' : B' ≤ w.heap.size) (hb : (Shape.list shPair).bulk xs ≤ 1048576) :
    Calls Try.prog 34 #[.slice a n c, .slice a' n c'] w fun e w' => e = .returned (.bool true) ∧ Below w.heap.size w w' := by
  have hbk : (Shape.list shPair).bulk xs = n + Shape.sum shPair.bulk xs := by rw [← h.1]; rfl
  rw [hbk] at hb
  have hn1 : n ≤ 1048576 := by omega
  have HL := Lib.hid (h.le hB)
  have HL' := Lib.hid (h'.le hB')
  have HB := Lib.hid hb
  clear hbk h h' hb
  go_enter Try.func34, Try.ntmps34
  go_wp2_with fail
  go_loopw [5] (fun i wr => ∃ k : Nat, k ≤ n ∧ i = .int .i64 k ∧ Below w.heap.size w wr) (fun i _ => n - (intOf i).toNat)
  case atStart => exact ⟨0, Nat.zero_le _, rfl, Below.refl _ _⟩
  case round =>
    obtain ⟨k, hk, rfl, hbw⟩ := hrel
    by_cases hlt : k < n
    · obtain ⟨x, hx⟩ : ∃ x, xs[k]? = some x := ⟨_, List.getElem?_eq_getElem (by rw [HL.out.1]; exact hlt)⟩
      obtain ⟨b, o, es, rfl, hbB, hr, hs⟩ := HL.out.2 k x hx
      obtain ⟨b', o', es', rfl, hbB', hr', hs'⟩ := HL'.out.2 k x hx
      have hsz := hbw.size
      have hrr := rangeAt_kept hr (show b < w.heap.size from hbB) (Kept.of_below (I := Under w.heap.size) hbw fun b hb => hb)
      have hrr' := rangeAt_kept hr' (show b' < w.heap.size from hbB') (Kept.of_below (I := Under w.heap.size) hbw fun b hb => hb)
      have hsw := shPair.below hs hbw (Nat.le_refl _)
      have hsw' := shPair.below hs' hbw (Nat.le_refl _)
      have hbx : shPair.bulk x ≤ 1048576 := by have h1 := bulk_mem shPair.bulk xs k x hx; have h2 := HB.out; omega
      have HC := Lib.hid fun (w1 : World) (hb1 : Below w.heap.size wr w1) => eqPair_c w1 _ _ es es' x (shPair.below hsw hb1 (Nat.le_refl _)) (shPair.below hsw' hb1 (Nat.le_refl _)) (Nat.le_trans hsz hb1.size) (Nat.le_trans hsz hb1.size) hbx
      have HBW := Lib.hid hbw
      obtain ⟨ae0, ne0, ce0, ae1, ne1, ce1, rfl, -⟩ := shPair_reads.1 hs
      obtain ⟨af0, nf0, cf0, af1, nf1, cf1, rfl, -⟩ := shPair_reads.1 hs'
      rw [shPair_size] at hrr hrr'
      have c0 := hrr 0 _ rfl
      have c1 := hrr 1 _ rfl
      have d0 := hrr' 0 _ rfl
      have d1 := hrr' 1 _ rfl
      simp only [Nat.add_zero] at c0 d0
      try dsimp only at c0 d0 c1 d1 HC
      clear hr hr' hrr hrr' hs hs' hsw hsw' hx hbw hbx
      go_upto_region 6 with fail
      have k0 := cell_regrown c0
      have l0 := cell_regrown d0
      have k1 := cell_regrown c1
      have l1 := cell_regrown d1
      have cC := fun d os => Calls.regrown_of (w := wr) (d := d) (os := os) (HC.out _ ((below_regrown wr d os).mono hsz))
      have CC := Lib.hid cC
      clear c0 d0 c1 d1 cC
      refine wp_region_quiet_below (by kernel_rfl) (by kernel_rfl) ?_
      repeat (go_big_quiet_step (with_reducible first | exact CC.out _ _))
      refine wpQuiet_nil ?_
      intro _ hw'
      obtain ⟨⟨dq, osq⟩, hw''⟩ := hw'
      subst hw''
      have hwq := below_regrown wr dq osq
      generalize grow (redrawn wr dq) osq = w1 at hwq ⊢
      have HW := Lib.hid hwq
      clear hwq k0 l0 k1 l1
      go_wp2_with fail
      go_round
      case rel => exact ⟨k + 1, by omega, by go_num, HBW.out.trans (HW.out.mono hsz)⟩
      case measure => simp [intOf]; omega
    · obtain rfl : k = n := by omega
      have HBW := Lib.hid hbw
      clear hbw
      go_wp2_with fail
      go_ret
      exact ⟨rfl, HBW.out⟩
abbrev dModel := List dOp
def shModel : Shape dModel := .struct (.last (Shape.list shOp))
abbrev dGrads := List dRow × Int × Bool
def shGrads : Shape dGrads := .struct (.cons (Shape.list shRow) (.cons Shape.int (.last Shape.bool)))
theorem shGrads_reads {I : Nat → Prop} {w : World} {cs : List Value} {d : dGrads} : shGrads.reads I w cs d ↔ ∃ a0 n0 c0, cs = [.slice a0 n0 c0, .int .i64 d.2.1, .bool d.2.2] ∧ (n0 ≤ c0 ∧ c0 ≤ 9223372036854775807 ∧ ListAt shRow I w a0 n0 d.1) := by
  constructor
  · rintro ⟨_, _, rfl, ⟨a0, n0, c0, rfl, g0⟩, _, _, rfl, rfl, rfl⟩
    exact ⟨a0, n0, c0, rfl, g0⟩
  · rintro ⟨a0, n0, c0, rfl, g0⟩
    exact ⟨_, _, rfl, ⟨a0, n0, c0, rfl, g0⟩, _, _, rfl, rfl, rfl⟩
theorem shGrads_bulk (d : dGrads) : shGrads.bulk d = (Shape.list shRow).bulk d.1 := by
  simp only [shGrads, Shape.struct, FieldsOf.cons, FieldsOf.last, Shape.int, Shape.bool]
  try omega
set_option maxRecDepth 100000 in
theorem szGrads_c (w : World) (B : Nat) (es : List Value) (x : dGrads) (L : Int) (h : shGrads.reads (Under B) w es x) (hB : B ≤ w.heap.size) (h0 : 0 ≤ L) (h1 : L ≤ 1048576) :
    Calls Try.prog 91 #[.agg es.toArray, .int .i64 L] w fun e w' => e = .returned (.int .i64 (szN (shGrads.bulk x) L)) ∧ Below w.heap.size w w' := by
  obtain ⟨a0, n0, c0, rfl, ⟨p0, r0, l0⟩⟩ := shGrads_reads.1 h
  rw [shGrads_bulk]
  have ha := (Below.refl w.heap.size w).alloc (Nat.le_refl _) (.cells #[.slice a0 n0 c0, .int .i64 x.2.1, .bool x.2.2] 99 (0, 0))
  have hb0 := heap_alloc_new w (.cells #[.slice a0 n0 c0, .int .i64 x.2.1, .bool x.2.2] 99 (0, 0))
  have hs0 : w.heap.size < (w.alloc (.cells #[.slice a0 n0 c0, .int .i64 x.2.1, .bool x.2.2] 99 (0, 0))).heap.size := by simp
  have H0 := fun (w1 : World) (hb : Below w.heap.size w w1) (V : Int) (g0 : 0 ≤ V) (g1 : V ≤ 1048576) => szRowS_c w1 B a0 n0 c0 _ V (l0.below hb hB) (Nat.le_trans hB hb.size) (by omega) g0 g1
  obtain ⟨u0, hu0⟩ : ∃ u, (Shape.list shRow).bulk x.1 = u := ⟨_, rfl⟩
  simp only [hu0] at H0 ⊢
  replace H0 := Lib.hid H0
  have HA := Lib.hid ha
  have HB0 := Lib.hid hb0
  have HS0 := Lib.hid hs0
  clear ha hb0 hs0 h hu0
  clear p0 r0 l0
  obtain ⟨d, hd⟩ : ∃ d, d = szN (u0) L := ⟨_, rfl⟩
  rw [← hd]
  replace HD := Lib.hid hd
  clear hd
  by_cases f0 : (u0 : Int) ≤ L
  · have q0 := H0.out _ HA.out L (by omega) (by omega)
    rw [szN_yes f0] at q0
    obtain ⟨V0, hV0⟩ : ∃ V', L - (u0 : Int) = V' := ⟨_, rfl⟩
    rw [hV0] at q0
    have t0 : decide (V0 < 0) = false := decide_eq_false (by omega)
    have hdd : V0 = d := by rw [HD.out, szN_yes (by omega)]; omega
    subst hdd
    replace q0 := Lib.hid q0
    go_enter Try.func91, Try.ntmps91
    go_wp2_with fail
    refine q0.out.mono ?_
    rintro e w1 ⟨rfl, hb0⟩
    have B0 := Lib.hid (HA.out.trans (hb0.mono HA.out.size))
    clear hb0
    go_wp2_with fail
    go_ret
    exact ⟨rfl, B0.out⟩
  · have q0 := H0.out _ HA.out L (by omega) (by omega)
    rw [szN_no f0] at q0
    have hdd : d = -1 := by rw [HD.out]; exact szN_no (by omega)
    subst hdd
    replace q0 := Lib.hid q0
    go_enter Try.func91, Try.ntmps91
    go_wp2_with fail
    refine q0.out.mono ?_
    rintro e w1 ⟨rfl, hb0⟩
    have B0 := Lib.hid (HA.out.trans (hb0.mono HA.out.size))
    clear hb0
    go_wp2_with fail
    go_ret
    exact ⟨rfl, B0.out⟩
set_option maxRecDepth 100000 in
set_option maxHeartbeats 800000 in
theorem toGrads_c (w : World) (B : Nat) (es : List Value) (x : dGrads) (h : shGrads.reads (Under B) w es x) (hB : B ≤ w.heap.size) (hb : shGrads.bulk x ≤ 1048576) :
    Calls Try.prog 98 #[.agg es.toArray] w fun e w' => ∃ es', e = .returned (.agg es'.toArray) ∧ shGrads.reads (From w.heap.size w'.heap.size) w' es' x ∧ Below w.heap.size w w' := by
  obtain ⟨a0, n0, c0, rfl, ⟨p0, r0, l0⟩⟩ := shGrads_reads.1 h
  rw [shGrads_bulk] at hb
  have m0 : n0 ≤ 1048576 := by have := bulk_list shRow l0; omega
  have H0 := Lib.hid fun (w1 : World) (hbw : Below w.heap.size w w1) => toRowS_c w1 B a0 n0 c0 _ (l0.below hbw hB) (Nat.le_trans hB hbw.size) (by omega)
  have hbx := Boxes.start w #[.slice a0 n0 c0, .int .i64 x.2.1, .bool x.2.2] #[.slice none 0 0, .int .i64 0, .bool false] #[.slice none 0 0, .int .i64 0, .bool false] 99 45
  clear h hb l0 r0 p0
  go_enter Try.func98, Try.ntmps98
  go_wp2_with fail
  generalize ((w.alloc (.cells #[.slice a0 n0 c0, .int .i64 x.2.1, .bool x.2.2] 99 (0, 0))).alloc (.cells #[.slice none 0 0, .int .i64 0, .bool false] 45 (0, 0))).alloc (.cells #[.slice none 0 0, .int .i64 0, .bool false] 45 (0, 0)) = v0 at hbx ⊢
  have BX0 := Lib.hid hbx
  clear hbx
  refine (H0.out v0 BX0.out.below).mono ?_
  rintro e w1 ⟨rfl, hr0, hb0⟩
  have hbx := BX0.out.call hb0
  have hlt0 := BX0.out.size
  have za0_0 : w1.cell? ⟨w.heap.size, 0, none⟩ = _ := cell_of_row _ _ _ _ _ _ hbx.a
  have za0_1 : w1.cell? ⟨w.heap.size, 1, none⟩ = _ := cell_of_row _ _ _ _ _ _ hbx.a
  have za0_2 : w1.cell? ⟨w.heap.size, 2, none⟩ = _ := cell_of_row _ _ _ _ _ _ hbx.a
  have zo0_0 : w1.cell? ⟨w.heap.size + 1 + 1, 0, none⟩ = _ := cell_of_row _ _ _ _ _ _ hbx.o
  have zo0_1 : w1.cell? ⟨w.heap.size + 1 + 1, 1, none⟩ = _ := cell_of_row _ _ _ _ _ _ hbx.o
  have zo0_2 : w1.cell? ⟨w.heap.size + 1 + 1, 2, none⟩ = _ := cell_of_row _ _ _ _ _ _ hbx.o
  have zr0_0 : w1.cell? ⟨w.heap.size + 1, 0, none⟩ = _ := cell_of_row _ _ _ _ _ _ hbx.z
  have zr0_1 : w1.cell? ⟨w.heap.size + 1, 1, none⟩ = _ := cell_of_row _ _ _ _ _ _ hbx.z
  have zr0_2 : w1.cell? ⟨w.heap.size + 1, 2, none⟩ = _ := cell_of_row _ _ _ _ _ _ hbx.z
  have fo0_0 : w1.frozen? ⟨w.heap.size + 1 + 1, 0, none⟩ = false := frozen_of_row _ _ _ _ _ hbx.o
  have fr0_0 : w1.frozen? ⟨w.heap.size + 1, 0, none⟩ = false := frozen_of_row _ _ _ _ _ hbx.z
  have fo0_1 : w1.frozen? ⟨w.heap.size + 1 + 1, 1, none⟩ = false := frozen_of_row _ _ _ _ _ hbx.o
  have fr0_1 : w1.frozen? ⟨w.heap.size + 1, 1, none⟩ = false := frozen_of_row _ _ _ _ _ hbx.z
  have fo0_2 : w1.frozen? ⟨w.heap.size + 1 + 1, 2, none⟩ = false := frozen_of_row _ _ _ _ _ hbx.o
  have fr0_2 : w1.frozen? ⟨w.heap.size + 1, 2, none⟩ = false := frozen_of_row _ _ _ _ _ hbx.z
  simp only [List.setIfInBounds_toArray, List.set_cons_zero, List.set_cons_succ, List.getElem?_toArray, List.getElem?_cons_zero, List.getElem?_cons_succ] at za0_0 zo0_0 zr0_0 za0_1 zo0_1 zr0_1 za0_2 zo0_2 zr0_2
  have N0_0 := hr0.lo (Nat.le_trans (by omega) hlt0 : w.heap.size + 3 ≤ v0.heap.size)
  have hby := (((hbx.store 0 (.slice (some ⟨v0.heap.size, 0, none⟩) n0 n0)).store 1 (.int .i64 x.2.1)).store 2 (.bool x.2.2))
  have O0_0 := (((N0_0.stored (w.heap.size + 1 + 1) 0 (.slice (some ⟨v0.heap.size, 0, none⟩) n0 n0) (by omega)).stored (w.heap.size + 1 + 1) 1 (.int .i64 x.2.1) (by omega)).stored (w.heap.size + 1 + 1) 2 (.bool x.2.2) (by omega))
  replace hby := Lib.hid hby
  replace O0_0 := Lib.hid O0_0
  clear N0_0
  clear hr0 hbx hb0
  go_wp2_with fail
  refine bodyPost_ret (results_cell_row rfl _ _ (w.heap.size + 1) 45 #[.slice (some ⟨v0.heap.size, 0, none⟩) n0 n0, .int .i64 x.2.1, .bool x.2.2] (0, 0) _ rfl ?_ Try.underlying45 rfl (by kernel_rfl)) rfl ?_
  · exact hby.out.result [.slice (some ⟨v0.heap.size, 0, none⟩) n0 n0, .int .i64 x.2.1, .bool x.2.2] rfl
  refine ⟨[.slice (some ⟨v0.heap.size, 0, none⟩) n0 n0, .int .i64 x.2.1, .bool x.2.2], rfl, ?_, hby.out.last [.slice (some ⟨v0.heap.size, 0, none⟩) n0 n0, .int .i64 x.2.1, .bool x.2.2]⟩
  exact shGrads_reads.2 ⟨_, _, _, rfl, ⟨Nat.le_refl _, by omega, (O0_0.out.storedAll (w.heap.size + 1) 0 [.slice (some ⟨v0.heap.size, 0, none⟩) n0 n0, .int .i64 x.2.1, .bool x.2.2] (by omega)).lo (by omega)⟩⟩
set_option maxRecDepth 100000 in
set_option maxHeartbeats 800000 in
theorem eqGrads_c (w : World) (B B' : Nat) (es es' : List Value) (x : dGrads) (h : shGrads.reads (Under B) w es x) (h' : shGrads.reads (Under B') w es' x) (hB : B ≤ w.heap.size) (hB' : B' ≤ w.heap.size) (hb : shGrads.bulk x ≤ 1048576) :
    Calls Try.prog 20 #[.agg es.toArray, .agg es'.toArray] w fun e w' => e = .returned (.bool true) ∧ Below w.heap.size w w' := by
  obtain ⟨a0, n0, c0, rfl, ⟨-, -, l0⟩⟩ := shGrads_reads.1 h
  obtain ⟨b0, nb0, cb0, rfl, ⟨-, -, m0⟩⟩ := shGrads_reads.1 h'
  obtain rfl : nb0 = n0 := by rw [← l0.1, ← m0.1]
  rw [shGrads_bulk] at hb
  have ha := ((Below.refl w.heap.size w).alloc (Nat.le_refl _) (.cells #[.slice a0 nb0 c0, .int .i64 x.2.1, .bool x.2.2] 45 (0, 0))).alloc (by simp) (.cells #[.slice b0 nb0 cb0, .int .i64 x.2.1, .bool x.2.2] 45 (0, 0))
  have hA : ((w.alloc (.cells #[.slice a0 nb0 c0, .int .i64 x.2.1, .bool x.2.2] 45 (0, 0))).alloc (.cells #[.slice b0 nb0 cb0, .int .i64 x.2.1, .bool x.2.2] 45 (0, 0))).heap[w.heap.size]? = some (.cells #[.slice a0 nb0 c0, .int .i64 x.2.1, .bool x.2.2] 45 (0, 0)) := by
    rw [Below.heap_alloc _ _ _ (by simp)]
    exact heap_alloc_new w _
  have hC : ((w.alloc (.cells #[.slice a0 nb0 c0, .int .i64 x.2.1, .bool x.2.2] 45 (0, 0))).alloc (.cells #[.slice b0 nb0 cb0, .int .i64 x.2.1, .bool x.2.2] 45 (0, 0))).heap[w.heap.size + 1]? = some (.cells #[.slice b0 nb0 cb0, .int .i64 x.2.1, .bool x.2.2] 45 (0, 0)) := by
    have := heap_alloc_new (w.alloc (.cells #[.slice a0 nb0 c0, .int .i64 x.2.1, .bool x.2.2] 45 (0, 0))) (.cells #[.slice b0 nb0 cb0, .int .i64 x.2.1, .bool x.2.2] 45 (0, 0))
    simpa using this
  have hS : w.heap.size + 1 < ((w.alloc (.cells #[.slice a0 nb0 c0, .int .i64 x.2.1, .bool x.2.2] 45 (0, 0))).alloc (.cells #[.slice b0 nb0 cb0, .int .i64 x.2.1, .bool x.2.2] 45 (0, 0))).heap.size := by simp
  have H0 := Lib.hid fun (w1 : World) (hbw : Below w.heap.size w w1) => eqRowS_c w1 B B' a0 b0 nb0 c0 cb0 _ (l0.below hbw hB) (m0.below hbw hB') (Nat.le_trans hB hbw.size) (Nat.le_trans hB' hbw.size) (by omega)
  have HA := Lib.hid ha
  have XA := Lib.hid hA
  have XC := Lib.hid hC
  have HS := Lib.hid hS
  clear h h' hb ha hA hC hS l0 m0
  go_enter Try.func20, Try.ntmps20
  go_wp2_with fail
  refine (H0.out _ HA.out).mono ?_
  rintro e w1 ⟨rfl, hb0⟩
  have B0 := Lib.hid (HA.out.trans (hb0.mono HA.out.size))
  have XA0 := Lib.hid ((hb0.block w.heap.size (by have := HS.out; omega)).trans XA.out)
  have XC0 := Lib.hid ((hb0.block (w.heap.size + 1) HS.out).trans XC.out)
  have HS0 := Lib.hid (Nat.lt_of_lt_of_le HS.out hb0.size)
  have za0_0 : w1.cell? ⟨w.heap.size, 0, none⟩ = _ := cell_of_row _ _ _ _ _ _ XA0.out
  have zc0_0 : w1.cell? ⟨w.heap.size + 1, 0, none⟩ = _ := cell_of_row _ _ _ _ _ _ XC0.out
  have za0_1 : w1.cell? ⟨w.heap.size, 1, none⟩ = _ := cell_of_row _ _ _ _ _ _ XA0.out
  have zc0_1 : w1.cell? ⟨w.heap.size + 1, 1, none⟩ = _ := cell_of_row _ _ _ _ _ _ XC0.out
  have za0_2 : w1.cell? ⟨w.heap.size, 2, none⟩ = _ := cell_of_row _ _ _ _ _ _ XA0.out
  have zc0_2 : w1.cell? ⟨w.heap.size + 1, 2, none⟩ = _ := cell_of_row _ _ _ _ _ _ XC0.out
  simp only [List.getElem?_toArray, List.getElem?_cons_zero, List.getElem?_cons_succ] at za0_0 zc0_0 za0_1 zc0_1 za0_2 zc0_2
  clear hb0
  go_wp2_with fail
  go_ret
  exact ⟨rfl, B0.out⟩
end Go.Proofs.Ytcooobnaocbdjaa
