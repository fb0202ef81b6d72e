/-
  Data with depth that a call owns: the laws' types, and the copies that the exact laws mark.
-/
import Derived.Test.YtpnifgpmleaohaaOwn
import Derived.Test.YtpnifgpmleaohaaDeep
namespace Go.Proofs.Ytpnifgpmleaohaa
open Go.RowKit Go.Sort
set_option linter.unusedVariables false
set_option linter.unusedSimpArgs false

theorem toIntS_o (w : World) (B : Nat) (a : Option Addr) (n c : Nat) (xs : List Int) (h : ListAt Shape.int (Under B) w a n xs) (hB : B ≤ w.heap.size) (hb : (Shape.list Shape.int).bulk xs ≤ 1048576) :
    Calls Try.prog 62 #[.slice a n c] w fun e w' => e = .returned (.slice (some ⟨w.heap.size, 0, none⟩) n n) ∧ OwnList Owned.int (FromB w.heap.size w'.heap.size) w' (some ⟨w.heap.size, 0, none⟩) n xs ∧ Below w.heap.size w w' := by
  rw [bulk_ints, h.1] at hb
  refine (toIntS_any B w a n c xs (h.ints hb) hB).mono ?_
  rintro e w' ⟨rfl, hr, hbw⟩
  obtain ⟨a', n', c', e', _, _, hr'⟩ := hr.own
  cases e'
  exact ⟨rfl, hr', hbw⟩

def ownOp : Owned dOp := .struct (.cons Owned.int (.cons Owned.int (.cons Owned.int (.last (Owned.list Owned.int (by decide))))))
theorem ownOp_size : ownOp.size = 4 := rfl
theorem ownOp_shape : ownOp.toShape = shOp := rfl
theorem ownOp_owns {F : Foot} {w : World} {cs : List Value} {d : dOp} : ownOp.owns F w cs d ↔ ∃ a0 n0 c0, cs = [.int .i64 d.1, .int .i64 d.2.1, .int .i64 d.2.2.1, .slice a0 n0 c0] ∧ (n0 ≤ c0 ∧ c0 ≤ 9223372036854775807 ∧ OwnList Owned.int F w a0 n0 d.2.2.2) := by
  constructor
  · rintro ⟨_, _, A0, B0, rfl, rfl, ⟨_, _, A1, B1, rfl, rfl, ⟨_, _, A2, B2, rfl, rfl, ⟨a0, n0, c0, rfl, x0, y0, l0⟩, s2, t2, p2⟩, s1, t1, p1⟩, s0, t0, p0⟩
    exact ⟨a0, n0, c0, rfl, x0, y0, l0.sub fun b o g => t0 _ _ (t1 _ _ (t2 _ _ (g)))⟩
  · rintro ⟨a0, n0, c0, rfl, x0, y0, l0⟩
    exact ⟨_, _, (fun _ _ => False), F, rfl, rfl, ⟨_, _, (fun _ _ => False), F, rfl, rfl, ⟨_, _, (fun _ _ => False), F, rfl, rfl, ⟨a0, n0, c0, rfl, x0, y0, l0⟩, fun _ _ g => g.elim, fun _ _ g => g, fun _ _ g => g.elim⟩, fun _ _ g => g.elim, fun _ _ g => g, fun _ _ g => g.elim⟩, fun _ _ g => g.elim, fun _ _ g => g, fun _ _ g => g.elim⟩
set_option maxRecDepth 100000 in
set_option maxHeartbeats 800000 in
theorem toOp_o (w : World) (B : Nat) (es : List Value) (x : dOp) (h : shOp.reads (Under B) w es x) (hB : B ≤ w.heap.size) (hb : shOp.bulk x ≤ 1048576) :
    Calls Try.prog 35 #[.agg es.toArray] w fun e w' => ∃ es', e = .returned (.agg es'.toArray) ∧ ownOp.owns (FromB w.heap.size w'.heap.size) w' es' x ∧ Below w.heap.size w w' := by
  obtain ⟨a0, n0, c0, rfl, ⟨p0, r0, l0⟩⟩ := shOp_reads.1 h
  rw [shOp_bulk] at hb
  have m0 : n0 ≤ 1048576 := by have := bulk_list Shape.int l0; omega
  have H0 := Lib.hid fun (w1 : World) (hbw : Below w.heap.size w w1) => toIntS_o w1 B a0 n0 c0 _ (l0.below hbw hB) (Nat.le_trans hB hbw.size) (by omega)
  have hbx := Boxes.start w #[.int .i64 x.1, .int .i64 x.2.1, .int .i64 x.2.2.1, .slice a0 n0 c0] #[.int .i64 0, .int .i64 0, .int .i64 0, .slice none 0 0] #[.int .i64 x.1, .int .i64 x.2.1, .int .i64 x.2.2.1, .slice none 0 0] 63 69
  clear h hb l0 r0 p0
  go_enter Try.func35, Try.ntmps35
  go_wp2_with fail
  generalize ((w.alloc (.cells #[.int .i64 x.1, .int .i64 x.2.1, .int .i64 x.2.2.1, .slice a0 n0 c0] 63 (0, 0))).alloc (.cells #[.int .i64 0, .int .i64 0, .int .i64 0, .slice none 0 0] 69 (0, 0))).alloc (.cells #[.int .i64 x.1, .int .i64 x.2.1, .int .i64 x.2.2.1, .slice none 0 0] 69 (0, 0)) = v0 at hbx ⊢
  have BX0 := Lib.hid hbx
  clear hbx
  refine (H0.out v0 BX0.out.below).mono ?_
  rintro e w1 ⟨rfl, hr0, hb0⟩
  have hbx := BX0.out.call hb0
  have sb0 := hb0.size
  have hlt0 := BX0.out.size
  have za0_0 : w1.cell? ⟨w.heap.size, 0, none⟩ = _ := cell_of_row _ _ _ _ _ _ hbx.a
  have za0_1 : w1.cell? ⟨w.heap.size, 1, none⟩ = _ := cell_of_row _ _ _ _ _ _ hbx.a
  have za0_2 : w1.cell? ⟨w.heap.size, 2, none⟩ = _ := cell_of_row _ _ _ _ _ _ hbx.a
  have za0_3 : w1.cell? ⟨w.heap.size, 3, none⟩ = _ := cell_of_row _ _ _ _ _ _ hbx.a
  have zo0_0 : w1.cell? ⟨w.heap.size + 1 + 1, 0, none⟩ = _ := cell_of_row _ _ _ _ _ _ hbx.o
  have zo0_1 : w1.cell? ⟨w.heap.size + 1 + 1, 1, none⟩ = _ := cell_of_row _ _ _ _ _ _ hbx.o
  have zo0_2 : w1.cell? ⟨w.heap.size + 1 + 1, 2, none⟩ = _ := cell_of_row _ _ _ _ _ _ hbx.o
  have zo0_3 : w1.cell? ⟨w.heap.size + 1 + 1, 3, none⟩ = _ := cell_of_row _ _ _ _ _ _ hbx.o
  have zr0_0 : w1.cell? ⟨w.heap.size + 1, 0, none⟩ = _ := cell_of_row _ _ _ _ _ _ hbx.z
  have zr0_1 : w1.cell? ⟨w.heap.size + 1, 1, none⟩ = _ := cell_of_row _ _ _ _ _ _ hbx.z
  have zr0_2 : w1.cell? ⟨w.heap.size + 1, 2, none⟩ = _ := cell_of_row _ _ _ _ _ _ hbx.z
  have zr0_3 : w1.cell? ⟨w.heap.size + 1, 3, none⟩ = _ := cell_of_row _ _ _ _ _ _ hbx.z
  have fo0_0 : w1.frozen? ⟨w.heap.size + 1 + 1, 0, none⟩ = false := frozen_of_row _ _ _ _ _ hbx.o
  have fr0_0 : w1.frozen? ⟨w.heap.size + 1, 0, none⟩ = false := frozen_of_row _ _ _ _ _ hbx.z
  have fo0_1 : w1.frozen? ⟨w.heap.size + 1 + 1, 1, none⟩ = false := frozen_of_row _ _ _ _ _ hbx.o
  have fr0_1 : w1.frozen? ⟨w.heap.size + 1, 1, none⟩ = false := frozen_of_row _ _ _ _ _ hbx.z
  have fo0_2 : w1.frozen? ⟨w.heap.size + 1 + 1, 2, none⟩ = false := frozen_of_row _ _ _ _ _ hbx.o
  have fr0_2 : w1.frozen? ⟨w.heap.size + 1, 2, none⟩ = false := frozen_of_row _ _ _ _ _ hbx.z
  have fo0_3 : w1.frozen? ⟨w.heap.size + 1 + 1, 3, none⟩ = false := frozen_of_row _ _ _ _ _ hbx.o
  have fr0_3 : w1.frozen? ⟨w.heap.size + 1, 3, none⟩ = false := frozen_of_row _ _ _ _ _ hbx.z
  simp only [List.setIfInBounds_toArray, List.set_cons_zero, List.set_cons_succ, List.getElem?_toArray, List.getElem?_cons_zero, List.getElem?_cons_succ] at za0_0 zo0_0 zr0_0 za0_1 zo0_1 zr0_1 za0_2 zo0_2 zr0_2 za0_3 zo0_3 zr0_3
  have N0_0 := hr0
  have hby := (hbx.store 3 (.slice (some ⟨v0.heap.size, 0, none⟩) n0 n0))
  have O0_0 := (N0_0.stored (w.heap.size + 1 + 1) 3 (.slice (some ⟨v0.heap.size, 0, none⟩) n0 n0) (by omega))
  replace hby := Lib.hid hby
  replace O0_0 := Lib.hid O0_0
  clear N0_0
  clear hr0 hbx hb0
  go_wp2_with fail
  refine bodyPost_ret (results_cell_row rfl _ _ (w.heap.size + 1) 69 #[.int .i64 x.1, .int .i64 x.2.1, .int .i64 x.2.2.1, .slice (some ⟨v0.heap.size, 0, none⟩) n0 n0] (0, 0) _ rfl ?_ Try.underlying69 rfl (by kernel_rfl)) rfl ?_
  · exact hby.out.result [.int .i64 x.1, .int .i64 x.2.1, .int .i64 x.2.2.1, .slice (some ⟨v0.heap.size, 0, none⟩) n0 n0] rfl
  refine ⟨[.int .i64 x.1, .int .i64 x.2.1, .int .i64 x.2.2.1, .slice (some ⟨v0.heap.size, 0, none⟩) n0 n0], rfl, ?_, hby.out.last [.int .i64 x.1, .int .i64 x.2.1, .int .i64 x.2.2.1, .slice (some ⟨v0.heap.size, 0, none⟩) n0 n0]⟩
  have hfin := ownOp_owns (F := FromB v0.heap.size w1.heap.size).2 ⟨_, _, _, rfl, Nat.le_refl _, by omega, (O0_0.out.storedAll (w.heap.size + 1) 0 [.int .i64 x.1, .int .i64 x.2.1, .int .i64 x.2.2.1, .slice (some ⟨v0.heap.size, 0, none⟩) n0 n0] (by omega))⟩
  exact ownOp.owns_sub hfin fun b o f => ⟨by have := f.1; omega, by have h2 := f.2; simp; omega⟩
set_option maxRecDepth 100000 in
set_option maxHeartbeats 1600000 in
theorem toOpS_o (w : World) (B : Nat) (a : Option Addr) (n c : Nat) (xs : List dOp) (h : ListAt shOp (Under B) w a n xs) (hB : B ≤ w.heap.size) (hb : (Shape.list shOp).bulk xs ≤ 1048576) :
    Calls Try.prog 10 #[.slice a n c] w fun e w' => e = .returned (.slice (some ⟨w.heap.size, 0, none⟩) n n) ∧ OwnList ownOp (FromB w.heap.size w'.heap.size) w' (some ⟨w.heap.size, 0, none⟩) n xs ∧ Below w.heap.size w w' := by
  have hbk : (Shape.list shOp).bulk xs = n + Shape.sum shOp.bulk xs := by rw [← h.1]; rfl
  rw [hbk] at hb
  have hmk := run_make_many (P := Try.prog) 27 69 _ 4 48 Try.underlying27 infoAll_Op n (by omega) (by omega)
  have hst := OFilled.start ownOp w n xs (Value.agg #[.int .i64 0, .int .i64 0, .int .i64 0, .slice none 0 0]).cells 69
  replace hst := Lib.hid hst
  have HL := Lib.hid h
  have HB := Lib.hid hb
  have hn1 : n ≤ 1048576 := by omega
  clear hbk h hb
  go_enter Try.func10, Try.ntmps10
  go_wp2_with fail
  go_loopw [4] (fun i wr => ∃ k : Nat, k ≤ n ∧ i = .int .i64 k ∧ OFilled ownOp w wr n k xs) (fun i _ => n - (intOf i).toNat)
  case atStart => exact ⟨0, Nat.zero_le _, rfl, hst.out⟩
  case round =>
    obtain ⟨k, hk, rfl, hf⟩ := hrel
    by_cases hlt : k < n
    · obtain ⟨x, hx⟩ : ∃ x, xs[k]? = some x := ⟨_, List.getElem?_eq_getElem (by rw [HL.out.1]; exact hlt)⟩
      obtain ⟨b, o, es, rfl, hbB, hr, hs⟩ := HL.out.2 k x hx
      have hfb := hf.below
      have hfl := hf.lt
      have hth0 := hf.rest (Nat.le_of_lt hlt)
      have hrr := rangeAt_kept hr (show b < w.heap.size from Nat.lt_of_lt_of_le hbB hB) (Kept.of_below (I := Under w.heap.size) hfb fun b hb => hb)
      have HS := Lib.hid (toOp_o wr _ es x (shOp.below (shOp.le hs hB) hfb (Nat.le_refl _)) (Nat.le_of_lt hfl) (by have h1 := bulk_mem shOp.bulk xs k x hx; have h2 := HB.out; omega))
      have HF := Lib.hid hf
      have HX := Lib.hid hx
      have HT := Lib.hid hth0
      obtain ⟨ae0, ne0, ce0, rfl, -⟩ := shOp_reads.1 hs
      rw [shOp_size] at hrr
      have c0 := hrr 0 _ rfl
      have c1 := hrr 1 _ rfl
      have c2 := hrr 2 _ rfl
      have c3 := hrr 3 _ rfl
      simp only [Nat.add_zero] at c0
      try dsimp only at c0 c1 c2 c3 HS
      clear hr hrr hs hx hf hth0
      go_wp2_with fail
      clear c0 c1 c2 c3
      refine HS.out.mono ?_
      rintro e w1 ⟨es', rfl, hs', hb1⟩
      have hn4 : 4 ≤ (n - k) * ownOp.size := by rw [ownOp_size]; omega
      have hth := there_below HT.out hb1 hfl
      have hN := HF.out.step hlt hb1 HX.out hs'
      have HN := Lib.hid hN
      have HB1 := Lib.hid hb1
      obtain ⟨af0, nf0, cf0, rfl, -⟩ := ownOp_owns.1 hs'
      obtain ⟨⟨v0, d0⟩, f0⟩ := there_cell hth 0 (by omega)
      obtain ⟨⟨v1, d1⟩, f1⟩ := there_cell hth 1 (by omega)
      obtain ⟨⟨v2, d2⟩, f2⟩ := there_cell hth 2 (by omega)
      obtain ⟨⟨v3, d3⟩, f3⟩ := there_cell hth 3 (by omega)
      rw [ownOp_size] at d0 d1 d2 d3 f0 f1 f2 f3
      simp only [Nat.add_zero] at d0 f0
      clear hs' hb1 hth hN
      go_wp2_with fail
      go_round
      case rel => exact ⟨k + 1, by omega, by go_num, HN.out⟩
      case measure => simp [intOf]; omega
    · obtain rfl : k = n := by omega
      have hz := hf.below
      have HF := Lib.hid hf
      clear hf hz
      go_wp2_with fail
      go_ret
      exact ⟨rfl, HF.out.list HL.out.1, HF.out.below⟩
def ownRow : Owned dRow := .struct (.last (Owned.list Owned.int (by decide)))
theorem ownRow_size : ownRow.size = 1 := rfl
theorem ownRow_shape : ownRow.toShape = shRow := rfl
theorem ownRow_owns {F : Foot} {w : World} {cs : List Value} {d : dRow} : ownRow.owns F w cs d ↔ ∃ a0 n0 c0, cs = [.slice a0 n0 c0] ∧ (n0 ≤ c0 ∧ c0 ≤ 9223372036854775807 ∧ OwnList Owned.int F w a0 n0 d) := by
  constructor
  · rintro ⟨a0, n0, c0, rfl, x0, y0, l0⟩
    exact ⟨a0, n0, c0, rfl, x0, y0, l0.sub fun b o g => g⟩
  · rintro ⟨a0, n0, c0, rfl, x0, y0, l0⟩
    exact ⟨a0, n0, c0, rfl, x0, y0, l0⟩
set_option maxRecDepth 100000 in
set_option maxHeartbeats 800000 in
theorem toRow_o (w : World) (B : Nat) (es : List Value) (x : dRow) (h : shRow.reads (Under B) w es x) (hB : B ≤ w.heap.size) (hb : shRow.bulk x ≤ 1048576) :
    Calls Try.prog 90 #[.agg es.toArray] w fun e w' => ∃ es', e = .returned (.agg es'.toArray) ∧ ownRow.owns (FromB w.heap.size w'.heap.size) w' es' x ∧ Below w.heap.size w w' := by
  obtain ⟨a0, n0, c0, rfl, ⟨p0, r0, l0⟩⟩ := shRow_reads.1 h
  rw [shRow_bulk] at hb
  have m0 : n0 ≤ 1048576 := by have := bulk_list Shape.int l0; omega
  have H0 := Lib.hid fun (w1 : World) (hbw : Below w.heap.size w w1) => toIntS_o w1 B a0 n0 c0 _ (l0.below hbw hB) (Nat.le_trans hB hbw.size) (by omega)
  have hbx := Boxes.start w #[.slice a0 n0 c0] #[.slice none 0 0] #[.slice none 0 0] 127 88
  clear h hb l0 r0 p0
  go_enter Try.func90, Try.ntmps90
  go_wp2_with fail
  generalize ((w.alloc (.cells #[.slice a0 n0 c0] 127 (0, 0))).alloc (.cells #[.slice none 0 0] 88 (0, 0))).alloc (.cells #[.slice none 0 0] 88 (0, 0)) = v0 at hbx ⊢
  have BX0 := Lib.hid hbx
  clear hbx
  refine (H0.out v0 BX0.out.below).mono ?_
  rintro e w1 ⟨rfl, hr0, hb0⟩
  have hbx := BX0.out.call hb0
  have sb0 := hb0.size
  have hlt0 := BX0.out.size
  have za0_0 : w1.cell? ⟨w.heap.size, 0, none⟩ = _ := cell_of_row _ _ _ _ _ _ hbx.a
  have zo0_0 : w1.cell? ⟨w.heap.size + 1 + 1, 0, none⟩ = _ := cell_of_row _ _ _ _ _ _ hbx.o
  have zr0_0 : w1.cell? ⟨w.heap.size + 1, 0, none⟩ = _ := cell_of_row _ _ _ _ _ _ hbx.z
  have fo0_0 : w1.frozen? ⟨w.heap.size + 1 + 1, 0, none⟩ = false := frozen_of_row _ _ _ _ _ hbx.o
  have fr0_0 : w1.frozen? ⟨w.heap.size + 1, 0, none⟩ = false := frozen_of_row _ _ _ _ _ hbx.z
  simp only [List.setIfInBounds_toArray, List.set_cons_zero, List.set_cons_succ, List.getElem?_toArray, List.getElem?_cons_zero, List.getElem?_cons_succ] at za0_0 zo0_0 zr0_0
  have N0_0 := hr0
  have hby := (hbx.store 0 (.slice (some ⟨v0.heap.size, 0, none⟩) n0 n0))
  have O0_0 := (N0_0.stored (w.heap.size + 1 + 1) 0 (.slice (some ⟨v0.heap.size, 0, none⟩) n0 n0) (by omega))
  replace hby := Lib.hid hby
  replace O0_0 := Lib.hid O0_0
  clear N0_0
  clear hr0 hbx hb0
  go_wp2_with fail
  refine bodyPost_ret (results_cell_row rfl _ _ (w.heap.size + 1) 88 #[.slice (some ⟨v0.heap.size, 0, none⟩) n0 n0] (0, 0) _ rfl ?_ Try.underlying88 rfl (by kernel_rfl)) rfl ?_
  · exact hby.out.result [.slice (some ⟨v0.heap.size, 0, none⟩) n0 n0] rfl
  refine ⟨[.slice (some ⟨v0.heap.size, 0, none⟩) n0 n0], rfl, ?_, hby.out.last [.slice (some ⟨v0.heap.size, 0, none⟩) n0 n0]⟩
  have hfin := ownRow_owns (F := FromB v0.heap.size w1.heap.size).2 ⟨_, _, _, rfl, Nat.le_refl _, by omega, (O0_0.out.storedAll (w.heap.size + 1) 0 [.slice (some ⟨v0.heap.size, 0, none⟩) n0 n0] (by omega))⟩
  exact ownRow.owns_sub hfin fun b o f => ⟨by have := f.1; omega, by have h2 := f.2; simp; omega⟩
set_option maxRecDepth 100000 in
set_option maxHeartbeats 1600000 in
theorem toRowS_o (w : World) (B : Nat) (a : Option Addr) (n c : Nat) (xs : List dRow) (h : ListAt shRow (Under B) w a n xs) (hB : B ≤ w.heap.size) (hb : (Shape.list shRow).bulk xs ≤ 1048576) :
    Calls Try.prog 61 #[.slice a n c] w fun e w' => e = .returned (.slice (some ⟨w.heap.size, 0, none⟩) n n) ∧ OwnList ownRow (FromB w.heap.size w'.heap.size) w' (some ⟨w.heap.size, 0, none⟩) n xs ∧ Below w.heap.size w w' := by
  have hbk : (Shape.list shRow).bulk xs = n + Shape.sum shRow.bulk xs := by rw [← h.1]; rfl
  rw [hbk] at hb
  have hmk := run_make_many (P := Try.prog) 29 88 _ 1 24 Try.underlying29 infoAll_Row n (by omega) (by omega)
  have hst := OFilled.start ownRow w n xs (Value.agg #[.slice none 0 0]).cells 88
  rw [ownRow_size, Nat.mul_one] at hst
  replace hst := Lib.hid hst
  have HL := Lib.hid h
  have HB := Lib.hid hb
  have hn1 : n ≤ 1048576 := by omega
  clear hbk h hb
  go_enter Try.func61, Try.ntmps61
  go_wp2_with fail
  go_loopw [4] (fun i wr => ∃ k : Nat, k ≤ n ∧ i = .int .i64 k ∧ OFilled ownRow w wr n k xs) (fun i _ => n - (intOf i).toNat)
  case atStart => exact ⟨0, Nat.zero_le _, rfl, hst.out⟩
  case round =>
    obtain ⟨k, hk, rfl, hf⟩ := hrel
    by_cases hlt : k < n
    · obtain ⟨x, hx⟩ : ∃ x, xs[k]? = some x := ⟨_, List.getElem?_eq_getElem (by rw [HL.out.1]; exact hlt)⟩
      obtain ⟨b, o, es, rfl, hbB, hr, hs⟩ := HL.out.2 k x hx
      have hfb := hf.below
      have hfl := hf.lt
      have hth0 := hf.rest (Nat.le_of_lt hlt)
      have hrr := rangeAt_kept hr (show b < w.heap.size from Nat.lt_of_lt_of_le hbB hB) (Kept.of_below (I := Under w.heap.size) hfb fun b hb => hb)
      have HS := Lib.hid (toRow_o wr _ es x (shRow.below (shRow.le hs hB) hfb (Nat.le_refl _)) (Nat.le_of_lt hfl) (by have h1 := bulk_mem shRow.bulk xs k x hx; have h2 := HB.out; omega))
      have HF := Lib.hid hf
      have HX := Lib.hid hx
      have HT := Lib.hid hth0
      obtain ⟨ae0, ne0, ce0, rfl, -⟩ := shRow_reads.1 hs
      rw [shRow_size] at hrr
      rw [Nat.mul_one] at hrr
      have c0 := hrr 0 _ rfl
      simp only [Nat.add_zero] at c0
      try dsimp only at c0 HS
      clear hr hrr hs hx hf hth0
      go_wp2_with fail
      clear c0
      refine HS.out.mono ?_
      rintro e w1 ⟨es', rfl, hs', hb1⟩
      have hn4 : 1 ≤ (n - k) * ownRow.size := by rw [ownRow_size]; omega
      have hth := there_below HT.out hb1 hfl
      have hN := HF.out.step hlt hb1 HX.out hs'
      rw [ownRow_size, Nat.mul_one] at hN
      have HN := Lib.hid hN
      have HB1 := Lib.hid hb1
      obtain ⟨af0, nf0, cf0, rfl, -⟩ := ownRow_owns.1 hs'
      obtain ⟨⟨v0, d0⟩, f0⟩ := there_cell hth 0 (by omega)
      rw [ownRow_size] at d0 f0
      simp only [Nat.add_zero] at d0 f0
      rw [Nat.mul_one] at d0 f0
      clear hs' hb1 hth hN
      go_wp2_with fail
      go_round
      case rel => exact ⟨k + 1, by omega, by go_num, HN.out⟩
      case measure => simp [intOf]; omega
    · obtain rfl : k = n := by omega
      have hz := hf.below
      have HF := Lib.hid hf
      clear hf hz
      go_wp2_with fail
      go_ret
      exact ⟨rfl, HF.out.list HL.out.1, HF.out.below⟩
def ownPair : Owned dPair := .struct (.cons (Owned.list Owned.int (by decide)) (.last (Owned.list Owned.int (by decide))))
theorem ownPair_size : ownPair.size = 2 := rfl
theorem ownPair_shape : ownPair.toShape = shPair := rfl
theorem ownPair_owns {F : Foot} {w : World} {cs : List Value} {d : dPair} : ownPair.owns F w cs d ↔ ∃ a0 n0 c0 a1 n1 c1, ∃ G0 G1 : Foot, cs = [.slice a0 n0 c0, .slice a1 n1 c1] ∧ (n0 ≤ c0 ∧ c0 ≤ 9223372036854775807 ∧ OwnList Owned.int G0 w a0 n0 d.1) ∧ (n1 ≤ c1 ∧ c1 ≤ 9223372036854775807 ∧ OwnList Owned.int G1 w a1 n1 d.2) ∧ (∀ b o, G0 b o → F b o) ∧ (∀ b o, G1 b o → F b o) ∧ Apart G0 G1 := by
  constructor
  · rintro ⟨_, _, A0, B0, rfl, ⟨a0, n0, c0, rfl, x0, y0, l0⟩, ⟨a1, n1, c1, rfl, x1, y1, l1⟩, s0, t0, p0⟩
    exact ⟨a0, n0, c0, a1, n1, c1, A0, B0, rfl, ⟨x0, y0, l0⟩, ⟨x1, y1, l1⟩, fun b o g => s0 _ _ (g), fun b o g => t0 _ _ (g), fun b o g g' => p0 _ _ g (g')⟩
  · rintro ⟨a0, n0, c0, a1, n1, c1, G0, G1, rfl, ⟨x0, y0, l0⟩, ⟨x1, y1, l1⟩, h0, h1, ap0_1⟩
    exact ⟨_, _, G0, G1, rfl, ⟨a0, n0, c0, rfl, x0, y0, l0⟩, ⟨a1, n1, c1, rfl, x1, y1, l1⟩, fun b o g => h0 b o g, fun b o g => h1 b o g, ap0_1⟩
def ownModel : Owned dModel := .struct (.last (Owned.list ownOp (by decide)))
theorem ownModel_size : ownModel.size = 1 := rfl
theorem ownModel_shape : ownModel.toShape = shModel := rfl
theorem ownModel_owns {F : Foot} {w : World} {cs : List Value} {d : dModel} : ownModel.owns F w cs d ↔ ∃ a0 n0 c0, cs = [.slice a0 n0 c0] ∧ (n0 ≤ c0 ∧ c0 ≤ 9223372036854775807 ∧ OwnList ownOp F w a0 n0 d) := by
  constructor
  · rintro ⟨a0, n0, c0, rfl, x0, y0, l0⟩
    exact ⟨a0, n0, c0, rfl, x0, y0, l0.sub fun b o g => g⟩
  · rintro ⟨a0, n0, c0, rfl, x0, y0, l0⟩
    exact ⟨a0, n0, c0, rfl, x0, y0, l0⟩
def ownGrads : Owned dGrads := .struct (.cons (Owned.list ownRow (by decide)) (.cons Owned.int (.last Owned.bool)))
theorem ownGrads_size : ownGrads.size = 3 := rfl
theorem ownGrads_shape : ownGrads.toShape = shGrads := rfl
theorem ownGrads_owns {F : Foot} {w : World} {cs : List Value} {d : dGrads} : ownGrads.owns F w cs d ↔ ∃ a0 n0 c0, cs = [.slice a0 n0 c0, .int .i64 d.2.1, .bool d.2.2] ∧ (n0 ≤ c0 ∧ c0 ≤ 9223372036854775807 ∧ OwnList ownRow F w a0 n0 d.1) := by
  constructor
  · rintro ⟨_, _, A0, B0, rfl, ⟨a0, n0, c0, rfl, x0, y0, l0⟩, ⟨_, _, A1, B1, rfl, rfl, rfl, s1, t1, p1⟩, s0, t0, p0⟩
    exact ⟨a0, n0, c0, rfl, x0, y0, l0.sub fun b o g => s0 _ _ (g)⟩
  · rintro ⟨a0, n0, c0, rfl, x0, y0, l0⟩
    exact ⟨_, _, F, (fun _ _ => False), rfl, ⟨a0, n0, c0, rfl, x0, y0, l0⟩, ⟨_, _, (fun _ _ => False), (fun _ _ => False), rfl, rfl, rfl, fun _ _ g => g.elim, fun _ _ g => g.elim, fun _ _ g => g.elim⟩, fun _ _ g => g, fun _ _ g => g.elim, fun _ _ _ g => g.elim⟩
set_option maxRecDepth 100000 in
set_option maxHeartbeats 800000 in
theorem toGrads_o (w : World) (B : Nat) (es : List Value) (x : dGrads) (h : shGrads.reads (Under B) w es x) (hB : B ≤ w.heap.size) (hb : shGrads.bulk x ≤ 1048576) :
    Calls Try.prog 63 #[.agg es.toArray] w fun e w' => ∃ es', e = .returned (.agg es'.toArray) ∧ ownGrads.owns (FromB w.heap.size w'.heap.size) w' es' x ∧ Below w.heap.size w w' := by
  obtain ⟨a0, n0, c0, rfl, ⟨p0, r0, l0⟩⟩ := shGrads_reads.1 h
  rw [shGrads_bulk] at hb
  have m0 : n0 ≤ 1048576 := by have := bulk_list shRow l0; omega
  have H0 := Lib.hid fun (w1 : World) (hbw : Below w.heap.size w w1) => toRowS_o w1 B a0 n0 c0 _ (l0.below hbw hB) (Nat.le_trans hB hbw.size) (by omega)
  have hbx := Boxes.start w #[.slice a0 n0 c0, .int .i64 x.2.1, .bool x.2.2] #[.slice none 0 0, .int .i64 0, .bool false] #[.slice none 0 0, .int .i64 0, .bool false] 48 32
  clear h hb l0 r0 p0
  go_enter Try.func63, Try.ntmps63
  go_wp2_with fail
  generalize ((w.alloc (.cells #[.slice a0 n0 c0, .int .i64 x.2.1, .bool x.2.2] 48 (0, 0))).alloc (.cells #[.slice none 0 0, .int .i64 0, .bool false] 32 (0, 0))).alloc (.cells #[.slice none 0 0, .int .i64 0, .bool false] 32 (0, 0)) = v0 at hbx ⊢
  have BX0 := Lib.hid hbx
  clear hbx
  refine (H0.out v0 BX0.out.below).mono ?_
  rintro e w1 ⟨rfl, hr0, hb0⟩
  have hbx := BX0.out.call hb0
  have sb0 := hb0.size
  have hlt0 := BX0.out.size
  have za0_0 : w1.cell? ⟨w.heap.size, 0, none⟩ = _ := cell_of_row _ _ _ _ _ _ hbx.a
  have za0_1 : w1.cell? ⟨w.heap.size, 1, none⟩ = _ := cell_of_row _ _ _ _ _ _ hbx.a
  have za0_2 : w1.cell? ⟨w.heap.size, 2, none⟩ = _ := cell_of_row _ _ _ _ _ _ hbx.a
  have zo0_0 : w1.cell? ⟨w.heap.size + 1 + 1, 0, none⟩ = _ := cell_of_row _ _ _ _ _ _ hbx.o
  have zo0_1 : w1.cell? ⟨w.heap.size + 1 + 1, 1, none⟩ = _ := cell_of_row _ _ _ _ _ _ hbx.o
  have zo0_2 : w1.cell? ⟨w.heap.size + 1 + 1, 2, none⟩ = _ := cell_of_row _ _ _ _ _ _ hbx.o
  have zr0_0 : w1.cell? ⟨w.heap.size + 1, 0, none⟩ = _ := cell_of_row _ _ _ _ _ _ hbx.z
  have zr0_1 : w1.cell? ⟨w.heap.size + 1, 1, none⟩ = _ := cell_of_row _ _ _ _ _ _ hbx.z
  have zr0_2 : w1.cell? ⟨w.heap.size + 1, 2, none⟩ = _ := cell_of_row _ _ _ _ _ _ hbx.z
  have fo0_0 : w1.frozen? ⟨w.heap.size + 1 + 1, 0, none⟩ = false := frozen_of_row _ _ _ _ _ hbx.o
  have fr0_0 : w1.frozen? ⟨w.heap.size + 1, 0, none⟩ = false := frozen_of_row _ _ _ _ _ hbx.z
  have fo0_1 : w1.frozen? ⟨w.heap.size + 1 + 1, 1, none⟩ = false := frozen_of_row _ _ _ _ _ hbx.o
  have fr0_1 : w1.frozen? ⟨w.heap.size + 1, 1, none⟩ = false := frozen_of_row _ _ _ _ _ hbx.z
  have fo0_2 : w1.frozen? ⟨w.heap.size + 1 + 1, 2, none⟩ = false := frozen_of_row _ _ _ _ _ hbx.o
  have fr0_2 : w1.frozen? ⟨w.heap.size + 1, 2, none⟩ = false := frozen_of_row _ _ _ _ _ hbx.z
  simp only [List.setIfInBounds_toArray, List.set_cons_zero, List.set_cons_succ, List.getElem?_toArray, List.getElem?_cons_zero, List.getElem?_cons_succ] at za0_0 zo0_0 zr0_0 za0_1 zo0_1 zr0_1 za0_2 zo0_2 zr0_2
  have N0_0 := hr0
  have hby := (((hbx.store 0 (.slice (some ⟨v0.heap.size, 0, none⟩) n0 n0)).store 1 (.int .i64 x.2.1)).store 2 (.bool x.2.2))
  have O0_0 := (((N0_0.stored (w.heap.size + 1 + 1) 0 (.slice (some ⟨v0.heap.size, 0, none⟩) n0 n0) (by omega)).stored (w.heap.size + 1 + 1) 1 (.int .i64 x.2.1) (by omega)).stored (w.heap.size + 1 + 1) 2 (.bool x.2.2) (by omega))
  replace hby := Lib.hid hby
  replace O0_0 := Lib.hid O0_0
  clear N0_0
  clear hr0 hbx hb0
  go_wp2_with fail
  refine bodyPost_ret (results_cell_row rfl _ _ (w.heap.size + 1) 32 #[.slice (some ⟨v0.heap.size, 0, none⟩) n0 n0, .int .i64 x.2.1, .bool x.2.2] (0, 0) _ rfl ?_ Try.underlying32 rfl (by kernel_rfl)) rfl ?_
  · exact hby.out.result [.slice (some ⟨v0.heap.size, 0, none⟩) n0 n0, .int .i64 x.2.1, .bool x.2.2] rfl
  refine ⟨[.slice (some ⟨v0.heap.size, 0, none⟩) n0 n0, .int .i64 x.2.1, .bool x.2.2], rfl, ?_, hby.out.last [.slice (some ⟨v0.heap.size, 0, none⟩) n0 n0, .int .i64 x.2.1, .bool x.2.2]⟩
  have hfin := ownGrads_owns (F := FromB v0.heap.size w1.heap.size).2 ⟨_, _, _, rfl, Nat.le_refl _, by omega, (O0_0.out.storedAll (w.heap.size + 1) 0 [.slice (some ⟨v0.heap.size, 0, none⟩) n0 n0, .int .i64 x.2.1, .bool x.2.2] (by omega))⟩
  exact ownGrads.owns_sub hfin fun b o f => ⟨by have := f.1; omega, by have h2 := f.2; simp; omega⟩
end Go.Proofs.Ytpnifgpmleaohaa
