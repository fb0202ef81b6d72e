/-
  Data with depth that a call owns: the laws' types, and the copies that the exact laws mark.
-/
import Derived.Test.YtkflinobmagiiaaJoin23
import Derived.Test.YtkflinobmagiiaaJoin20
namespace Go.Proofs.Ytkflinobmagiiaa
open Go.RowKit Go.Sort
set_option linter.unusedVariables false
set_option linter.unusedSimpArgs false

theorem toIntS_o (w : World) (B : Nat) (a : Option Addr) (n c : Nat) (xs : List Int) (h : ListAt Shape.int (Under B) w a n xs) (hB : B ≤ w.heap.size) (hb : (Shape.list Shape.int).bulk xs ≤ 1048576) :
    Calls Try.prog 47 #[.slice a n c] w fun e w' => e = .returned (.slice (some ⟨w.heap.size, 0, none⟩) n n) ∧ OwnList Owned.int (FromB w.heap.size w'.heap.size) w' (some ⟨w.heap.size, 0, none⟩) n xs ∧ Below w.heap.size w w' := by
  rw [bulk_ints, h.1] at hb
  refine (toIntS_any B w a n c xs (h.ints hb) hB).mono ?_
  rintro e w' ⟨rfl, hr, hbw⟩
  obtain ⟨a', n', c', e', _, _, hr'⟩ := hr.own
  cases e'
  exact ⟨rfl, hr', hbw⟩

def ownOp : Owned dOp := .struct (.cons Owned.int (.cons Owned.int (.cons Owned.int (.last (Owned.list Owned.int (by decide))))))
theorem ownOp_size : ownOp.size = 4 := rfl
theorem ownOp_shape : ownOp.toShape = shOp := rfl
theorem ownOp_owns {F : Foot} {w : World} {cs : List Value} {d : dOp} : ownOp.owns F w cs d ↔ ∃ a0 n0 c0, cs = [.int .i64 d.1, .int .i64 d.2.1, .int .i64 d.2.2.1, .slice a0 n0 c0] ∧ (n0 ≤ c0 ∧ c0 ≤ 9223372036854775807 ∧ OwnList Owned.int F w a0 n0 d.2.2.2) := by
  constructor
  · rintro ⟨_, _, A0, B0, rfl, rfl, ⟨_, _, A1, B1, rfl, rfl, ⟨_, _, A2, B2, rfl, rfl, ⟨a0, n0, c0, rfl, x0, y0, l0⟩, s2, t2, p2⟩, s1, t1, p1⟩, s0, t0, p0⟩
    exact ⟨a0, n0, c0, rfl, x0, y0, l0.sub fun b o g => t0 _ _ (t1 _ _ (t2 _ _ (g)))⟩
  · rintro ⟨a0, n0, c0, rfl, x0, y0, l0⟩
    exact ⟨_, _, (fun _ _ => False), F, rfl, rfl, ⟨_, _, (fun _ _ => False), F, rfl, rfl, ⟨_, _, (fun _ _ => False), F, rfl, rfl, ⟨a0, n0, c0, rfl, x0, y0, l0⟩, fun _ _ g => g.elim, fun _ _ g => g, fun _ _ g => g.elim⟩, fun _ _ g => g.elim, fun _ _ g => g, fun _ _ g => g.elim⟩, fun _ _ g => g.elim, fun _ _ g => g, fun _ _ g => g.elim⟩
set_option maxRecDepth 100000 in
set_option maxHeartbeats 800000 in
theorem toOp_o (w : World) (B : Nat) (es : List Value) (x : dOp) (h : shOp.reads (Under B) w es x) (hB : B ≤ w.heap.size) (hb : shOp.bulk x ≤ 1048576) :
    Calls Try.prog 92 #[.agg es.toArray] w fun e w' => ∃ es', e = .returned (.agg es'.toArray) ∧ ownOp.owns (FromB w.heap.size w'.heap.size) w' es' x ∧ Below w.heap.size w w' := by
  obtain ⟨a0, n0, c0, rfl, ⟨p0, r0, l0⟩⟩ := shOp_reads.1 h
  rw [shOp_bulk] at hb
  have m0 : n0 ≤ 1048576 := by have := bulk_list Shape.int l0; omega
  have H0 := Lib.hid fun (w1 : World) (hbw : Below w.heap.size w w1) => toIntS_o w1 B a0 n0 c0 _ (l0.below hbw hB) (Nat.le_trans hB hbw.size) (by omega)
  have hbx := Boxes.start w #[.int .i64 x.1, .int .i64 x.2.1, .int .i64 x.2.2.1, .slice a0 n0 c0] #[.int .i64 0, .int .i64 0, .int .i64 0, .slice none 0 0] #[.int .i64 x.1, .int .i64 x.2.1, .int .i64 x.2.2.1, .slice none 0 0] 116 72
  clear h hb l0 r0 p0
  go_enter Try.func92, Try.ntmps92
  go_wp2_with fail
  generalize ((w.alloc (.cells #[.int .i64 x.1, .int .i64 x.2.1, .int .i64 x.2.2.1, .slice a0 n0 c0] 116 (0, 0))).alloc (.cells #[.int .i64 0, .int .i64 0, .int .i64 0, .slice none 0 0] 72 (0, 0))).alloc (.cells #[.int .i64 x.1, .int .i64 x.2.1, .int .i64 x.2.2.1, .slice none 0 0] 72 (0, 0)) = v0 at hbx ⊢
  have BX0 := Lib.hid hbx
  clear hbx
  refine (H0.out v0 BX0.out.below).mono ?_
  rintro e w1 ⟨rfl, hr0, hb0⟩
  have hbx := BX0.out.call hb0
  have sb0 := hb0.size
  have hlt0 := BX0.out.size
  have za0_0 : w1.cell? ⟨w.heap.size, 0, none⟩ = _ := cell_of_row _ _ _ _ _ _ hbx.a
  have za0_1 : w1.cell? ⟨w.heap.size, 1, none⟩ = _ := cell_of_row _ _ _ _ _ _ hbx.a
  have za0_2 : w1.cell? ⟨w.heap.size, 2, none⟩ = _ := cell_of_row _ _ _ _ _ _ hbx.a
  have za0_3 : w1.cell? ⟨w.heap.size, 3, none⟩ = _ := cell_of_row _ _ _ _ _ _ hbx.a
  have zo0_0 : w1.cell? ⟨w.heap.size + 1 + 1, 0, none⟩ = _ := cell_of_row _ _ _ _ _ _ hbx.o
  have zo0_1 : w1.cell? ⟨w.heap.size + 1 + 1, 1, none⟩ = _ := cell_of_row _ _ _ _ _ _ hbx.o
  have zo0_2 : w1.cell? ⟨w.heap.size + 1 + 1, 2, none⟩ = _ := cell_of_row _ _ _ _ _ _ hbx.o
  have zo0_3 : w1.cell? ⟨w.heap.size + 1 + 1, 3, none⟩ = _ := cell_of_row _ _ _ _ _ _ hbx.o
  have zr0_0 : w1.cell? ⟨w.heap.size + 1, 0, none⟩ = _ := cell_of_row _ _ _ _ _ _ hbx.z
  have zr0_1 : w1.cell? ⟨w.heap.size + 1, 1, none⟩ = _ := cell_of_row _ _ _ _ _ _ hbx.z
  have zr0_2 : w1.cell? ⟨w.heap.size + 1, 2, none⟩ = _ := cell_of_row _ _ _ _ _ _ hbx.z
  have zr0_3 : w1.cell? ⟨w.heap.size + 1, 3, none⟩ = _ := cell_of_row _ _ _ _ _ _ hbx.z
  have fo0_0 : w1.frozen? ⟨w.heap.size + 1 + 1, 0, none⟩ = false := frozen_of_row _ _ _ _ _ hbx.o
  have fr0_0 : w1.frozen? ⟨w.heap.size + 1, 0, none⟩ = false := frozen_of_row _ _ _ _ _ hbx.z
  have fo0_1 : w1.frozen? ⟨w.heap.size + 1 + 1, 1, none⟩ = false := frozen_of_row _ _ _ _ _ hbx.o
  have fr0_1 : w1.frozen? ⟨w.heap.size + 1, 1, none⟩ = false := frozen_of_row _ _ _ _ _ hbx.z
  have fo0_2 : w1.frozen? ⟨w.heap.size + 1 + 1, 2, none⟩ = false := frozen_of_row _ _ _ _ _ hbx.o
  have fr0_2 : w1.frozen? ⟨w.heap.size + 1, 2, none⟩ = false := frozen_of_row _ _ _ _ _ hbx.z
  have fo0_3 : w1.frozen? ⟨w.heap.size + 1 + 1, 3, none⟩ = false := frozen_of_row _ _ _ _ _ hbx.o
  have fr0_3 : w1.frozen? ⟨w.heap.size + 1, 3, none⟩ = false := frozen_of_row _ _ _ _ _ hbx.z
  simp only [List.setIfInBounds_toArray, List.set_cons_zero, List.set_cons_succ, List.getElem?_toArray, List.getElem?_cons_zero, List.getElem?_cons_succ] at za0_0 zo0_0 zr0_0 za0_1 zo0_1 zr0_1 za0_2 zo0_2 zr0_2 za0_3 zo0_3 zr0_3
  have N0_0 := hr0
  have hby := (hbx.store 3 (.slice (some ⟨v0.heap.size, 0, none⟩) n0 n0))
  have O0_0 := (N0_0.stored (w.heap.size + 1 + 1) 3 (.slice (some ⟨v0.heap.size, 0, none⟩) n0 n0) (by omega))
  replace hby := Lib.hid hby
  replace O0_0 := Lib.hid O0_0
  clear N0_0
  clear hr0 hbx hb0
  go_wp2_with fail
  refine bodyPost_ret (results_cell_row rfl _ _ (w.heap.size + 1) 72 #[.int .i64 x.1, .int .i64 x.2.1, .int .i64 x.2.2.1, .slice (some ⟨v0.heap.size, 0, none⟩) n0 n0] (0, 0) _ rfl ?_ Try.underlying72 rfl (by kernel_rfl)) rfl ?_
  · exact hby.out.result [.int .i64 x.1, .int .i64 x.2.1, .int .i64 x.2.2.1, .slice (some ⟨v0.heap.size, 0, none⟩) n0 n0] rfl
  refine ⟨[.int .i64 x.1, .int .i64 x.2.1, .int .i64 x.2.2.1, .slice (some ⟨v0.heap.size, 0, none⟩) n0 n0], rfl, ?_, hby.out.last [.int .i64 x.1, .int .i64 x.2.1, .int .i64 x.2.2.1, .slice (some ⟨v0.heap.size, 0, none⟩) n0 n0]⟩
  have hfin := ownOp_owns (F := FromB v0.heap.size w1.heap.size).2 ⟨_, _, _, rfl, Nat.le_refl _, by omega, (O0_0.out.storedAll (w.heap.size + 1) 0 [.int .i64 x.1, .int .i64 x.2.1, .int .i64 x.2.2.1, .slice (some ⟨v0.heap.size, 0, none⟩) n0 n0] (by omega))⟩
  exact ownOp.owns_sub hfin fun b o f => ⟨by have := f.1; omega, by have h2 := f.2; simp; omega⟩
set_option maxRecDepth 100000 in
set_option maxHeartbeats 1600000 in
theorem toOpS_o (w : World) (B : Nat) (a : Option Addr) (n c : Nat) (xs : List dOp) (h : ListAt shOp (Under B) w a n xs) (hB : B ≤ w.heap.size) (hb : (Shape.list shOp).bulk xs ≤ 1048576) :
    Calls Try.prog 67 #[.slice a n c] w fun e w' => e = .returned (.slice (some ⟨w.heap.size, 0, none⟩) n n) ∧ OwnList ownOp (FromB w.heap.size w'.heap.size) w' (some ⟨w.heap.size, 0, none⟩) n xs ∧ Below w.heap.size w w' := by
  have hbk : (Shape.list shOp).bulk xs = n + Shape.sum shOp.bulk xs := by rw [← h.1]; rfl
  rw [hbk] at hb
  have hmk := run_make_many (P := Try.prog) 24 72 _ 4 48 Try.underlying24 infoAll_Op n (by omega) (by omega)
  have hst := OFilled.start ownOp w n xs (Value.agg #[.int .i64 0, .int .i64 0, .int .i64 0, .slice none 0 0]).cells 72
  replace hst := Lib.hid hst
  have HL := Lib.hid h
  have HB := Lib.hid hb
  have hn1 : n ≤ 1048576 := by omega
  clear hbk h hb
  go_enter Try.func67, Try.ntmps67
  go_wp2_with fail
  go_loopw [4] (fun i wr => ∃ k : Nat, k ≤ n ∧ i = .int .i64 k ∧ OFilled ownOp w wr n k xs) (fun i _ => n - (intOf i).toNat)
  case atStart => exact ⟨0, Nat.zero_le _, rfl, hst.out⟩
  case round =>
    obtain ⟨k, hk, rfl, hf⟩ := hrel
    by_cases hlt : k < n
    · obtain ⟨x, hx⟩ : ∃ x, xs[k]? = some x := ⟨_, List.getElem?_eq_getElem (by rw [HL.out.1]; exact hlt)⟩
      obtain ⟨b, o, es, rfl, hbB, hr, hs⟩ := HL.out.2 k x hx
      have hfb := hf.below
      have hfl := hf.lt
      have hth0 := hf.rest (Nat.le_of_lt hlt)
      have hrr := rangeAt_kept hr (show b < w.heap.size from Nat.lt_of_lt_of_le hbB hB) (Kept.of_below (I := Under w.heap.size) hfb fun b hb => hb)
      have HS := Lib.hid (toOp_o wr _ es x (shOp.below (shOp.le hs hB) hfb (Nat.le_refl _)) (Nat.le_of_lt hfl) (by have h1 := bulk_mem shOp.bulk xs k x hx; have h2 := HB.out; omega))
      have HF := Lib.hid hf
      have HX := Lib.hid hx
      have HT := Lib.hid hth0
      obtain ⟨ae0, ne0, ce0, rfl, -⟩ := shOp_reads.1 hs
      rw [shOp_size] at hrr
      have c0 := hrr 0 _ rfl
      have c1 := hrr 1 _ rfl
      have c2 := hrr 2 _ rfl
      have c3 := hrr 3 _ rfl
      simp only [Nat.add_zero] at c0
      try dsimp only at c0 c1 c2 c3 HS
      clear hr hrr hs hx hf hth0
      go_wp2_with fail
      clear c0 c1 c2 c3
      refine HS.out.mono ?_
      rintro e w1 ⟨es', rfl, hs', hb1⟩
      have hn4 : 4 ≤ (n - k) * ownOp.size := by rw [ownOp_size]; omega
      have hth := there_below HT.out hb1 hfl
      have hN := HF.out.step hlt hb1 HX.out hs'
      have HN := Lib.hid hN
      have HB1 := Lib.hid hb1
      obtain ⟨af0, nf0, cf0, rfl, -⟩ := ownOp_owns.1 hs'
      obtain ⟨⟨v0, d0⟩, f0⟩ := there_cell hth 0 (by omega)
      obtain ⟨⟨v1, d1⟩, f1⟩ := there_cell hth 1 (by omega)
      obtain ⟨⟨v2, d2⟩, f2⟩ := there_cell hth 2 (by omega)
      obtain ⟨⟨v3, d3⟩, f3⟩ := there_cell hth 3 (by omega)
      rw [ownOp_size] at d0 d1 d2 d3 f0 f1 f2 f3
      simp only [Nat.add_zero] at d0 f0
      clear hs' hb1 hth hN
      go_wp2_with fail
      go_round
      case rel => exact ⟨k + 1, by omega, by go_num, HN.out⟩
      case measure => simp [intOf]; omega
    · obtain rfl : k = n := by omega
      have hz := hf.below
      have HF := Lib.hid hf
      clear hf hz
      go_wp2_with fail
      go_ret
      exact ⟨rfl, HF.out.list HL.out.1, HF.out.below⟩
def ownRow : Owned dRow := .struct (.last (Owned.list Owned.int (by decide)))
theorem ownRow_size : ownRow.size = 1 := rfl
theorem ownRow_shape : ownRow.toShape = shRow := rfl
theorem ownRow_owns {F : Foot} {w : World} {cs : List Value} {d : dRow} : ownRow.owns F w cs d ↔ ∃ a0 n0 c0, cs = [.slice a0 n0 c0] ∧ (n0 ≤ c0 ∧ c0 ≤ 9223372036854775807 ∧ OwnList Owned.int F w a0 n0 d) := by
  constructor
  · rintro ⟨a0, n0, c0, rfl, x0, y0, l0⟩
    exact ⟨a0, n0, c0, rfl, x0, y0, l0.sub fun b o g => g⟩
  · rintro ⟨a0, n0, c0, rfl, x0, y0, l0⟩
    exact ⟨a0, n0, c0, rfl, x0, y0, l0⟩
def ownPair : Owned dPair := .struct (.cons (Owned.list Owned.int (by decide)) (.last (Owned.list Owned.int (by decide))))
theorem ownPair_size : ownPair.size = 2 := rfl
theorem ownPair_shape : ownPair.toShape = shPair := rfl
theorem ownPair_owns {F : Foot} {w : World} {cs : List Value} {d : dPair} : ownPair.owns F w cs d ↔ ∃ a0 n0 c0 a1 n1 c1, ∃ G0 G1 : Foot, cs = [.slice a0 n0 c0, .slice a1 n1 c1] ∧ (n0 ≤ c0 ∧ c0 ≤ 9223372036854775807 ∧ OwnList Owned.int G0 w a0 n0 d.1) ∧ (n1 ≤ c1 ∧ c1 ≤ 9223372036854775807 ∧ OwnList Owned.int G1 w a1 n1 d.2) ∧ (∀ b o, G0 b o → F b o) ∧ (∀ b o, G1 b o → F b o) ∧ Apart G0 G1 := by
  constructor
  · rintro ⟨_, _, A0, B0, rfl, ⟨a0, n0, c0, rfl, x0, y0, l0⟩, ⟨a1, n1, c1, rfl, x1, y1, l1⟩, s0, t0, p0⟩
    exact ⟨a0, n0, c0, a1, n1, c1, A0, B0, rfl, ⟨x0, y0, l0⟩, ⟨x1, y1, l1⟩, fun b o g => s0 _ _ (g), fun b o g => t0 _ _ (g), fun b o g g' => p0 _ _ g (g')⟩
  · rintro ⟨a0, n0, c0, a1, n1, c1, G0, G1, rfl, ⟨x0, y0, l0⟩, ⟨x1, y1, l1⟩, h0, h1, ap0_1⟩
    exact ⟨_, _, G0, G1, rfl, ⟨a0, n0, c0, rfl, x0, y0, l0⟩, ⟨a1, n1, c1, rfl, x1, y1, l1⟩, fun b o g => h0 b o g, fun b o g => h1 b o g, ap0_1⟩
set_option maxRecDepth 100000 in
set_option maxHeartbeats 800000 in
theorem toPair_o (w : World) (B : Nat) (es : List Value) (x : dPair) (h : shPair.reads (Under B) w es x) (hB : B ≤ w.heap.size) (hb : shPair.bulk x ≤ 1048576) :
    Calls Try.prog 56 #[.agg es.toArray] w fun e w' => ∃ es', e = .returned (.agg es'.toArray) ∧ ownPair.owns (FromB w.heap.size w'.heap.size) w' es' x ∧ Below w.heap.size w w' := by
  obtain ⟨a0, n0, c0, a1, n1, c1, rfl, ⟨p0, r0, l0⟩, ⟨p1, r1, l1⟩⟩ := shPair_reads.1 h
  rw [shPair_bulk] at hb
  have m0 : n0 ≤ 1048576 := by have := bulk_list Shape.int l0; omega
  have H0 := Lib.hid fun (w1 : World) (hbw : Below w.heap.size w w1) => toIntS_o w1 B a0 n0 c0 _ (l0.below hbw hB) (Nat.le_trans hB hbw.size) (by omega)
  have m1 : n1 ≤ 1048576 := by have := bulk_list Shape.int l1; omega
  have H1 := Lib.hid fun (w1 : World) (hbw : Below w.heap.size w w1) => toIntS_o w1 B a1 n1 c1 _ (l1.below hbw hB) (Nat.le_trans hB hbw.size) (by omega)
  have hbx := Boxes.start w #[.slice a0 n0 c0, .slice a1 n1 c1] #[.slice none 0 0, .slice none 0 0] #[.slice none 0 0, .slice none 0 0] 85 88
  clear h hb l0 r0 p0 l1 r1 p1
  go_enter Try.func56, Try.ntmps56
  go_wp2_with fail
  generalize ((w.alloc (.cells #[.slice a0 n0 c0, .slice a1 n1 c1] 85 (0, 0))).alloc (.cells #[.slice none 0 0, .slice none 0 0] 88 (0, 0))).alloc (.cells #[.slice none 0 0, .slice none 0 0] 88 (0, 0)) = v0 at hbx ⊢
  have BX0 := Lib.hid hbx
  clear hbx
  refine (H0.out v0 BX0.out.below).mono ?_
  rintro e w1 ⟨rfl, hr0, hb0⟩
  have hbx := BX0.out.call hb0
  have sb0 := hb0.size
  have hlt0 := BX0.out.size
  have za0_0 : w1.cell? ⟨w.heap.size, 0, none⟩ = _ := cell_of_row _ _ _ _ _ _ hbx.a
  have za0_1 : w1.cell? ⟨w.heap.size, 1, none⟩ = _ := cell_of_row _ _ _ _ _ _ hbx.a
  have zo0_0 : w1.cell? ⟨w.heap.size + 1 + 1, 0, none⟩ = _ := cell_of_row _ _ _ _ _ _ hbx.o
  have zo0_1 : w1.cell? ⟨w.heap.size + 1 + 1, 1, none⟩ = _ := cell_of_row _ _ _ _ _ _ hbx.o
  have zr0_0 : w1.cell? ⟨w.heap.size + 1, 0, none⟩ = _ := cell_of_row _ _ _ _ _ _ hbx.z
  have zr0_1 : w1.cell? ⟨w.heap.size + 1, 1, none⟩ = _ := cell_of_row _ _ _ _ _ _ hbx.z
  have fo0_0 : w1.frozen? ⟨w.heap.size + 1 + 1, 0, none⟩ = false := frozen_of_row _ _ _ _ _ hbx.o
  have fr0_0 : w1.frozen? ⟨w.heap.size + 1, 0, none⟩ = false := frozen_of_row _ _ _ _ _ hbx.z
  have fo0_1 : w1.frozen? ⟨w.heap.size + 1 + 1, 1, none⟩ = false := frozen_of_row _ _ _ _ _ hbx.o
  have fr0_1 : w1.frozen? ⟨w.heap.size + 1, 1, none⟩ = false := frozen_of_row _ _ _ _ _ hbx.z
  simp only [List.setIfInBounds_toArray, List.set_cons_zero, List.set_cons_succ, List.getElem?_toArray, List.getElem?_cons_zero, List.getElem?_cons_succ] at za0_0 zo0_0 zr0_0 za0_1 zo0_1 zr0_1
  have N0_0 := hr0
  have hby := (hbx.store 0 (.slice (some ⟨v0.heap.size, 0, none⟩) n0 n0))
  have O0_0 := (N0_0.stored (w.heap.size + 1 + 1) 0 (.slice (some ⟨v0.heap.size, 0, none⟩) n0 n0) (by omega))
  replace hb0 := Lib.hid hb0
  replace hby := Lib.hid hby
  replace O0_0 := Lib.hid O0_0
  clear N0_0
  clear hr0 hbx
  go_wp2_with fail
  clear za0_0 zo0_0 zr0_0 fo0_0 fr0_0 za0_1 zo0_1 zr0_1 fo0_1 fr0_1
  have hv1 : w1.heap.size ≤ (w1.setCell ⟨w.heap.size + 1 + 1, 0, none⟩ (.slice (some ⟨v0.heap.size, 0, none⟩) n0 n0)).heap.size := by simp
  generalize (w1.setCell ⟨w.heap.size + 1 + 1, 0, none⟩ (.slice (some ⟨v0.heap.size, 0, none⟩) n0 n0)) = v1 at hby hv1 O0_0 ⊢
  have BX1 := hby
  have M0_0 := O0_0
  clear O0_0 hby
  refine (H1.out v1 BX1.out.below).mono ?_
  rintro e w2 ⟨rfl, hr1, hb1⟩
  have hbx := BX1.out.call hb1
  have sb1 := hb1.size
  have hlt1 := BX1.out.size
  have za1_0 : w2.cell? ⟨w.heap.size, 0, none⟩ = _ := cell_of_row _ _ _ _ _ _ hbx.a
  have za1_1 : w2.cell? ⟨w.heap.size, 1, none⟩ = _ := cell_of_row _ _ _ _ _ _ hbx.a
  have zo1_0 : w2.cell? ⟨w.heap.size + 1 + 1, 0, none⟩ = _ := cell_of_row _ _ _ _ _ _ hbx.o
  have zo1_1 : w2.cell? ⟨w.heap.size + 1 + 1, 1, none⟩ = _ := cell_of_row _ _ _ _ _ _ hbx.o
  have zr1_0 : w2.cell? ⟨w.heap.size + 1, 0, none⟩ = _ := cell_of_row _ _ _ _ _ _ hbx.z
  have zr1_1 : w2.cell? ⟨w.heap.size + 1, 1, none⟩ = _ := cell_of_row _ _ _ _ _ _ hbx.z
  have fo1_0 : w2.frozen? ⟨w.heap.size + 1 + 1, 0, none⟩ = false := frozen_of_row _ _ _ _ _ hbx.o
  have fr1_0 : w2.frozen? ⟨w.heap.size + 1, 0, none⟩ = false := frozen_of_row _ _ _ _ _ hbx.z
  have fo1_1 : w2.frozen? ⟨w.heap.size + 1 + 1, 1, none⟩ = false := frozen_of_row _ _ _ _ _ hbx.o
  have fr1_1 : w2.frozen? ⟨w.heap.size + 1, 1, none⟩ = false := frozen_of_row _ _ _ _ _ hbx.z
  simp only [List.setIfInBounds_toArray, List.set_cons_zero, List.set_cons_succ, List.getElem?_toArray, List.getElem?_cons_zero, List.getElem?_cons_succ] at za1_0 zo1_0 zr1_0 za1_1 zo1_1 zr1_1
  have N0_1 := M0_0.out.called hb1 (by omega)
  have N1_1 := hr1
  have hby := (hbx.store 1 (.slice (some ⟨v1.heap.size, 0, none⟩) n1 n1))
  have O0_1 := (N0_1.stored (w.heap.size + 1 + 1) 1 (.slice (some ⟨v1.heap.size, 0, none⟩) n1 n1) (by omega))
  have O1_1 := (N1_1.stored (w.heap.size + 1 + 1) 1 (.slice (some ⟨v1.heap.size, 0, none⟩) n1 n1) (by omega))
  replace hby := Lib.hid hby
  replace O0_1 := Lib.hid O0_1
  clear N0_1
  replace O1_1 := Lib.hid O1_1
  clear N1_1
  clear hr1 hbx hb1
  go_wp2_with fail
  refine bodyPost_ret (results_cell_row rfl _ _ (w.heap.size + 1) 88 #[.slice (some ⟨v0.heap.size, 0, none⟩) n0 n0, .slice (some ⟨v1.heap.size, 0, none⟩) n1 n1] (0, 0) _ rfl ?_ Try.underlying88 rfl (by kernel_rfl)) rfl ?_
  · exact hby.out.result [.slice (some ⟨v0.heap.size, 0, none⟩) n0 n0, .slice (some ⟨v1.heap.size, 0, none⟩) n1 n1] rfl
  refine ⟨[.slice (some ⟨v0.heap.size, 0, none⟩) n0 n0, .slice (some ⟨v1.heap.size, 0, none⟩) n1 n1], rfl, ?_, hby.out.last [.slice (some ⟨v0.heap.size, 0, none⟩) n0 n0, .slice (some ⟨v1.heap.size, 0, none⟩) n1 n1]⟩
  refine ownPair_owns.2 ⟨_, _, _, _, _, _, FromB v0.heap.size w1.heap.size, FromB v1.heap.size w2.heap.size, rfl, ⟨Nat.le_refl _, by omega, (O0_1.out.storedAll (w.heap.size + 1) 0 [.slice (some ⟨v0.heap.size, 0, none⟩) n0 n0, .slice (some ⟨v1.heap.size, 0, none⟩) n1 n1] (by omega))⟩, ⟨Nat.le_refl _, by omega, (O1_1.out.storedAll (w.heap.size + 1) 0 [.slice (some ⟨v0.heap.size, 0, none⟩) n0 n0, .slice (some ⟨v1.heap.size, 0, none⟩) n1 n1] (by omega))⟩, fun b o f => ⟨by have := f.1; omega, by have h2 := f.2; simp; omega⟩, fun b o f => ⟨by have := f.1; omega, by have h2 := f.2; simp; omega⟩, fromB_apart (by omega)⟩
set_option maxRecDepth 100000 in
set_option maxHeartbeats 1600000 in
theorem toPairS_o (w : World) (B : Nat) (a : Option Addr) (n c : Nat) (xs : List dPair) (h : ListAt shPair (Under B) w a n xs) (hB : B ≤ w.heap.size) (hb : (Shape.list shPair).bulk xs ≤ 1048576) :
    Calls Try.prog 26 #[.slice a n c] w fun e w' => e = .returned (.slice (some ⟨w.heap.size, 0, none⟩) n n) ∧ OwnList ownPair (FromB w.heap.size w'.heap.size) w' (some ⟨w.heap.size, 0, none⟩) n xs ∧ Below w.heap.size w w' := by
  have hbk : (Shape.list shPair).bulk xs = n + Shape.sum shPair.bulk xs := by rw [← h.1]; rfl
  rw [hbk] at hb
  have hmk := run_make_many (P := Try.prog) 31 88 _ 2 48 Try.underlying31 infoAll_Pair n (by omega) (by omega)
  have hst := OFilled.start ownPair w n xs (Value.agg #[.slice none 0 0, .slice none 0 0]).cells 88
  replace hst := Lib.hid hst
  have HL := Lib.hid h
  have HB := Lib.hid hb
  have hn1 : n ≤ 1048576 := by omega
  clear hbk h hb
  go_enter Try.func26, Try.ntmps26
  go_wp2_with fail
  go_loopw [4] (fun i wr => ∃ k : Nat, k ≤ n ∧ i = .int .i64 k ∧ OFilled ownPair w wr n k xs) (fun i _ => n - (intOf i).toNat)
  case atStart => exact ⟨0, Nat.zero_le _, rfl, hst.out⟩
  case round =>
    obtain ⟨k, hk, rfl, hf⟩ := hrel
    by_cases hlt : k < n
    · obtain ⟨x, hx⟩ : ∃ x, xs[k]? = some x := ⟨_, List.getElem?_eq_getElem (by rw [HL.out.1]; exact hlt)⟩
      obtain ⟨b, o, es, rfl, hbB, hr, hs⟩ := HL.out.2 k x hx
      have hfb := hf.below
      have hfl := hf.lt
      have hth0 := hf.rest (Nat.le_of_lt hlt)
      have hrr := rangeAt_kept hr (show b < w.heap.size from Nat.lt_of_lt_of_le hbB hB) (Kept.of_below (I := Under w.heap.size) hfb fun b hb => hb)
      have HS := Lib.hid (toPair_o wr _ es x (shPair.below (shPair.le hs hB) hfb (Nat.le_refl _)) (Nat.le_of_lt hfl) (by have h1 := bulk_mem shPair.bulk xs k x hx; have h2 := HB.out; omega))
      have HF := Lib.hid hf
      have HX := Lib.hid hx
      have HT := Lib.hid hth0
      obtain ⟨ae0, ne0, ce0, ae1, ne1, ce1, rfl, -⟩ := shPair_reads.1 hs
      rw [shPair_size] at hrr
      have c0 := hrr 0 _ rfl
      have c1 := hrr 1 _ rfl
      simp only [Nat.add_zero] at c0
      try dsimp only at c0 c1 HS
      clear hr hrr hs hx hf hth0
      go_wp2_with fail
      clear c0 c1
      refine HS.out.mono ?_
      rintro e w1 ⟨es', rfl, hs', hb1⟩
      have hn4 : 2 ≤ (n - k) * ownPair.size := by rw [ownPair_size]; omega
      have hth := there_below HT.out hb1 hfl
      have hN := HF.out.step hlt hb1 HX.out hs'
      have HN := Lib.hid hN
      have HB1 := Lib.hid hb1
      obtain ⟨af0, nf0, cf0, af1, nf1, cf1, G0', G1', rfl, -⟩ := ownPair_owns.1 hs'
      obtain ⟨⟨v0, d0⟩, f0⟩ := there_cell hth 0 (by omega)
      obtain ⟨⟨v1, d1⟩, f1⟩ := there_cell hth 1 (by omega)
      rw [ownPair_size] at d0 d1 f0 f1
      simp only [Nat.add_zero] at d0 f0
      clear hs' hb1 hth hN
      go_wp2_with fail
      go_round
      case rel => exact ⟨k + 1, by omega, by go_num, HN.out⟩
      case measure => simp [intOf]; omega
    · obtain rfl : k = n := by omega
      have hz := hf.below
      have HF := Lib.hid hf
      clear hf hz
      go_wp2_with fail
      go_ret
      exact ⟨rfl, HF.out.list HL.out.1, HF.out.below⟩
def ownModel : Owned dModel := .struct (.last (Owned.list ownOp (by decide)))
theorem ownModel_size : ownModel.size = 1 := rfl
theorem ownModel_shape : ownModel.toShape = shModel := rfl
theorem ownModel_owns {F : Foot} {w : World} {cs : List Value} {d : dModel} : ownModel.owns F w cs d ↔ ∃ a0 n0 c0, cs = [.slice a0 n0 c0] ∧ (n0 ≤ c0 ∧ c0 ≤ 9223372036854775807 ∧ OwnList ownOp F w a0 n0 d) := by
  constructor
  · rintro ⟨a0, n0, c0, rfl, x0, y0, l0⟩
    exact ⟨a0, n0, c0, rfl, x0, y0, l0.sub fun b o g => g⟩
  · rintro ⟨a0, n0, c0, rfl, x0, y0, l0⟩
    exact ⟨a0, n0, c0, rfl, x0, y0, l0⟩
set_option maxRecDepth 100000 in
set_option maxHeartbeats 800000 in
theorem toModel_o (w : World) (B : Nat) (es : List Value) (x : dModel) (h : shModel.reads (Under B) w es x) (hB : B ≤ w.heap.size) (hb : shModel.bulk x ≤ 1048576) :
    Calls Try.prog 46 #[.agg es.toArray] w fun e w' => ∃ es', e = .returned (.agg es'.toArray) ∧ ownModel.owns (FromB w.heap.size w'.heap.size) w' es' x ∧ Below w.heap.size w w' := by
  obtain ⟨a0, n0, c0, rfl, ⟨p0, r0, l0⟩⟩ := shModel_reads.1 h
  rw [shModel_bulk] at hb
  have m0 : n0 ≤ 1048576 := by have := bulk_list shOp l0; omega
  have H0 := Lib.hid fun (w1 : World) (hbw : Below w.heap.size w w1) => toOpS_o w1 B a0 n0 c0 _ (l0.below hbw hB) (Nat.le_trans hB hbw.size) (by omega)
  have hbx := Boxes.start w #[.slice a0 n0 c0] #[.slice none 0 0] #[.slice none 0 0] 39 26
  clear h hb l0 r0 p0
  go_enter Try.func46, Try.ntmps46
  go_wp2_with fail
  generalize ((w.alloc (.cells #[.slice a0 n0 c0] 39 (0, 0))).alloc (.cells #[.slice none 0 0] 26 (0, 0))).alloc (.cells #[.slice none 0 0] 26 (0, 0)) = v0 at hbx ⊢
  have BX0 := Lib.hid hbx
  clear hbx
  refine (H0.out v0 BX0.out.below).mono ?_
  rintro e w1 ⟨rfl, hr0, hb0⟩
  have hbx := BX0.out.call hb0
  have sb0 := hb0.size
  have hlt0 := BX0.out.size
  have za0_0 : w1.cell? ⟨w.heap.size, 0, none⟩ = _ := cell_of_row _ _ _ _ _ _ hbx.a
  have zo0_0 : w1.cell? ⟨w.heap.size + 1 + 1, 0, none⟩ = _ := cell_of_row _ _ _ _ _ _ hbx.o
  have zr0_0 : w1.cell? ⟨w.heap.size + 1, 0, none⟩ = _ := cell_of_row _ _ _ _ _ _ hbx.z
  have fo0_0 : w1.frozen? ⟨w.heap.size + 1 + 1, 0, none⟩ = false := frozen_of_row _ _ _ _ _ hbx.o
  have fr0_0 : w1.frozen? ⟨w.heap.size + 1, 0, none⟩ = false := frozen_of_row _ _ _ _ _ hbx.z
  simp only [List.setIfInBounds_toArray, List.set_cons_zero, List.set_cons_succ, List.getElem?_toArray, List.getElem?_cons_zero, List.getElem?_cons_succ] at za0_0 zo0_0 zr0_0
  have N0_0 := hr0
  have hby := (hbx.store 0 (.slice (some ⟨v0.heap.size, 0, none⟩) n0 n0))
  have O0_0 := (N0_0.stored (w.heap.size + 1 + 1) 0 (.slice (some ⟨v0.heap.size, 0, none⟩) n0 n0) (by omega))
  replace hby := Lib.hid hby
  replace O0_0 := Lib.hid O0_0
  clear N0_0
  clear hr0 hbx hb0
  go_wp2_with fail
  refine bodyPost_ret (results_cell_row rfl _ _ (w.heap.size + 1) 26 #[.slice (some ⟨v0.heap.size, 0, none⟩) n0 n0] (0, 0) _ rfl ?_ Try.underlying26 rfl (by kernel_rfl)) rfl ?_
  · exact hby.out.result [.slice (some ⟨v0.heap.size, 0, none⟩) n0 n0] rfl
  refine ⟨[.slice (some ⟨v0.heap.size, 0, none⟩) n0 n0], rfl, ?_, hby.out.last [.slice (some ⟨v0.heap.size, 0, none⟩) n0 n0]⟩
  have hfin := ownModel_owns (F := FromB v0.heap.size w1.heap.size).2 ⟨_, _, _, rfl, Nat.le_refl _, by omega, (O0_0.out.storedAll (w.heap.size + 1) 0 [.slice (some ⟨v0.heap.size, 0, none⟩) n0 n0] (by omega))⟩
  exact ownModel.owns_sub hfin fun b o f => ⟨by have := f.1; omega, by have h2 := f.2; simp; omega⟩
def ownGrads : Owned dGrads := .struct (.cons (Owned.list ownRow (by decide)) (.cons Owned.int (.last Owned.bool)))
theorem ownGrads_size : ownGrads.size = 3 := rfl
theorem ownGrads_shape : ownGrads.toShape = shGrads := rfl
theorem ownGrads_owns {F : Foot} {w : World} {cs : List Value} {d : dGrads} : ownGrads.owns F w cs d ↔ ∃ a0 n0 c0, cs = [.slice a0 n0 c0, .int .i64 d.2.1, .bool d.2.2] ∧ (n0 ≤ c0 ∧ c0 ≤ 9223372036854775807 ∧ OwnList ownRow F w a0 n0 d.1) := by
  constructor
  · rintro ⟨_, _, A0, B0, rfl, ⟨a0, n0, c0, rfl, x0, y0, l0⟩, ⟨_, _, A1, B1, rfl, rfl, rfl, s1, t1, p1⟩, s0, t0, p0⟩
    exact ⟨a0, n0, c0, rfl, x0, y0, l0.sub fun b o g => s0 _ _ (g)⟩
  · rintro ⟨a0, n0, c0, rfl, x0, y0, l0⟩
    exact ⟨_, _, F, (fun _ _ => False), rfl, ⟨a0, n0, c0, rfl, x0, y0, l0⟩, ⟨_, _, (fun _ _ => False), (fun _ _ => False), rfl, rfl, rfl, fun _ _ g => g.elim, fun _ _ g => g.elim, fun _ _ g => g.elim⟩, fun _ _ g => g, fun _ _ g => g.elim, fun _ _ _ g => g.elim⟩
end Go.Proofs.Ytkflinobmagiiaa
