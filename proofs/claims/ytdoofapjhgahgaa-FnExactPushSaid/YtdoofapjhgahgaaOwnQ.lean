/-
  Data with depth that a call owns: the laws' types, and the copies that the exact laws mark.
-/
import Derived.Test.YtdoofapjhgahgaaOwn
import Derived.Test.YtdoofapjhgahgaaDeepQ
namespace Go.Proofs.Ytdoofapjhgahgaa
open Go.RowKit Go.Sort
set_option linter.unusedVariables false
set_option linter.unusedSimpArgs false

theorem toIntS_o (w : World) (B : Nat) (a : Option Addr) (n c : Nat) (xs : List Int) (h : ListAt Shape.int (Under B) w a n xs) (hB : B ≤ w.heap.size) (hb : (Shape.list Shape.int).bulk xs ≤ 1048576) :
    Calls Try.prog 44 #[.slice a n c] w fun e w' => e = .returned (.slice (some ⟨w.heap.size, 0, none⟩) n n) ∧ OwnList Owned.int (FromB w.heap.size w'.heap.size) w' (some ⟨w.heap.size, 0, none⟩) n xs ∧ Below w.heap.size w w' := by
  rw [bulk_ints, h.1] at hb
  refine (toIntS_any B w a n c xs (h.ints hb) hB).mono ?_
  rintro e w' ⟨rfl, hr, hbw⟩
  obtain ⟨a', n', c', e', _, _, hr'⟩ := hr.own
  cases e'
  exact ⟨rfl, hr', hbw⟩

def ownItem : Owned dItem := .struct (.cons Owned.int (.last (Owned.list Owned.int (by decide))))
theorem ownItem_size : ownItem.size = 2 := rfl
theorem ownItem_shape : ownItem.toShape = shItem := rfl
theorem ownItem_owns {F : Foot} {w : World} {cs : List Value} {d : dItem} : ownItem.owns F w cs d ↔ ∃ a0 n0 c0, cs = [.int .i64 d.1, .slice a0 n0 c0] ∧ (n0 ≤ c0 ∧ c0 ≤ 9223372036854775807 ∧ OwnList Owned.int F w a0 n0 d.2) := by
  constructor
  · rintro ⟨_, _, A0, B0, rfl, rfl, ⟨a0, n0, c0, rfl, x0, y0, l0⟩, s0, t0, p0⟩
    exact ⟨a0, n0, c0, rfl, x0, y0, l0.sub fun b o g => t0 _ _ (g)⟩
  · rintro ⟨a0, n0, c0, rfl, x0, y0, l0⟩
    exact ⟨_, _, (fun _ _ => False), F, rfl, rfl, ⟨a0, n0, c0, rfl, x0, y0, l0⟩, fun _ _ g => g.elim, fun _ _ g => g, fun _ _ g => g.elim⟩
set_option maxRecDepth 100000 in
set_option maxHeartbeats 800000 in
theorem toItem_o (w : World) (B : Nat) (es : List Value) (x : dItem) (h : shItem.reads (Under B) w es x) (hB : B ≤ w.heap.size) (hb : shItem.bulk x ≤ 1048576) :
    Calls Try.prog 22 #[.agg es.toArray] w fun e w' => ∃ es', e = .returned (.agg es'.toArray) ∧ ownItem.owns (FromB w.heap.size w'.heap.size) w' es' x ∧ Below w.heap.size w w' := by
  obtain ⟨a0, n0, c0, rfl, ⟨p0, r0, l0⟩⟩ := shItem_reads.1 h
  rw [shItem_bulk] at hb
  have m0 : n0 ≤ 1048576 := by have := bulk_list Shape.int l0; omega
  have H0 := Lib.hid fun (w1 : World) (hbw : Below w.heap.size w w1) => toIntS_o w1 B a0 n0 c0 _ (l0.below hbw hB) (Nat.le_trans hB hbw.size) (by omega)
  have hbx := Boxes.start w #[.int .i64 x.1, .slice a0 n0 c0] #[.int .i64 0, .slice none 0 0] #[.int .i64 x.1, .slice none 0 0] 47 29
  clear h hb l0 r0 p0
  go_enter Try.func22, Try.ntmps22
  go_wp2_with fail
  generalize ((w.alloc (.cells #[.int .i64 x.1, .slice a0 n0 c0] 47 (0, 0))).alloc (.cells #[.int .i64 0, .slice none 0 0] 29 (0, 0))).alloc (.cells #[.int .i64 x.1, .slice none 0 0] 29 (0, 0)) = v0 at hbx ⊢
  have BX0 := Lib.hid hbx
  clear hbx
  refine (H0.out v0 BX0.out.below).mono ?_
  rintro e w1 ⟨rfl, hr0, hb0⟩
  have hbx := BX0.out.call hb0
  have sb0 := hb0.size
  have hlt0 := BX0.out.size
  have za0_0 : w1.cell? ⟨w.heap.size, 0, none⟩ = _ := cell_of_row _ _ _ _ _ _ hbx.a
  have za0_1 : w1.cell? ⟨w.heap.size, 1, none⟩ = _ := cell_of_row _ _ _ _ _ _ hbx.a
  have zo0_0 : w1.cell? ⟨w.heap.size + 1 + 1, 0, none⟩ = _ := cell_of_row _ _ _ _ _ _ hbx.o
  have zo0_1 : w1.cell? ⟨w.heap.size + 1 + 1, 1, none⟩ = _ := cell_of_row _ _ _ _ _ _ hbx.o
  have zr0_0 : w1.cell? ⟨w.heap.size + 1, 0, none⟩ = _ := cell_of_row _ _ _ _ _ _ hbx.z
  have zr0_1 : w1.cell? ⟨w.heap.size + 1, 1, none⟩ = _ := cell_of_row _ _ _ _ _ _ hbx.z
  have fo0_0 : w1.frozen? ⟨w.heap.size + 1 + 1, 0, none⟩ = false := frozen_of_row _ _ _ _ _ hbx.o
  have fr0_0 : w1.frozen? ⟨w.heap.size + 1, 0, none⟩ = false := frozen_of_row _ _ _ _ _ hbx.z
  have fo0_1 : w1.frozen? ⟨w.heap.size + 1 + 1, 1, none⟩ = false := frozen_of_row _ _ _ _ _ hbx.o
  have fr0_1 : w1.frozen? ⟨w.heap.size + 1, 1, none⟩ = false := frozen_of_row _ _ _ _ _ hbx.z
  simp only [List.setIfInBounds_toArray, List.set_cons_zero, List.set_cons_succ, List.getElem?_toArray, List.getElem?_cons_zero, List.getElem?_cons_succ] at za0_0 zo0_0 zr0_0 za0_1 zo0_1 zr0_1
  have N0_0 := hr0
  have hby := (hbx.store 1 (.slice (some ⟨v0.heap.size, 0, none⟩) n0 n0))
  have O0_0 := (N0_0.stored (w.heap.size + 1 + 1) 1 (.slice (some ⟨v0.heap.size, 0, none⟩) n0 n0) (by omega))
  replace hby := Lib.hid hby
  replace O0_0 := Lib.hid O0_0
  clear N0_0
  clear hr0 hbx hb0
  go_wp2_with fail
  refine bodyPost_ret (results_cell_row rfl _ _ (w.heap.size + 1) 29 #[.int .i64 x.1, .slice (some ⟨v0.heap.size, 0, none⟩) n0 n0] (0, 0) _ rfl ?_ Try.underlying29 rfl (by kernel_rfl)) rfl ?_
  · exact hby.out.result [.int .i64 x.1, .slice (some ⟨v0.heap.size, 0, none⟩) n0 n0] rfl
  refine ⟨[.int .i64 x.1, .slice (some ⟨v0.heap.size, 0, none⟩) n0 n0], rfl, ?_, hby.out.last [.int .i64 x.1, .slice (some ⟨v0.heap.size, 0, none⟩) n0 n0]⟩
  have hfin := ownItem_owns (F := FromB v0.heap.size w1.heap.size).2 ⟨_, _, _, rfl, Nat.le_refl _, by omega, (O0_0.out.storedAll (w.heap.size + 1) 0 [.int .i64 x.1, .slice (some ⟨v0.heap.size, 0, none⟩) n0 n0] (by omega))⟩
  exact ownItem.owns_sub hfin fun b o f => ⟨by have := f.1; omega, by have h2 := f.2; simp; omega⟩
set_option maxRecDepth 100000 in
set_option maxHeartbeats 1600000 in
theorem toItemS_o (w : World) (B : Nat) (a : Option Addr) (n c : Nat) (xs : List dItem) (h : ListAt shItem (Under B) w a n xs) (hB : B ≤ w.heap.size) (hb : (Shape.list shItem).bulk xs ≤ 1048576) :
    Calls Try.prog 40 #[.slice a n c] w fun e w' => e = .returned (.slice (some ⟨w.heap.size, 0, none⟩) n n) ∧ OwnList ownItem (FromB w.heap.size w'.heap.size) w' (some ⟨w.heap.size, 0, none⟩) n xs ∧ Below w.heap.size w w' := by
  have hbk : (Shape.list shItem).bulk xs = n + Shape.sum shItem.bulk xs := by rw [← h.1]; rfl
  rw [hbk] at hb
  have hmk := run_make_many (P := Try.prog) 24 29 _ 2 32 Try.underlying24 infoAll_Item n (by omega) (by omega)
  have hst := OFilled.start ownItem w n xs (Value.agg #[.int .i64 0, .slice none 0 0]).cells 29
  replace hst := Lib.hid hst
  have HL := Lib.hid h
  have HB := Lib.hid hb
  have hn1 : n ≤ 1048576 := by omega
  clear hbk h hb
  go_enter Try.func40, Try.ntmps40
  go_wp2_with fail
  go_loopw [4] (fun i wr => ∃ k : Nat, k ≤ n ∧ i = .int .i64 k ∧ OFilled ownItem w wr n k xs) (fun i _ => n - (intOf i).toNat)
  case atStart => exact ⟨0, Nat.zero_le _, rfl, hst.out⟩
  case round =>
    obtain ⟨k, hk, rfl, hf⟩ := hrel
    by_cases hlt : k < n
    · obtain ⟨x, hx⟩ : ∃ x, xs[k]? = some x := ⟨_, List.getElem?_eq_getElem (by rw [HL.out.1]; exact hlt)⟩
      obtain ⟨b, o, es, rfl, hbB, hr, hs⟩ := HL.out.2 k x hx
      have hfb := hf.below
      have hfl := hf.lt
      have hth0 := hf.rest (Nat.le_of_lt hlt)
      have hrr := rangeAt_kept hr (show b < w.heap.size from Nat.lt_of_lt_of_le hbB hB) (Kept.of_below (I := Under w.heap.size) hfb fun b hb => hb)
      have HS := Lib.hid (toItem_o wr _ es x (shItem.below (shItem.le hs hB) hfb (Nat.le_refl _)) (Nat.le_of_lt hfl) (by have h1 := bulk_mem shItem.bulk xs k x hx; have h2 := HB.out; omega))
      have HF := Lib.hid hf
      have HX := Lib.hid hx
      have HT := Lib.hid hth0
      obtain ⟨ae0, ne0, ce0, rfl, -⟩ := shItem_reads.1 hs
      rw [shItem_size] at hrr
      have c0 := hrr 0 _ rfl
      have c1 := hrr 1 _ rfl
      simp only [Nat.add_zero] at c0
      try dsimp only at c0 c1 HS
      clear hr hrr hs hx hf hth0
      go_wp2_with fail
      clear c0 c1
      refine HS.out.mono ?_
      rintro e w1 ⟨es', rfl, hs', hb1⟩
      have hn4 : 2 ≤ (n - k) * ownItem.size := by rw [ownItem_size]; omega
      have hth := there_below HT.out hb1 hfl
      have hN := HF.out.step hlt hb1 HX.out hs'
      have HN := Lib.hid hN
      have HB1 := Lib.hid hb1
      obtain ⟨af0, nf0, cf0, rfl, -⟩ := ownItem_owns.1 hs'
      obtain ⟨⟨v0, d0⟩, f0⟩ := there_cell hth 0 (by omega)
      obtain ⟨⟨v1, d1⟩, f1⟩ := there_cell hth 1 (by omega)
      rw [ownItem_size] at d0 d1 f0 f1
      simp only [Nat.add_zero] at d0 f0
      clear hs' hb1 hth hN
      go_wp2_with fail
      go_round
      case rel => exact ⟨k + 1, by omega, by go_num, HN.out⟩
      case measure => simp [intOf]; omega
    · obtain rfl : k = n := by omega
      have hz := hf.below
      have HF := Lib.hid hf
      clear hf hz
      go_wp2_with fail
      go_ret
      exact ⟨rfl, HF.out.list HL.out.1, HF.out.below⟩
def ownQueue : Owned dQueue := .struct (.cons Owned.int (.last (Owned.list ownItem (by decide))))
theorem ownQueue_size : ownQueue.size = 2 := rfl
theorem ownQueue_shape : ownQueue.toShape = shQueue := rfl
theorem ownQueue_owns {F : Foot} {w : World} {cs : List Value} {d : dQueue} : ownQueue.owns F w cs d ↔ ∃ a0 n0 c0, cs = [.int .i64 d.1, .slice a0 n0 c0] ∧ (n0 ≤ c0 ∧ c0 ≤ 9223372036854775807 ∧ OwnList ownItem F w a0 n0 d.2) := by
  constructor
  · rintro ⟨_, _, A0, B0, rfl, rfl, ⟨a0, n0, c0, rfl, x0, y0, l0⟩, s0, t0, p0⟩
    exact ⟨a0, n0, c0, rfl, x0, y0, l0.sub fun b o g => t0 _ _ (g)⟩
  · rintro ⟨a0, n0, c0, rfl, x0, y0, l0⟩
    exact ⟨_, _, (fun _ _ => False), F, rfl, rfl, ⟨a0, n0, c0, rfl, x0, y0, l0⟩, fun _ _ g => g.elim, fun _ _ g => g, fun _ _ g => g.elim⟩
set_option maxRecDepth 100000 in
set_option maxHeartbeats 800000 in
theorem toQueue_o (w : World) (B : Nat) (es : List Value) (x : dQueue) (h : shQueue.reads (Under B) w es x) (hB : B ≤ w.heap.size) (hb : shQueue.bulk x ≤ 1048576) :
    Calls Try.prog 17 #[.agg es.toArray] w fun e w' => ∃ es', e = .returned (.agg es'.toArray) ∧ ownQueue.owns (FromB w.heap.size w'.heap.size) w' es' x ∧ Below w.heap.size w w' := by
  obtain ⟨a0, n0, c0, rfl, ⟨p0, r0, l0⟩⟩ := shQueue_reads.1 h
  rw [shQueue_bulk] at hb
  have m0 : n0 ≤ 1048576 := by have := bulk_list shItem l0; omega
  have H0 := Lib.hid fun (w1 : World) (hbw : Below w.heap.size w w1) => toItemS_o w1 B a0 n0 c0 _ (l0.below hbw hB) (Nat.le_trans hB hbw.size) (by omega)
  have hbx := Boxes.start w #[.int .i64 x.1, .slice a0 n0 c0] #[.int .i64 0, .slice none 0 0] #[.int .i64 x.1, .slice none 0 0] 42 26
  clear h hb l0 r0 p0
  go_enter Try.func17, Try.ntmps17
  go_wp2_with fail
  generalize ((w.alloc (.cells #[.int .i64 x.1, .slice a0 n0 c0] 42 (0, 0))).alloc (.cells #[.int .i64 0, .slice none 0 0] 26 (0, 0))).alloc (.cells #[.int .i64 x.1, .slice none 0 0] 26 (0, 0)) = v0 at hbx ⊢
  have BX0 := Lib.hid hbx
  clear hbx
  refine (H0.out v0 BX0.out.below).mono ?_
  rintro e w1 ⟨rfl, hr0, hb0⟩
  have hbx := BX0.out.call hb0
  have sb0 := hb0.size
  have hlt0 := BX0.out.size
  have za0_0 : w1.cell? ⟨w.heap.size, 0, none⟩ = _ := cell_of_row _ _ _ _ _ _ hbx.a
  have za0_1 : w1.cell? ⟨w.heap.size, 1, none⟩ = _ := cell_of_row _ _ _ _ _ _ hbx.a
  have zo0_0 : w1.cell? ⟨w.heap.size + 1 + 1, 0, none⟩ = _ := cell_of_row _ _ _ _ _ _ hbx.o
  have zo0_1 : w1.cell? ⟨w.heap.size + 1 + 1, 1, none⟩ = _ := cell_of_row _ _ _ _ _ _ hbx.o
  have zr0_0 : w1.cell? ⟨w.heap.size + 1, 0, none⟩ = _ := cell_of_row _ _ _ _ _ _ hbx.z
  have zr0_1 : w1.cell? ⟨w.heap.size + 1, 1, none⟩ = _ := cell_of_row _ _ _ _ _ _ hbx.z
  have fo0_0 : w1.frozen? ⟨w.heap.size + 1 + 1, 0, none⟩ = false := frozen_of_row _ _ _ _ _ hbx.o
  have fr0_0 : w1.frozen? ⟨w.heap.size + 1, 0, none⟩ = false := frozen_of_row _ _ _ _ _ hbx.z
  have fo0_1 : w1.frozen? ⟨w.heap.size + 1 + 1, 1, none⟩ = false := frozen_of_row _ _ _ _ _ hbx.o
  have fr0_1 : w1.frozen? ⟨w.heap.size + 1, 1, none⟩ = false := frozen_of_row _ _ _ _ _ hbx.z
  simp only [List.setIfInBounds_toArray, List.set_cons_zero, List.set_cons_succ, List.getElem?_toArray, List.getElem?_cons_zero, List.getElem?_cons_succ] at za0_0 zo0_0 zr0_0 za0_1 zo0_1 zr0_1
  have N0_0 := hr0
  have hby := (hbx.store 1 (.slice (some ⟨v0.heap.size, 0, none⟩) n0 n0))
  have O0_0 := (N0_0.stored (w.heap.size + 1 + 1) 1 (.slice (some ⟨v0.heap.size, 0, none⟩) n0 n0) (by omega))
  replace hby := Lib.hid hby
  replace O0_0 := Lib.hid O0_0
  clear N0_0
  clear hr0 hbx hb0
  go_wp2_with fail
  refine bodyPost_ret (results_cell_row rfl _ _ (w.heap.size + 1) 26 #[.int .i64 x.1, .slice (some ⟨v0.heap.size, 0, none⟩) n0 n0] (0, 0) _ rfl ?_ Try.underlying26 rfl (by kernel_rfl)) rfl ?_
  · exact hby.out.result [.int .i64 x.1, .slice (some ⟨v0.heap.size, 0, none⟩) n0 n0] rfl
  refine ⟨[.int .i64 x.1, .slice (some ⟨v0.heap.size, 0, none⟩) n0 n0], rfl, ?_, hby.out.last [.int .i64 x.1, .slice (some ⟨v0.heap.size, 0, none⟩) n0 n0]⟩
  have hfin := ownQueue_owns (F := FromB v0.heap.size w1.heap.size).2 ⟨_, _, _, rfl, Nat.le_refl _, by omega, (O0_0.out.storedAll (w.heap.size + 1) 0 [.int .i64 x.1, .slice (some ⟨v0.heap.size, 0, none⟩) n0 n0] (by omega))⟩
  exact ownQueue.owns_sub hfin fun b o f => ⟨by have := f.1; omega, by have h2 := f.2; simp; omega⟩
end Go.Proofs.Ytdoofapjhgahgaa
