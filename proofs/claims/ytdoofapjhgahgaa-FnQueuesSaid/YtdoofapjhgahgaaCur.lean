/-
  The cursor by which the statements draw: what each call makes of it.
-/
import Derived.Test.YtdoofapjhgahgaaProg
import Derived.Test.YtdoofapjhgahgaaBytes
import Derived.Lib.Hide
import Derived.WalkSpells
import Derived.WalkLawsBesides
import Derived.Deep.QuietTactic
import Derived.BigQuiet
import Derived.Outline
namespace Go.Proofs.Ytdoofapjhgahgaa
open Go.RowKit
set_option linter.unusedVariables false

/-- Where the cursor stands. -/
structure St where
  i : Nat
  h : Int
/-- The cursor in block C, over the code bs. -/
def curCells (a : Option Addr) (n cap : Nat) (s : St) : Array Value := #[.slice a n cap, .int .i64 s.i, .int .i64 s.h]
structure CurAt (B : Nat) (w : World) (C : Nat) (a : Option Addr) (cap : Nat) (bs : List UInt8) (s : St) : Prop where
  cur : w.heap[C]? = some (.cells (curCells a bs.length cap s) 71 (0, 0))
  fit : s.i ≤ bs.length
  room : bs.length ≤ 1048576
  code : ∀ j (hj : j < bs.length), ∃ b o, a = some ⟨b, o, none⟩ ∧ b < B ∧ w.cell? ⟨b, o + j, none⟩ = some (.int .u8 (bs[j].toNat : Int))
  up : B ≤ C

def hStep (h : Int) : Int := wrap64 (wrap64 (h * 6364136223846793005) + 1442695040888963407)
def xOf (h : Int) : Int := bits .and .i64 (bits .xor .i64 (h / 8589934592) (h / 35184372088832)) 255
theorem and255 (y : Int) : 0 ≤ bits .and .i64 y 255 ∧ bits .and .i64 y 255 ≤ 255 := by
  have e : bits .and .i64 y 255 = IntKind.i64.wrap (((BitVec.ofInt 64 y &&& BitVec.ofInt 64 255).toNat : Nat) : Int) := rfl
  have hb : (BitVec.ofInt 64 y &&& BitVec.ofInt 64 255).toNat ≤ 255 := by
    rw [BitVec.toNat_and]
    exact Nat.le_trans Nat.and_le_right (by decide)
  rw [e, IntKind.wrap_i64]
  omega
/-- One byte drawn: the number, and where the cursor stands then. -/
def byteF (bs : List UInt8) (s : St) : Int × St :=
  if s.i < bs.length then (bits .and .i64 (xOf (hStep s.h) + ((bs.getD s.i 0).toNat : Int)) 255, ⟨s.i + 1, hStep s.h⟩) else (xOf (hStep s.h), ⟨s.i, hStep s.h⟩)
theorem byteF_range (bs : List UInt8) (s : St) : 0 ≤ (byteF bs s).1 ∧ (byteF bs s).1 ≤ 255 := by
  unfold byteF
  split
  · exact and255 _
  · exact and255 _

/-- What a drawing call leaves: the cursor's block turned, nothing else that was there. -/
structure Drawn (B : Nat) (w w' : World) (C : Nat) (a : Option Addr) (cap : Nat) (bs : List UInt8) (s : St) : Prop where
  at_ : CurAt B w' C a cap bs s
  grown : w.grownBy w' (some C)

theorem Drawn.refl {B : Nat} {w : World} {C : Nat} {a : Option Addr} {cap : Nat} {bs : List UInt8} {s : St} (h : CurAt B w C a cap bs s) : Drawn B w w C a cap bs s := ⟨h, World.grownBy.refl _ _⟩
theorem grownBy_trans {w w1 w2 : World} {r : Option Nat} (h : w.grownBy w1 r) (k : w1.grownBy w2 r) : w.grownBy w2 r :=
  ⟨k.os.trans h.os, k.tape.trans h.tape, k.output.trans h.output, Nat.le_trans h.size k.size, fun b hb hr => (k.block b (Nat.lt_of_lt_of_le hb h.size) hr).trans (h.block b hb hr)⟩
theorem Drawn.trans {B : Nat} {w w1 w2 : World} {C : Nat} {a : Option Addr} {cap : Nat} {bs : List UInt8} {s s' : St} (h : Drawn B w w1 C a cap bs s) (k : Drawn B w1 w2 C a cap bs s') : Drawn B w w2 C a cap bs s' :=
  ⟨k.at_, grownBy_trans h.grown k.grown⟩
theorem Drawn.below {B : Nat} {w w' : World} {C : Nat} {a : Option Addr} {cap : Nat} {bs : List UInt8} {s : St} (h : Drawn B w w' C a cap bs s) (hB : B ≤ w.heap.size) : Below B w w' :=
  (Below.refl B w).grown h.grown hB (fun k hk => by cases hk; exact h.at_.up)
/-- The cursor stands as it did where its block was not turned. -/
theorem CurAt.keep {B : Nat} {w w' : World} {C : Nat} {a : Option Addr} {cap : Nat} {bs : List UInt8} {s : St} (h : CurAt B w C a cap bs s) (hC : w'.heap[C]? = w.heap[C]?) (hb : ∀ k, k < B → w'.heap[k]? = w.heap[k]?) : CurAt B w' C a cap bs s :=
  ⟨hC.trans h.cur, h.fit, h.room, fun j hj => by
    obtain ⟨b, o, e1, e2, e3⟩ := h.code j hj
    exact ⟨b, o, e1, e2, (World.cell?_of_block (w := w) (a := ⟨b, o + j, none⟩) (hb b e2)).trans e3⟩, h.up⟩
theorem CurAt.grown {B : Nat} {w w' : World} {C : Nat} {a : Option Addr} {cap : Nat} {bs : List UInt8} {s : St} {row : Option Nat} (h : CurAt B w C a cap bs s) (hg : w.grownBy w' row) (hr : ∀ k, row = some k → B ≤ k ∧ k ≠ C) : CurAt B w' C a cap bs s := by
  have hCl : C < w.heap.size := (Array.getElem?_eq_some_iff.1 h.cur).1
  exact h.keep (hg.block C hCl (fun e => (hr C e.symm).2 rfl)) fun k hk => hg.block k (by have := h.up; omega) (fun e => by have := (hr k e.symm).1; omega)
theorem CurAt.alloc {B : Nat} {w : World} {C : Nat} {a : Option Addr} {cap : Nat} {bs : List UInt8} {s : St} (h : CurAt B w C a cap bs s) (o : Obj) : CurAt B (w.alloc o) C a cap bs s :=
  h.grown (World.grownBy_alloc w o none) (fun k hk => by cases hk)
theorem CurAt.drew {B : Nat} {w : World} {C : Nat} {a : Option Addr} {cap : Nat} {bs : List UInt8} {s : St} (h : CurAt B w C a cap bs s) : CurAt B w.drew C a cap bs s := h.keep rfl fun _ _ => rfl
theorem drawn_set2 {B : Nat} {w : World} {C : Nat} {a : Option Addr} {cap : Nat} {bs : List UInt8} {i : Nat} {h : Int} (hc : CurAt B w C a cap bs ⟨i, h⟩) (h' : Int) (W : World) (hW : W.heap = (w.setCell ⟨C, 2, none⟩ (.int .i64 h')).heap)
    (ho : W.os = w.os) (ht : W.tape = w.tape) (hu : W.output = w.output) : Drawn B w W C a cap bs ⟨i, h'⟩ := by
  have hne : ∀ b, b ≠ C → W.heap[b]? = w.heap[b]? := fun b hb => by
    rw [hW]
    exact heap_setCell_other w ⟨C, 2, none⟩ b _ hb
  refine ⟨⟨?_, hc.fit, hc.room, fun j hj => ?_, hc.up⟩, ⟨ho, ht, hu, by rw [hW]; simp [World.setCell], fun b _ hb => hne b (fun e => hb (by rw [e]))⟩⟩
  · rw [hW, heap_setCell_same w C 2 _ _ _ hc.cur]
    rfl
  · obtain ⟨b, o, e1, e2, e3⟩ := hc.code j hj
    exact ⟨b, o, e1, e2, (World.cell?_of_block (w := w) (a := ⟨b, o + j, none⟩) (hne b (by have := hc.up; omega))).trans e3⟩
theorem drawn_set12 {B : Nat} {w : World} {C : Nat} {a : Option Addr} {cap : Nat} {bs : List UInt8} {i : Nat} {h : Int} (hc : CurAt B w C a cap bs ⟨i, h⟩) (h' : Int) (k : Nat) (hi : i < bs.length) (z : Int) (hz : z = ((i + 1 : Nat) : Int)) (W : World) (hW : W.heap = ((w.setCell ⟨C, 2, none⟩ (.int .i64 h')).setCell ⟨C, 1, none⟩ (.int .i64 z)).heap)
    (ho : W.os = w.os) (ht : W.tape = w.tape) (hu : W.output = w.output) :
    Drawn B w W C a cap bs ⟨i + 1, h'⟩ := by
  have hne : ∀ b, b ≠ C → W.heap[b]? = w.heap[b]? := fun b hb => by
    rw [hW]
    exact (heap_setCell_other _ ⟨C, 1, none⟩ b _ hb).trans (heap_setCell_other w ⟨C, 2, none⟩ b _ hb)
  refine ⟨⟨?_, hi, hc.room, fun j hj => ?_, hc.up⟩, ⟨ho, ht, hu, by rw [hW]; simp [World.setCell], fun b _ hb => hne b (fun e => hb (by rw [e]))⟩⟩
  · rw [hW, heap_setCell_same _ C 1 _ _ _ (heap_setCell_same w C 2 _ _ _ hc.cur), hz]
    rfl
  · obtain ⟨b, o, e1, e2, e3⟩ := hc.code j hj
    exact ⟨b, o, e1, e2, (World.cell?_of_block (w := w) (a := ⟨b, o + j, none⟩) (hne b (by have := hc.up; omega))).trans e3⟩

set_option maxRecDepth 100000 in
theorem l1Byte_past (B : Nat) (w : World) (C : Nat) (a : Option Addr) (cap : Nat) (bs : List UInt8) (s : St) (hc : CurAt B w C a cap bs s) (hi : ¬ s.i < bs.length) :
    Calls Try.prog 52 #[.pointer (some ⟨C, 0, none⟩)] w fun e w' => e = .returned (.int .i64 (byteF bs s).1) ∧ Drawn B w w' C a cap bs (byteF bs s).2 := by
  obtain ⟨i, h⟩ := s
  have HC := Lib.hid hc
  have HE : Hid (byteF bs ⟨i, h⟩ = (xOf (hStep h), ⟨i, hStep h⟩)) := Lib.hid (if_neg hi)
  obtain ⟨hcur, hfit, hroom, hcode, hup⟩ := hc
  have hc0 : w.cell? ⟨C, 0, none⟩ = some (.slice a bs.length cap) := by rw [cell_of_row w C 0 _ _ _ hcur]; rfl
  have hc1 : w.cell? ⟨C, 1, none⟩ = some (.int .i64 i) := by rw [cell_of_row w C 1 _ _ _ hcur]; rfl
  have hc2 : w.cell? ⟨C, 2, none⟩ = some (.int .i64 h) := by rw [cell_of_row w C 2 _ _ _ hcur]; rfl
  have hf2 : w.frozen? ⟨C, 2, none⟩ = false := frozen_of_row w C 2 _ _ hcur
  clear hcur hcode
  simp only at hi hfit
  go_enter Try.func52, Try.ntmps52
  go_wp2
  go_quiet (fail)
  go_wp2
  go_quiet (fail)
  go_wp2
  go_ret
  rw [HE.out]
  exact ⟨rfl, drawn_set2 HC.out (hStep h) _ rfl rfl rfl rfl⟩

set_option maxRecDepth 100000 in
theorem l1Byte_more (B : Nat) (w : World) (C : Nat) (a : Option Addr) (cap : Nat) (bs : List UInt8) (s : St) (hc : CurAt B w C a cap bs s) (hi : s.i < bs.length) :
    Calls Try.prog 52 #[.pointer (some ⟨C, 0, none⟩)] w fun e w' => e = .returned (.int .i64 (byteF bs s).1) ∧ Drawn B w w' C a cap bs (byteF bs s).2 := by
  obtain ⟨i, h⟩ := s
  have HC := Lib.hid hc
  have HE : Hid (byteF bs ⟨i, h⟩ = (bits .and .i64 (xOf (hStep h) + ((bs.getD i 0).toNat : Int)) 255, ⟨i + 1, hStep h⟩)) := Lib.hid (if_pos hi)
  obtain ⟨hcur, hfit, hroom, hcode, hup⟩ := hc
  have hc0 : w.cell? ⟨C, 0, none⟩ = some (.slice a bs.length cap) := by rw [cell_of_row w C 0 _ _ _ hcur]; rfl
  have hc1 : w.cell? ⟨C, 1, none⟩ = some (.int .i64 i) := by rw [cell_of_row w C 1 _ _ _ hcur]; rfl
  have hc2 : w.cell? ⟨C, 2, none⟩ = some (.int .i64 h) := by rw [cell_of_row w C 2 _ _ _ hcur]; rfl
  have hf2 : w.frozen? ⟨C, 2, none⟩ = false := frozen_of_row w C 2 _ _ hcur
  have hf1 : w.frozen? ⟨C, 1, none⟩ = false := frozen_of_row w C 1 _ _ hcur
  simp only at hi hfit
  obtain ⟨b, o, rfl, hbB, hcb⟩ := hcode i hi
  have hbC : b ≠ C := by omega
  have hg : bs.getD i 0 = bs[i] := by simp [List.getD, hi]
  rw [hg] at HE
  have hb8 : ((bs[i]'hi).toNat : Int) < 256 := by have := (bs[i]'hi).toNat_lt; omega
  obtain ⟨D, hD⟩ : ∃ D : Int, D = ((bs[i]'hi).toNat : Int) := ⟨_, rfl⟩
  rw [← hD] at hcb HE hb8
  have hD0 : 0 ≤ D := by omega
  obtain ⟨X, hX⟩ : ∃ X, X = xOf (hStep h) := ⟨_, rfl⟩
  have hXr := and255 (bits .xor .i64 (hStep h / 8589934592) (hStep h / 35184372088832))
  have hX0 : 0 ≤ X := by rw [hX]; exact hXr.1
  have hX1 : X ≤ 255 := by rw [hX]; exact hXr.2
  clear hcur hcode hD hg hXr
  have HX := Lib.hid hX
  have hX' : bits .and .i64 (bits .xor .i64 (wrap64 (wrap64 (h * 6364136223846793005) + 1442695040888963407) / 8589934592) (wrap64 (wrap64 (h * 6364136223846793005) + 1442695040888963407) / 35184372088832)) 255 = X := hX.symm
  clear hX
  go_enter Try.func52, Try.ntmps52
  go_wp2
  go_quiet (fail)
  go_wp2
  go_quiet (fail)
  go_wp2
  go_quiet (fail)
  go_wp2
  go_ret
  rw [HE.out, ← HX.out]
  refine ⟨rfl, drawn_set12 HC.out (hStep h) 0 hi _ rfl _ ?_ rfl rfl rfl⟩
  rfl
theorem l1Byte_any (B : Nat) (w : World) (C : Nat) (a : Option Addr) (cap : Nat) (bs : List UInt8) (s : St) (hc : CurAt B w C a cap bs s) :
    Calls Try.prog 52 #[.pointer (some ⟨C, 0, none⟩)] w fun e w' => e = .returned (.int .i64 (byteF bs s).1) ∧ Drawn B w w' C a cap bs (byteF bs s).2 := by
  by_cases hi : s.i < bs.length
  · exact l1Byte_more B w C a cap bs s hc hi
  · exact l1Byte_past B w C a cap bs s hc hi
end Go.Proofs.Ytdoofapjhgahgaa
