import Derived.WalkKit
import Derived.Laws.CopyOwn
import Derived.Laws.IdiomStrings
import Derived.Lib.Hide
import Derived.Test.YtkflinobmagiiaaProg
import Derived.WalkSpells
import Derived.WalkLawsBesides
import Derived.Deep.QuietTactic
import Derived.BigQuiet
import Derived.Outline
/-! YtkflinobmagiiaaBytes -/
section

namespace Go.Proofs.Ytkflinobmagiiaa
open Go.RowKit

/-- The cells of a list of bytes. -/
def bcells (l : List UInt8) : List Value := l.map (fun b => Value.int .u8 (b.toNat : Int))
theorem bcells_length (l : List UInt8) : (bcells l).length = l.length := by simp [bcells]
theorem bcells_append (a b : List UInt8) : bcells (a ++ b) = bcells a ++ bcells b := by simp [bcells]
theorem bcells_get (l : List UInt8) (j : Nat) (h : j < l.length) : (bcells l)[j]? = some (.int .u8 (l[j].toNat : Int)) := by simp [bcells, h]
theorem bcells_one (l : List UInt8) : ∀ u ∈ bcells l, u.oneCell' = true := by
  intro u hu
  obtain ⟨_, _, rfl⟩ := List.mem_map.1 hu
  rfl
theorem splice_zero {α : Type} (L cs : List α) : splice L 0 cs = cs ++ L.drop cs.length := by simp [splice]
theorem splice_take {α : Type} (L cs : List α) (n : Nat) (xs : List α) (hx : L.take n = xs) (hn : xs.length = n) : (splice L n cs).take (n + cs.length) = xs ++ cs := by
  simp only [splice, hx]
  rw [← List.append_assoc, List.take_append_of_le_length (by simp; omega)]
  exact List.take_of_length_le (by simp; omega)
/-- 'string([]byte{b})': the one-cell row has just been laid. -/
theorem conv_one {P : Program} (w : World) (src dst e : TypeId) (hs : P.underlying src = some (.slice e)) (he : P.underlying e = some (.int .u8)) (hd : P.underlying dst = some .string)
    (x : Int) (b : UInt8) (hx : x = (b.toNat : Int)) :
    (convert src dst (.slice (some ⟨w.heap.size, 0, none⟩) 1 1)).run P (w.alloc (.cells #[.int .u8 x] e)) = .ok (.string ⟨#[b]⟩) (w.alloc (.cells #[.int .u8 x] e)) := by
  subst hx
  refine run_convert_bytes_back _ src dst e ⟨w.heap.size, 0, none⟩ 1 [b] hs he hd ?_
  intro j hj
  have : j = 0 := by simpa using hj
  subst this
  rw [Addr.add_lit, Nat.add_zero]
  rw [cell_of_row _ _ _ _ _ _ (heap_alloc_new w _)]
  simp
theorem u8_ofNat_toNat (n : Nat) (h : n < 256) : (UInt8.ofNat n).toNat = n := by simp; omega
theorem bytes_append (a b : List UInt8) : ((⟨a.toArray⟩ : ByteArray) ++ (⟨b.toArray⟩ : ByteArray)) = ⟨(a ++ b).toArray⟩ := by
  rw [ByteArray.mk_append_mk]
/-- The cells of a one-cell row that has just been laid. -/
theorem cell_one_put (w : World) (e : TypeId) (x : Int) (b : UInt8) (hx : x = (b.toNat : Int)) :
    ∀ j u, (bcells [b])[j]? = some u → (w.alloc (.cells #[.int .u8 x] e)).cell? ⟨w.heap.size, j, none⟩ = some u := by
  intro j u hu
  subst hx
  rw [cell_of_row _ _ _ _ _ _ (heap_alloc_new w _)]
  simpa [bcells] using hu
/-- 'string(b)', b a row of the call's own. -/
theorem own_string {P : Program} {w : World} {B e : Nat} {v : Value} {n : Nat} {l : List UInt8} (src dst : TypeId) (hs : P.underlying src = some (.slice e)) (he : P.underlying e = some (.int .u8)) (hd : P.underlying dst = some .string)
    (hown : w.ownsRow B e 1 v n (bcells l)) : (convert src dst v).run P w = .ok (.string ⟨l.toArray⟩) w := by
  have hl : l.length = n := by have := hown.1; rw [bcells_length] at this; omega
  have hcs := fun g (h : v.ownBlock = some g) => hown.cells (g := g) h
  rcases hown.2 with ⟨rfl, rfl⟩ | ⟨g, cap, cur, rfl, hBg, hg, hnc, hcm, hcs1, htake⟩
  · obtain rfl : l = [] := List.eq_nil_of_length_eq_zero hl
    rw [run_convert_bytes_string w src dst e none 0 0 hs he hd]
    simp [Conv.bytesToString, Sem.run_pure]
    rfl
  · subst hl
    exact run_convert_bytes_back w src dst e _ cap l hs he hd fun j hj => hcs g rfl j _ (bcells_get l j hj)
/-- 'x | y' where y lies below x's lowest bit. -/
theorem i64_join (i : Nat) (hi : i ≤ 62) (x y : Int) (hx0 : 0 ≤ x) (hx : x % 2 ^ i = 0) (hx1 : x < 4611686018427387904) (hy0 : 0 ≤ y) (hy : y < 2 ^ i) : bits .or .i64 x y = x + y := by
  have h62 : (2 : Int) ^ 62 = 4611686018427387904 := by decide
  have hp : (2 : Int) ^ i ≤ 2 ^ 62 := by
    have := Nat.pow_le_pow_right (n := 2) (by decide) hi
    exact_mod_cast this
  refine bits_join .i64 62 (by decide) (fun n h0 h1 => ?_) i x y hx0 hx (by omega) hy0 hy (by omega)
  rw [IntKind.wrap_i64]
  omega
end Go.Proofs.Ytkflinobmagiiaa

end

/-! YtkflinobmagiiaaCur -/
section

namespace Go.Proofs.Ytkflinobmagiiaa
open Go.RowKit
set_option linter.unusedVariables false

/-- Where the cursor stands. -/
structure St where
  i : Nat
  h : Int
/-- The cursor in block C, over the code bs. -/
def curCells (a : Option Addr) (n cap : Nat) (s : St) : Array Value := #[.slice a n cap, .int .i64 s.i, .int .i64 s.h]
structure CurAt (B : Nat) (w : World) (C : Nat) (a : Option Addr) (cap : Nat) (bs : List UInt8) (s : St) : Prop where
  cur : w.heap[C]? = some (.cells (curCells a bs.length cap s) 103 (0, 0))
  fit : s.i ≤ bs.length
  room : bs.length ≤ 1048576
  code : ∀ j (hj : j < bs.length), ∃ b o, a = some ⟨b, o, none⟩ ∧ b < B ∧ w.cell? ⟨b, o + j, none⟩ = some (.int .u8 (bs[j].toNat : Int))
  up : B ≤ C

def hStep (h : Int) : Int := wrap64 (wrap64 (h * 6364136223846793005) + 1442695040888963407)
def xOf (h : Int) : Int := bits .and .i64 (bits .xor .i64 (h / 8589934592) (h / 35184372088832)) 255
theorem and255 (y : Int) : 0 ≤ bits .and .i64 y 255 ∧ bits .and .i64 y 255 ≤ 255 := by
  have e : bits .and .i64 y 255 = IntKind.i64.wrap (((BitVec.ofInt 64 y &&& BitVec.ofInt 64 255).toNat : Nat) : Int) := rfl
  have hb : (BitVec.ofInt 64 y &&& BitVec.ofInt 64 255).toNat ≤ 255 := by
    rw [BitVec.toNat_and]
    exact Nat.le_trans Nat.and_le_right (by decide)
  rw [e, IntKind.wrap_i64]
  omega
/-- One byte drawn: the number, and where the cursor stands then. -/
def byteF (bs : List UInt8) (s : St) : Int × St :=
  if s.i < bs.length then (bits .and .i64 (xOf (hStep s.h) + ((bs.getD s.i 0).toNat : Int)) 255, ⟨s.i + 1, hStep s.h⟩) else (xOf (hStep s.h), ⟨s.i, hStep s.h⟩)
theorem byteF_range (bs : List UInt8) (s : St) : 0 ≤ (byteF bs s).1 ∧ (byteF bs s).1 ≤ 255 := by
  unfold byteF
  split
  · exact and255 _
  · exact and255 _

/-- What a drawing call leaves: the cursor's block turned, nothing else that was there. -/
structure Drawn (B : Nat) (w w' : World) (C : Nat) (a : Option Addr) (cap : Nat) (bs : List UInt8) (s : St) : Prop where
  at_ : CurAt B w' C a cap bs s
  grown : w.grownBy w' (some C)

theorem Drawn.refl {B : Nat} {w : World} {C : Nat} {a : Option Addr} {cap : Nat} {bs : List UInt8} {s : St} (h : CurAt B w C a cap bs s) : Drawn B w w C a cap bs s := ⟨h, World.grownBy.refl _ _⟩
theorem grownBy_trans {w w1 w2 : World} {r : Option Nat} (h : w.grownBy w1 r) (k : w1.grownBy w2 r) : w.grownBy w2 r :=
  ⟨k.os.trans h.os, k.tape.trans h.tape, k.output.trans h.output, Nat.le_trans h.size k.size, fun b hb hr => (k.block b (Nat.lt_of_lt_of_le hb h.size) hr).trans (h.block b hb hr)⟩
theorem Drawn.trans {B : Nat} {w w1 w2 : World} {C : Nat} {a : Option Addr} {cap : Nat} {bs : List UInt8} {s s' : St} (h : Drawn B w w1 C a cap bs s) (k : Drawn B w1 w2 C a cap bs s') : Drawn B w w2 C a cap bs s' :=
  ⟨k.at_, grownBy_trans h.grown k.grown⟩
theorem Drawn.below {B : Nat} {w w' : World} {C : Nat} {a : Option Addr} {cap : Nat} {bs : List UInt8} {s : St} (h : Drawn B w w' C a cap bs s) (hB : B ≤ w.heap.size) : Below B w w' :=
  (Below.refl B w).grown h.grown hB (fun k hk => by cases hk; exact h.at_.up)
/-- The cursor stands as it did where its block was not turned. -/
theorem CurAt.keep {B : Nat} {w w' : World} {C : Nat} {a : Option Addr} {cap : Nat} {bs : List UInt8} {s : St} (h : CurAt B w C a cap bs s) (hC : w'.heap[C]? = w.heap[C]?) (hb : ∀ k, k < B → w'.heap[k]? = w.heap[k]?) : CurAt B w' C a cap bs s :=
  ⟨hC.trans h.cur, h.fit, h.room, fun j hj => by
    obtain ⟨b, o, e1, e2, e3⟩ := h.code j hj
    exact ⟨b, o, e1, e2, (World.cell?_of_block (w := w) (a := ⟨b, o + j, none⟩) (hb b e2)).trans e3⟩, h.up⟩
theorem CurAt.grown {B : Nat} {w w' : World} {C : Nat} {a : Option Addr} {cap : Nat} {bs : List UInt8} {s : St} {row : Option Nat} (h : CurAt B w C a cap bs s) (hg : w.grownBy w' row) (hr : ∀ k, row = some k → B ≤ k ∧ k ≠ C) : CurAt B w' C a cap bs s := by
  have hCl : C < w.heap.size := (Array.getElem?_eq_some_iff.1 h.cur).1
  exact h.keep (hg.block C hCl (fun e => (hr C e.symm).2 rfl)) fun k hk => hg.block k (by have := h.up; omega) (fun e => by have := (hr k e.symm).1; omega)
theorem CurAt.alloc {B : Nat} {w : World} {C : Nat} {a : Option Addr} {cap : Nat} {bs : List UInt8} {s : St} (h : CurAt B w C a cap bs s) (o : Obj) : CurAt B (w.alloc o) C a cap bs s :=
  h.grown (World.grownBy_alloc w o none) (fun k hk => by cases hk)
theorem CurAt.drew {B : Nat} {w : World} {C : Nat} {a : Option Addr} {cap : Nat} {bs : List UInt8} {s : St} (h : CurAt B w C a cap bs s) : CurAt B w.drew C a cap bs s := h.keep rfl fun _ _ => rfl
theorem drawn_set2 {B : Nat} {w : World} {C : Nat} {a : Option Addr} {cap : Nat} {bs : List UInt8} {i : Nat} {h : Int} (hc : CurAt B w C a cap bs ⟨i, h⟩) (h' : Int) (W : World) (hW : W.heap = (w.setCell ⟨C, 2, none⟩ (.int .i64 h')).heap)
    (ho : W.os = w.os) (ht : W.tape = w.tape) (hu : W.output = w.output) : Drawn B w W C a cap bs ⟨i, h'⟩ := by
  have hne : ∀ b, b ≠ C → W.heap[b]? = w.heap[b]? := fun b hb => by
    rw [hW]
    exact heap_setCell_other w ⟨C, 2, none⟩ b _ hb
  refine ⟨⟨?_, hc.fit, hc.room, fun j hj => ?_, hc.up⟩, ⟨ho, ht, hu, by rw [hW]; simp [World.setCell], fun b _ hb => hne b (fun e => hb (by rw [e]))⟩⟩
  · rw [hW, heap_setCell_same w C 2 _ _ _ hc.cur]
    rfl
  · obtain ⟨b, o, e1, e2, e3⟩ := hc.code j hj
    exact ⟨b, o, e1, e2, (World.cell?_of_block (w := w) (a := ⟨b, o + j, none⟩) (hne b (by have := hc.up; omega))).trans e3⟩
theorem drawn_set12 {B : Nat} {w : World} {C : Nat} {a : Option Addr} {cap : Nat} {bs : List UInt8} {i : Nat} {h : Int} (hc : CurAt B w C a cap bs ⟨i, h⟩) (h' : Int) (k : Nat) (hi : i < bs.length) (z : Int) (hz : z = ((i + 1 : Nat) : Int)) (W : World) (hW : W.heap = ((w.setCell ⟨C, 2, none⟩ (.int .i64 h')).setCell ⟨C, 1, none⟩ (.int .i64 z)).heap)
    (ho : W.os = w.os) (ht : W.tape = w.tape) (hu : W.output = w.output) :
    Drawn B w W C a cap bs ⟨i + 1, h'⟩ := by
  have hne : ∀ b, b ≠ C → W.heap[b]? = w.heap[b]? := fun b hb => by
    rw [hW]
    exact (heap_setCell_other _ ⟨C, 1, none⟩ b _ hb).trans (heap_setCell_other w ⟨C, 2, none⟩ b _ hb)
  refine ⟨⟨?_, hi, hc.room, fun j hj => ?_, hc.up⟩, ⟨ho, ht, hu, by rw [hW]; simp [World.setCell], fun b _ hb => hne b (fun e => hb (by rw [e]))⟩⟩
  · rw [hW, heap_setCell_same _ C 1 _ _ _ (heap_setCell_same w C 2 _ _ _ hc.cur), hz]
    rfl
  · obtain ⟨b, o, e1, e2, e3⟩ := hc.code j hj
    exact ⟨b, o, e1, e2, (World.cell?_of_block (w := w) (a := ⟨b, o + j, none⟩) (hne b (by have := hc.up; omega))).trans e3⟩

set_option maxRecDepth 100000 in
theorem l1Byte_past (B : Nat) (w : World) (C : Nat) (a : Option Addr) (cap : Nat) (bs : List UInt8) (s : St) (hc : CurAt B w C a cap bs s) (hi : ¬ s.i < bs.length) :
    Calls Try.prog 88 #[.pointer (some ⟨C, 0, none⟩)] w fun e w' => e = .returned (.int .i64 (byteF bs s).1) ∧ Drawn B w w' C a cap bs (byteF bs s).2 := by
  obtain ⟨i, h⟩ := s
  have HC := Lib.hid hc
  have HE : Hid (byteF bs ⟨i, h⟩ = (xOf (hStep h), ⟨i, hStep h⟩)) := Lib.hid (if_neg hi)
  obtain ⟨hcur, hfit, hroom, hcode, hup⟩ := hc
  have hc0 : w.cell? ⟨C, 0, none⟩ = some (.slice a bs.length cap) := by rw [cell_of_row w C 0 _ _ _ hcur]; rfl
  have hc1 : w.cell? ⟨C, 1, none⟩ = some (.int .i64 i) := by rw [cell_of_row w C 1 _ _ _ hcur]; rfl
  have hc2 : w.cell? ⟨C, 2, none⟩ = some (.int .i64 h) := by rw [cell_of_row w C 2 _ _ _ hcur]; rfl
  have hf2 : w.frozen? ⟨C, 2, none⟩ = false := frozen_of_row w C 2 _ _ hcur
  clear hcur hcode
  simp only at hi hfit
  go_enter Try.func88, Try.ntmps88
  go_wp2
  go_quiet (fail)
  go_wp2
  go_quiet (fail)
  go_wp2
  go_ret
  rw [HE.out]
  exact ⟨rfl, drawn_set2 HC.out (hStep h) _ rfl rfl rfl rfl⟩

set_option maxRecDepth 100000 in
theorem l1Byte_more (B : Nat) (w : World) (C : Nat) (a : Option Addr) (cap : Nat) (bs : List UInt8) (s : St) (hc : CurAt B w C a cap bs s) (hi : s.i < bs.length) :
    Calls Try.prog 88 #[.pointer (some ⟨C, 0, none⟩)] w fun e w' => e = .returned (.int .i64 (byteF bs s).1) ∧ Drawn B w w' C a cap bs (byteF bs s).2 := by
  obtain ⟨i, h⟩ := s
  have HC := Lib.hid hc
  have HE : Hid (byteF bs ⟨i, h⟩ = (bits .and .i64 (xOf (hStep h) + ((bs.getD i 0).toNat : Int)) 255, ⟨i + 1, hStep h⟩)) := Lib.hid (if_pos hi)
  obtain ⟨hcur, hfit, hroom, hcode, hup⟩ := hc
  have hc0 : w.cell? ⟨C, 0, none⟩ = some (.slice a bs.length cap) := by rw [cell_of_row w C 0 _ _ _ hcur]; rfl
  have hc1 : w.cell? ⟨C, 1, none⟩ = some (.int .i64 i) := by rw [cell_of_row w C 1 _ _ _ hcur]; rfl
  have hc2 : w.cell? ⟨C, 2, none⟩ = some (.int .i64 h) := by rw [cell_of_row w C 2 _ _ _ hcur]; rfl
  have hf2 : w.frozen? ⟨C, 2, none⟩ = false := frozen_of_row w C 2 _ _ hcur
  have hf1 : w.frozen? ⟨C, 1, none⟩ = false := frozen_of_row w C 1 _ _ hcur
  simp only at hi hfit
  obtain ⟨b, o, rfl, hbB, hcb⟩ := hcode i hi
  have hbC : b ≠ C := by omega
  have hg : bs.getD i 0 = bs[i] := by simp [List.getD, hi]
  rw [hg] at HE
  have hb8 : ((bs[i]'hi).toNat : Int) < 256 := by have := (bs[i]'hi).toNat_lt; omega
  obtain ⟨D, hD⟩ : ∃ D : Int, D = ((bs[i]'hi).toNat : Int) := ⟨_, rfl⟩
  rw [← hD] at hcb HE hb8
  have hD0 : 0 ≤ D := by omega
  obtain ⟨X, hX⟩ : ∃ X, X = xOf (hStep h) := ⟨_, rfl⟩
  have hXr := and255 (bits .xor .i64 (hStep h / 8589934592) (hStep h / 35184372088832))
  have hX0 : 0 ≤ X := by rw [hX]; exact hXr.1
  have hX1 : X ≤ 255 := by rw [hX]; exact hXr.2
  clear hcur hcode hD hg hXr
  have HX := Lib.hid hX
  have hX' : bits .and .i64 (bits .xor .i64 (wrap64 (wrap64 (h * 6364136223846793005) + 1442695040888963407) / 8589934592) (wrap64 (wrap64 (h * 6364136223846793005) + 1442695040888963407) / 35184372088832)) 255 = X := hX.symm
  clear hX
  go_enter Try.func88, Try.ntmps88
  go_wp2
  go_quiet (fail)
  go_wp2
  go_quiet (fail)
  go_wp2
  go_quiet (fail)
  go_wp2
  go_ret
  rw [HE.out, ← HX.out]
  refine ⟨rfl, drawn_set12 HC.out (hStep h) 0 hi _ rfl _ ?_ rfl rfl rfl⟩
  rfl
theorem l1Byte_any (B : Nat) (w : World) (C : Nat) (a : Option Addr) (cap : Nat) (bs : List UInt8) (s : St) (hc : CurAt B w C a cap bs s) :
    Calls Try.prog 88 #[.pointer (some ⟨C, 0, none⟩)] w fun e w' => e = .returned (.int .i64 (byteF bs s).1) ∧ Drawn B w w' C a cap bs (byteF bs s).2 := by
  by_cases hi : s.i < bs.length
  · exact l1Byte_more B w C a cap bs s hc hi
  · exact l1Byte_past B w C a cap bs s hc hi
end Go.Proofs.Ytkflinobmagiiaa

end
