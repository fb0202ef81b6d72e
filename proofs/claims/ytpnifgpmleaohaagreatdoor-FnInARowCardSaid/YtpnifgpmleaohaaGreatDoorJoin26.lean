import Derived.Test.YtpnifgpmleaohaaGreatDoorProg
import Derived.Test.YtpnifgpmleaohaaGreatDoorJoin1
import Derived.Lib.Hide
import Derived.WalkSpells
import Derived.WalkLawsBesides
import Derived.Deep.QuietTactic
import Derived.BigQuiet
import Derived.Outline
/-! YtpnifgpmleaohaaGreatDoorZCur -/
section

namespace Go.Proofs.YtpnifgpmleaohaaGreatDoor
open Go.RowKit
set_option linter.unusedVariables false

/-- Where the cursor stands. -/
structure St where
  i : Nat
  h : Int
/-- The cursor in block C, over the code bs. -/
def curCells (a : Option Addr) (n cap : Nat) (s : St) : Array Value := #[.slice a n cap, .int .i64 s.i, .int .i64 s.h]
structure CurAt (B : Nat) (w : World) (C : Nat) (a : Option Addr) (cap : Nat) (bs : List UInt8) (s : St) : Prop where
  cur : w.heap[C]? = some (.cells (curCells a bs.length cap s) 162 (0, 0))
  fit : s.i ≤ bs.length
  room : bs.length ≤ 1048576
  code : ∀ j (hj : j < bs.length), ∃ b o, a = some ⟨b, o, none⟩ ∧ b < B ∧ w.cell? ⟨b, o + j, none⟩ = some (.int .u8 (bs[j].toNat : Int))
  up : B ≤ C

def hStep (h : Int) : Int := wrap64 (wrap64 (h * 6364136223846793005) + 1442695040888963407)
def xOf (h : Int) : Int := bits .and .i64 (bits .xor .i64 (h / 8589934592) (h / 35184372088832)) 255
theorem and255 (y : Int) : 0 ≤ bits .and .i64 y 255 ∧ bits .and .i64 y 255 ≤ 255 := by
  have e : bits .and .i64 y 255 = IntKind.i64.wrap (((BitVec.ofInt 64 y &&& BitVec.ofInt 64 255).toNat : Nat) : Int) := rfl
  have hb : (BitVec.ofInt 64 y &&& BitVec.ofInt 64 255).toNat ≤ 255 := by
    rw [BitVec.toNat_and]
    exact Nat.le_trans Nat.and_le_right (by decide)
  rw [e, IntKind.wrap_i64]
  omega
/-- One byte drawn: the number, and where the cursor stands then. -/
def byteF (bs : List UInt8) (s : St) : Int × St :=
  if s.i < bs.length then (bits .and .i64 (xOf (hStep s.h) + ((bs.getD s.i 0).toNat : Int)) 255, ⟨s.i + 1, hStep s.h⟩) else (xOf (hStep s.h), ⟨s.i, hStep s.h⟩)
theorem byteF_range (bs : List UInt8) (s : St) : 0 ≤ (byteF bs s).1 ∧ (byteF bs s).1 ≤ 255 := by
  unfold byteF
  split
  · exact and255 _
  · exact and255 _

/-- What a drawing call leaves: the cursor's block turned, nothing else that was there. -/
structure Drawn (B : Nat) (w w' : World) (C : Nat) (a : Option Addr) (cap : Nat) (bs : List UInt8) (s : St) : Prop where
  at_ : CurAt B w' C a cap bs s
  grown : w.grownBy w' (some C)

theorem Drawn.refl {B : Nat} {w : World} {C : Nat} {a : Option Addr} {cap : Nat} {bs : List UInt8} {s : St} (h : CurAt B w C a cap bs s) : Drawn B w w C a cap bs s := ⟨h, World.grownBy.refl _ _⟩
theorem grownBy_trans {w w1 w2 : World} {r : Option Nat} (h : w.grownBy w1 r) (k : w1.grownBy w2 r) : w.grownBy w2 r :=
  ⟨k.os.trans h.os, k.tape.trans h.tape, k.output.trans h.output, Nat.le_trans h.size k.size, fun b hb hr => (k.block b (Nat.lt_of_lt_of_le hb h.size) hr).trans (h.block b hb hr)⟩
theorem Drawn.trans {B : Nat} {w w1 w2 : World} {C : Nat} {a : Option Addr} {cap : Nat} {bs : List UInt8} {s s' : St} (h : Drawn B w w1 C a cap bs s) (k : Drawn B w1 w2 C a cap bs s') : Drawn B w w2 C a cap bs s' :=
  ⟨k.at_, grownBy_trans h.grown k.grown⟩
theorem Drawn.below {B : Nat} {w w' : World} {C : Nat} {a : Option Addr} {cap : Nat} {bs : List UInt8} {s : St} (h : Drawn B w w' C a cap bs s) (hB : B ≤ w.heap.size) : Below B w w' :=
  (Below.refl B w).grown h.grown hB (fun k hk => by cases hk; exact h.at_.up)
/-- The cursor stands as it did where its block was not turned. -/
theorem CurAt.keep {B : Nat} {w w' : World} {C : Nat} {a : Option Addr} {cap : Nat} {bs : List UInt8} {s : St} (h : CurAt B w C a cap bs s) (hC : w'.heap[C]? = w.heap[C]?) (hb : ∀ k, k < B → w'.heap[k]? = w.heap[k]?) : CurAt B w' C a cap bs s :=
  ⟨hC.trans h.cur, h.fit, h.room, fun j hj => by
    obtain ⟨b, o, e1, e2, e3⟩ := h.code j hj
    exact ⟨b, o, e1, e2, (World.cell?_of_block (w := w) (a := ⟨b, o + j, none⟩) (hb b e2)).trans e3⟩, h.up⟩
theorem CurAt.grown {B : Nat} {w w' : World} {C : Nat} {a : Option Addr} {cap : Nat} {bs : List UInt8} {s : St} {row : Option Nat} (h : CurAt B w C a cap bs s) (hg : w.grownBy w' row) (hr : ∀ k, row = some k → B ≤ k ∧ k ≠ C) : CurAt B w' C a cap bs s := by
  have hCl : C < w.heap.size := (Array.getElem?_eq_some_iff.1 h.cur).1
  exact h.keep (hg.block C hCl (fun e => (hr C e.symm).2 rfl)) fun k hk => hg.block k (by have := h.up; omega) (fun e => by have := (hr k e.symm).1; omega)
theorem CurAt.alloc {B : Nat} {w : World} {C : Nat} {a : Option Addr} {cap : Nat} {bs : List UInt8} {s : St} (h : CurAt B w C a cap bs s) (o : Obj) : CurAt B (w.alloc o) C a cap bs s :=
  h.grown (World.grownBy_alloc w o none) (fun k hk => by cases hk)
theorem CurAt.drew {B : Nat} {w : World} {C : Nat} {a : Option Addr} {cap : Nat} {bs : List UInt8} {s : St} (h : CurAt B w C a cap bs s) : CurAt B w.drew C a cap bs s := h.keep rfl fun _ _ => rfl
theorem drawn_set2 {B : Nat} {w : World} {C : Nat} {a : Option Addr} {cap : Nat} {bs : List UInt8} {i : Nat} {h : Int} (hc : CurAt B w C a cap bs ⟨i, h⟩) (h' : Int) (W : World) (hW : W.heap = (w.setCell ⟨C, 2, none⟩ (.int .i64 h')).heap)
    (ho : W.os = w.os) (ht : W.tape = w.tape) (hu : W.output = w.output) : Drawn B w W C a cap bs ⟨i, h'⟩ := by
  have hne : ∀ b, b ≠ C → W.heap[b]? = w.heap[b]? := fun b hb => by
    rw [hW]
    exact heap_setCell_other w ⟨C, 2, none⟩ b _ hb
  refine ⟨⟨?_, hc.fit, hc.room, fun j hj => ?_, hc.up⟩, ⟨ho, ht, hu, by rw [hW]; simp [World.setCell], fun b _ hb => hne b (fun e => hb (by rw [e]))⟩⟩
  · rw [hW, heap_setCell_same w C 2 _ _ _ hc.cur]
    rfl
  · obtain ⟨b, o, e1, e2, e3⟩ := hc.code j hj
    exact ⟨b, o, e1, e2, (World.cell?_of_block (w := w) (a := ⟨b, o + j, none⟩) (hne b (by have := hc.up; omega))).trans e3⟩
theorem drawn_set12 {B : Nat} {w : World} {C : Nat} {a : Option Addr} {cap : Nat} {bs : List UInt8} {i : Nat} {h : Int} (hc : CurAt B w C a cap bs ⟨i, h⟩) (h' : Int) (k : Nat) (hi : i < bs.length) (z : Int) (hz : z = ((i + 1 : Nat) : Int)) (W : World) (hW : W.heap = ((w.setCell ⟨C, 2, none⟩ (.int .i64 h')).setCell ⟨C, 1, none⟩ (.int .i64 z)).heap)
    (ho : W.os = w.os) (ht : W.tape = w.tape) (hu : W.output = w.output) :
    Drawn B w W C a cap bs ⟨i + 1, h'⟩ := by
  have hne : ∀ b, b ≠ C → W.heap[b]? = w.heap[b]? := fun b hb => by
    rw [hW]
    exact (heap_setCell_other _ ⟨C, 1, none⟩ b _ hb).trans (heap_setCell_other w ⟨C, 2, none⟩ b _ hb)
  refine ⟨⟨?_, hi, hc.room, fun j hj => ?_, hc.up⟩, ⟨ho, ht, hu, by rw [hW]; simp [World.setCell], fun b _ hb => hne b (fun e => hb (by rw [e]))⟩⟩
  · rw [hW, heap_setCell_same _ C 1 _ _ _ (heap_setCell_same w C 2 _ _ _ hc.cur), hz]
    rfl
  · obtain ⟨b, o, e1, e2, e3⟩ := hc.code j hj
    exact ⟨b, o, e1, e2, (World.cell?_of_block (w := w) (a := ⟨b, o + j, none⟩) (hne b (by have := hc.up; omega))).trans e3⟩

set_option maxRecDepth 100000 in
theorem l1Byte_past (B : Nat) (w : World) (C : Nat) (a : Option Addr) (cap : Nat) (bs : List UInt8) (s : St) (hc : CurAt B w C a cap bs s) (hi : ¬ s.i < bs.length) :
    Calls Tryz.prog 141 #[.pointer (some ⟨C, 0, none⟩)] w fun e w' => e = .returned (.int .i64 (byteF bs s).1) ∧ Drawn B w w' C a cap bs (byteF bs s).2 := by
  obtain ⟨i, h⟩ := s
  have HC := Lib.hid hc
  have HE : Hid (byteF bs ⟨i, h⟩ = (xOf (hStep h), ⟨i, hStep h⟩)) := Lib.hid (if_neg hi)
  obtain ⟨hcur, hfit, hroom, hcode, hup⟩ := hc
  have hc0 : w.cell? ⟨C, 0, none⟩ = some (.slice a bs.length cap) := by rw [cell_of_row w C 0 _ _ _ hcur]; rfl
  have hc1 : w.cell? ⟨C, 1, none⟩ = some (.int .i64 i) := by rw [cell_of_row w C 1 _ _ _ hcur]; rfl
  have hc2 : w.cell? ⟨C, 2, none⟩ = some (.int .i64 h) := by rw [cell_of_row w C 2 _ _ _ hcur]; rfl
  have hf2 : w.frozen? ⟨C, 2, none⟩ = false := frozen_of_row w C 2 _ _ hcur
  clear hcur hcode
  simp only at hi hfit
  go_enter Tryz.func141, Tryz.ntmps141
  go_wp2
  go_quiet (fail)
  go_wp2
  go_quiet (fail)
  go_wp2
  go_ret
  rw [HE.out]
  exact ⟨rfl, drawn_set2 HC.out (hStep h) _ rfl rfl rfl rfl⟩

set_option maxRecDepth 100000 in
theorem l1Byte_more (B : Nat) (w : World) (C : Nat) (a : Option Addr) (cap : Nat) (bs : List UInt8) (s : St) (hc : CurAt B w C a cap bs s) (hi : s.i < bs.length) :
    Calls Tryz.prog 141 #[.pointer (some ⟨C, 0, none⟩)] w fun e w' => e = .returned (.int .i64 (byteF bs s).1) ∧ Drawn B w w' C a cap bs (byteF bs s).2 := by
  obtain ⟨i, h⟩ := s
  have HC := Lib.hid hc
  have HE : Hid (byteF bs ⟨i, h⟩ = (bits .and .i64 (xOf (hStep h) + ((bs.getD i 0).toNat : Int)) 255, ⟨i + 1, hStep h⟩)) := Lib.hid (if_pos hi)
  obtain ⟨hcur, hfit, hroom, hcode, hup⟩ := hc
  have hc0 : w.cell? ⟨C, 0, none⟩ = some (.slice a bs.length cap) := by rw [cell_of_row w C 0 _ _ _ hcur]; rfl
  have hc1 : w.cell? ⟨C, 1, none⟩ = some (.int .i64 i) := by rw [cell_of_row w C 1 _ _ _ hcur]; rfl
  have hc2 : w.cell? ⟨C, 2, none⟩ = some (.int .i64 h) := by rw [cell_of_row w C 2 _ _ _ hcur]; rfl
  have hf2 : w.frozen? ⟨C, 2, none⟩ = false := frozen_of_row w C 2 _ _ hcur
  have hf1 : w.frozen? ⟨C, 1, none⟩ = false := frozen_of_row w C 1 _ _ hcur
  simp only at hi hfit
  obtain ⟨b, o, rfl, hbB, hcb⟩ := hcode i hi
  have hbC : b ≠ C := by omega
  have hg : bs.getD i 0 = bs[i] := by simp [List.getD, hi]
  rw [hg] at HE
  have hb8 : ((bs[i]'hi).toNat : Int) < 256 := by have := (bs[i]'hi).toNat_lt; omega
  obtain ⟨D, hD⟩ : ∃ D : Int, D = ((bs[i]'hi).toNat : Int) := ⟨_, rfl⟩
  rw [← hD] at hcb HE hb8
  have hD0 : 0 ≤ D := by omega
  obtain ⟨X, hX⟩ : ∃ X, X = xOf (hStep h) := ⟨_, rfl⟩
  have hXr := and255 (bits .xor .i64 (hStep h / 8589934592) (hStep h / 35184372088832))
  have hX0 : 0 ≤ X := by rw [hX]; exact hXr.1
  have hX1 : X ≤ 255 := by rw [hX]; exact hXr.2
  clear hcur hcode hD hg hXr
  have HX := Lib.hid hX
  have hX' : bits .and .i64 (bits .xor .i64 (wrap64 (wrap64 (h * 6364136223846793005) + 1442695040888963407) / 8589934592) (wrap64 (wrap64 (h * 6364136223846793005) + 1442695040888963407) / 35184372088832)) 255 = X := hX.symm
  clear hX
  go_enter Tryz.func141, Tryz.ntmps141
  go_wp2
  go_quiet (fail)
  go_wp2
  go_quiet (fail)
  go_wp2
  go_quiet (fail)
  go_wp2
  go_ret
  rw [HE.out, ← HX.out]
  refine ⟨rfl, drawn_set12 HC.out (hStep h) 0 hi _ rfl _ ?_ rfl rfl rfl⟩
  rfl
theorem l1Byte_any (B : Nat) (w : World) (C : Nat) (a : Option Addr) (cap : Nat) (bs : List UInt8) (s : St) (hc : CurAt B w C a cap bs s) :
    Calls Tryz.prog 141 #[.pointer (some ⟨C, 0, none⟩)] w fun e w' => e = .returned (.int .i64 (byteF bs s).1) ∧ Drawn B w w' C a cap bs (byteF bs s).2 := by
  by_cases hi : s.i < bs.length
  · exact l1Byte_more B w C a cap bs s hc hi
  · exact l1Byte_past B w C a cap bs s hc hi
end Go.Proofs.YtpnifgpmleaohaaGreatDoor

end

/-! YtpnifgpmleaohaaGreatDoorZDraw -/
section

namespace Go.Proofs.YtpnifgpmleaohaaGreatDoor
open Go.RowKit
set_option linter.unusedVariables false

theorem and30 (y : Int) : 0 ≤ bits .and .i64 y 1073741823 ∧ bits .and .i64 y 1073741823 ≤ 1073741823 := by
  have e : bits .and .i64 y 1073741823 = IntKind.i64.wrap (((BitVec.ofInt 64 y &&& BitVec.ofInt 64 1073741823).toNat : Nat) : Int) := rfl
  have hb : (BitVec.ofInt 64 y &&& BitVec.ofInt 64 1073741823).toNat ≤ 1073741823 := by
    rw [BitVec.toNat_and]
    exact Nat.le_trans Nat.and_le_right (by decide)
  rw [e, IntKind.wrap_i64]
  omega
/-- The number that the code's first k bytes make. -/
def newH (bs : List UInt8) : Nat → Int
  | 0 => 10101 + bs.length
  | k + 1 => bits .and .i64 (newH bs k * 131 + ((bs.getD k 0).toNat : Int) + 7) 1073741823
theorem newH_range (bs : List UInt8) (h : bs.length ≤ 1048576) (k : Nat) : 0 ≤ newH bs k ∧ newH bs k ≤ 1073741823 := by
  cases k with
  | zero => simp only [newH]; omega
  | succ k => exact and30 _
def newSt (bs : List UInt8) : St := ⟨0, newH bs (min bs.length 4000)⟩

set_option maxRecDepth 100000 in
theorem l1New_any (B : Nat) (w : World) (a : Option Addr) (cap : Nat) (bs : List UInt8) (hB : B ≤ w.heap.size) (hroom : bs.length ≤ 1048576)
    (hcode : ∀ j (hj : j < bs.length), ∃ b o, a = some ⟨b, o, none⟩ ∧ b < B ∧ w.cell? ⟨b, o + j, none⟩ = some (.int .u8 (bs[j].toNat : Int))) :
    Calls Tryz.prog 63 #[.slice a bs.length cap] w fun e w' => e = .returned (.pointer (some ⟨w.heap.size, 0, none⟩)) ∧ CurAt B w' w.heap.size a cap bs (newSt bs) ∧ w.grownBy w' none := by
  go_enter Tryz.func63, Tryz.ntmps63
  go_wp2
  go_loop [3, 4] (fun h i => ∃ (k : Nat) (H : Int), k ≤ bs.length ∧ k ≤ 4000 ∧ 0 ≤ H ∧ H ≤ 1073741823 ∧ Hid (H = newH bs k) ∧ h = .int .i64 H ∧ i = .int .i64 k) (fun _ i => 4000 - (intOf i).toNat)
  case atStart => exact ⟨0, newH bs 0, Nat.zero_le _, Nat.zero_le _, (newH_range bs hroom 0).1, (newH_range bs hroom 0).2, Lib.hid rfl, rfl, rfl⟩
  case round =>
    obtain ⟨k, H, hk, hk4, hH0, hH1, hH, rfl, rfl⟩ := hrel
    by_cases hlt : k < bs.length
    · by_cases hlt4 : k < 4000
      · obtain ⟨b, o, rfl, hbB, hcb⟩ := hcode k hlt
        have hb8 : ((bs[k]'hlt).toNat : Int) < 256 := by have := (bs[k]'hlt).toNat_lt; omega
        obtain ⟨D, hD⟩ : ∃ D : Int, D = ((bs[k]'hlt).toNat : Int) := ⟨_, rfl⟩
        rw [← hD] at hcb hb8
        have hD0 : 0 ≤ D := by omega
        have hg : bs.getD k 0 = bs[k] := by simp [List.getD, hlt]
        have HN : Hid (newH bs (k + 1) = bits .and .i64 (H * 131 + D + 7) 1073741823) := Lib.hid (by rw [newH, hg, hD, hH.out])
        obtain ⟨Z, hZ⟩ : ∃ Z, bits .and .i64 (H * 131 + D + 7) 1073741823 = Z := ⟨_, rfl⟩
        have hZr := and30 (H * 131 + D + 7)
        rw [hZ] at hZr HN
        obtain ⟨hZ0, hZ1⟩ := hZr
        clear hD hg hcode
        go_wp2
        go_round
        case rel => exact ⟨k + 1, Z, by omega, by omega, hZ0, hZ1, Lib.hid HN.out.symm, rfl, by go_num⟩
        case measure => simp [intOf]; omega
      · have hd : decide ((k : Int) < 4000) = false := by simp; omega
        have HN : Hid (newSt bs = ⟨0, H⟩) := Lib.hid (by rw [newSt, hH.out, show min bs.length 4000 = k by omega])
        have HCODE := Lib.hid hcode
        clear hcode
        go_wp2
        go_ret
        rw [HN.out]
        refine ⟨rfl, ⟨?_, Nat.zero_le _, hroom, fun j hj => ?_, hB⟩, World.grownBy_alloc w _ none⟩
        · exact heap_alloc_new w _
        · obtain ⟨b, o, e1, e2, e3⟩ := HCODE.out j hj
          exact ⟨b, o, e1, e2, (World.cell?_of_block (w := w) (a := ⟨b, o + j, none⟩) (Below.heap_alloc w _ b (by omega))).trans e3⟩
    · have hd : decide (k < bs.length) = false := by simpa using hlt
      have HN : Hid (newSt bs = ⟨0, H⟩) := Lib.hid (by rw [newSt, hH.out, show min bs.length 4000 = k by omega])
      have HCODE := Lib.hid hcode
      clear hcode
      go_wp2
      go_ret
      rw [HN.out]
      refine ⟨rfl, ⟨?_, Nat.zero_le _, hroom, fun j hj => ?_, hB⟩, World.grownBy_alloc w _ none⟩
      · exact heap_alloc_new w _
      · obtain ⟨b, o, e1, e2, e3⟩ := HCODE.out j hj
        exact ⟨b, o, e1, e2, (World.cell?_of_block (w := w) (a := ⟨b, o + j, none⟩) (Below.heap_alloc w _ b (by omega))).trans e3⟩

/-- A number below n. -/
def belowF (bs : List UInt8) (s : St) (n : Int) : Int × St :=
  if n ≤ 0 then (0, s) else if n ≤ 256 then ((byteF bs s).1 % n, (byteF bs s).2) else
    (((byteF bs s).1 * 16777216 + (byteF bs (byteF bs s).2).1 * 65536 + (byteF bs (byteF bs (byteF bs s).2).2).1 * 256 + (byteF bs (byteF bs (byteF bs (byteF bs s).2).2).2).1) % n,
      (byteF bs (byteF bs (byteF bs (byteF bs s).2).2).2).2)
theorem belowF_range {bs : List UInt8} {s s' : St} {n x : Int} (h : belowF bs s n = (x, s')) (hn : 0 < n) : 0 ≤ x ∧ x < n := by
  have e : x = (belowF bs s n).1 := by rw [h]
  rw [e, belowF, if_neg (by omega)]
  split
  · exact ⟨Int.emod_nonneg _ (by omega), Int.emod_lt_of_pos _ hn⟩
  · exact ⟨Int.emod_nonneg _ (by omega), Int.emod_lt_of_pos _ hn⟩
theorem belowF_zero {bs : List UInt8} {s s' : St} {n x : Int} (h : belowF bs s n = (x, s')) (hn : n ≤ 0) : x = 0 ∧ s' = s := by
  rw [belowF, if_pos hn] at h
  simp only [Prod.mk.injEq] at h
  exact ⟨h.1.symm, h.2.symm⟩

theorem l1Byte_at (B : Nat) (w : World) (C : Nat) (a : Option Addr) (cap : Nat) (bs : List UInt8) (s s' : St) (x : Int) (hE : byteF bs s = (x, s')) (hc : CurAt B w C a cap bs s) :
    Calls Tryz.prog 141 #[.pointer (some ⟨C, 0, none⟩)] w fun e w' => e = .returned (.int .i64 x) ∧ Drawn B w w' C a cap bs s' := by
  have := l1Byte_any B w C a cap bs s hc
  rw [hE] at this
  exact this
theorem byteF_at {bs : List UInt8} {s s' : St} {x : Int} (h : byteF bs s = (x, s')) : 0 ≤ x ∧ x ≤ 255 := by
  have := byteF_range bs s
  rw [h] at this
  exact this

set_option maxRecDepth 100000 in
theorem l1Below_at (B : Nat) (w : World) (C : Nat) (a : Option Addr) (cap : Nat) (bs : List UInt8) (s s' : St) (n x : Int) (hE : belowF bs s n = (x, s')) (hc : CurAt B w C a cap bs s) :
    Calls Tryz.prog 68 #[.pointer (some ⟨C, 0, none⟩), .int .i64 n] w fun e w' => e = .returned (.int .i64 x) ∧ Drawn B w w' C a cap bs s' := by
  have HC := Lib.hid hc
  clear hc
  by_cases h0 : n ≤ 0
  · obtain ⟨rfl, rfl⟩ := belowF_zero hE h0
    clear hE
    go_enter Tryz.func68, Tryz.ntmps68
    go_wp2_with fail
    go_ret
    exact ⟨rfl, Drawn.refl HC.out⟩
  · by_cases h1 : n ≤ 256
    · rcases hb : byteF bs s with ⟨y, s1⟩
      obtain ⟨hy0, hy1⟩ := byteF_at hb
      have HE : Hid (x = y % n ∧ s' = s1) := Lib.hid (by
        rw [belowF, if_neg h0, if_pos h1, hb] at hE
        simp only [Prod.mk.injEq] at hE
        exact ⟨hE.1.symm, hE.2.symm⟩)
      have HB := Lib.hid hb
      clear hE hb
      go_enter Tryz.func68, Tryz.ntmps68
      go_wp2_with fail
      refine (l1Byte_at B _ C a cap bs s s1 y HB.out HC.out).mono ?_
      rintro e w1 ⟨rfl, hd1⟩
      go_wp2_with fail
      go_ret
      rw [HE.out.1, HE.out.2]
      exact ⟨rfl, hd1⟩
    · rcases hb1 : byteF bs s with ⟨y1, s1⟩
      rcases hb2 : byteF bs s1 with ⟨y2, s2⟩
      rcases hb3 : byteF bs s2 with ⟨y3, s3⟩
      rcases hb4 : byteF bs s3 with ⟨y4, s4⟩
      obtain ⟨hy10, hy11⟩ := byteF_at hb1
      obtain ⟨hy20, hy21⟩ := byteF_at hb2
      obtain ⟨hy30, hy31⟩ := byteF_at hb3
      obtain ⟨hy40, hy41⟩ := byteF_at hb4
      have HE : Hid (x = (y1 * 16777216 + y2 * 65536 + y3 * 256 + y4) % n ∧ s' = s4) := Lib.hid (by
        rw [belowF, if_neg h0, if_neg h1] at hE
        simp only [hb1, hb2, hb3, hb4, Prod.mk.injEq] at hE
        exact ⟨hE.1.symm, hE.2.symm⟩)
      have HB1 := Lib.hid hb1
      have HB2 := Lib.hid hb2
      have HB3 := Lib.hid hb3
      have HB4 := Lib.hid hb4
      clear hE hb1 hb2 hb3 hb4
      go_enter Tryz.func68, Tryz.ntmps68
      go_wp2_with fail
      refine (l1Byte_at B _ C a cap bs s s1 y1 HB1.out HC.out).mono ?_
      rintro e w1 ⟨rfl, hd1⟩
      go_wp2_with fail
      refine (l1Byte_at B _ C a cap bs s1 s2 y2 HB2.out hd1.at_).mono ?_
      rintro e w2 ⟨rfl, hd2⟩
      go_wp2_with fail
      refine (l1Byte_at B _ C a cap bs s2 s3 y3 HB3.out hd2.at_).mono ?_
      rintro e w3 ⟨rfl, hd3⟩
      go_wp2_with fail
      refine (l1Byte_at B _ C a cap bs s3 s4 y4 HB4.out hd3.at_).mono ?_
      rintro e w4 ⟨rfl, hd4⟩
      go_wp2_with fail
      go_ret
      rw [HE.out.1, HE.out.2]
      exact ⟨rfl, ((hd1.trans hd2).trans hd3).trans hd4⟩

set_option maxRecDepth 100000 in
theorem l1Once_at (B : Nat) (w : World) (C : Nat) (a : Option Addr) (cap : Nat) (bs : List UInt8) (s s' : St) (n x : Int) (hE : belowF bs s n = (x, s')) (hc : CurAt B w C a cap bs s) :
    Calls Tryz.prog 66 #[.pointer (some ⟨C, 0, none⟩), .int .i64 n] w fun e w' => e = .returned (.bool (x == 0)) ∧ Drawn B w w' C a cap bs s' := by
  have HC := Lib.hid hc
  have HE := Lib.hid hE
  clear hc hE
  go_enter Tryz.func66, Tryz.ntmps66
  go_wp2_with fail
  refine (l1Below_at B _ C a cap bs s s' n x HE.out HC.out).mono ?_
  rintro e w1 ⟨rfl, hd1⟩
  go_wp2_with fail
  go_ret
  exact ⟨rfl, hd1⟩

/-- The numbers at limits. -/
def numTab : List Int := [-1, 0, 127, 128, 255, 256, 16383, 16384, 65535, 65536, 562949953421311, 562949953421312, 999999999, 1000000000, -999999999, 9223372036854775807, -9223372036854775808]
set_option maxRecDepth 100000 in
theorem l1PickInt_at (B : Nat) (w : World) (C : Nat) (a : Option Addr) (cap : Nat) (bs : List UInt8) (s s' : St) (x : Int) (L m : Nat) (zs : List Int) (hm : zs.length = m) (hm0 : 0 < m) (hm1 : m ≤ 1000)
    (hE : belowF bs s m = (x, s')) (hc : CurAt B w C a cap bs s) (hLC : L ≠ C) (hz : ∀ j, j < m → w.cell? ⟨L, j, none⟩ = some (.int .i64 (zs.getD j 0))) :
    Calls Tryz.prog 138 #[.pointer (some ⟨C, 0, none⟩), .slice (some ⟨L, 0, none⟩) m m] w fun e w' => e = .returned (.int .i64 (zs.getD x.toNat 0)) ∧ Drawn B w w' C a cap bs s' := by
  have hr := belowF_range hE (by omega)
  obtain ⟨hr0, hr1⟩ := hr
  obtain ⟨k, hk⟩ : ∃ k : Nat, x = k := ⟨x.toNat, by omega⟩
  subst hk
  have hk1 : k < m := by omega
  have HC := Lib.hid hc
  have HE := Lib.hid hE
  have HZ := Lib.hid (hz k hk1)
  have HM := Lib.hid hm
  have hLl : L < w.heap.size := World.block_lt_of_cell? w _ (hz k hk1)
  clear hc hE hz hm
  go_enter Tryz.func138, Tryz.ntmps138
  go_wp2_with fail
  refine (l1Below_at B _ C a cap bs s s' m k HE.out HC.out).mono ?_
  rintro e w1 ⟨rfl, hd1⟩
  have hcl := hd1.grown.cell HZ.out (fun e => hLC (Option.some.inj e))
  obtain ⟨Y, hY⟩ : ∃ Y, Y = zs.getD k 0 := ⟨_, rfl⟩
  rw [← hY] at hcl
  have HY := Lib.hid hY
  clear hY
  go_wp2_with fail
  go_ret
  exact ⟨by rw [Int.toNat_natCast, ← HY.out]; rfl, hd1⟩
end Go.Proofs.YtpnifgpmleaohaaGreatDoor

end
